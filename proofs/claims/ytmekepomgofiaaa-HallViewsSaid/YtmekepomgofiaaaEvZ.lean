import Derived.Test.YtmekepomgofiaaaEvY
import Derived.Below
set_option linter.all false
namespace Go.Ev
open Go.RowKit
/-- no values of a kind of one's own -/
def noCust : Cust := ⟨fun _ _ _ _ => False, fun _ _ _ _ _ _ h => h.elim, fun _ _ _ _ h => h.elim, fun _ => False⟩
def trueOut : Option Out → Bool
  | some ⟨_, .val (.bool true), _, _⟩ => true
  | _ => false
/-- a call without arguments that the evaluator finds to be true -/
theorem true_any {P : Program} {F : FuncId → Option AFun} {raw : Raw} {n f : Nat} (hm : P.follows .mixedOrders = true) (hF : ∀ f fn, F f = some fn → compF P f = some fn) (hT : ClOK noCust P raw.tab)
    (h : trueOut (callF F raw n f [] [.dead] 0) = true) (w : World) : Calls P f #[] w fun e w' => e = .returned (.bool true) ∧ Below w.heap.size w w' := by
  cases hc : callF F raw n f [] [.dead] 0 with
  | none => rw [hc] at h; cases h
  | some out =>
    rw [hc] at h
    obtain ⟨h1, h2⟩ := callF_ok (K := noCust) (raw := raw) (drawn_ok hm) hF hT n f [] [.dead] 0 out hc (callF_true n _ _ _ _ _ hc)
    have hk : OK noCust w [.fresh] [.dead] := by
      refine ⟨rfl, fun i b n hi => ?_, fun i j b n m hi => ?_, fun i x hx => ?_, fun _ h => h.elim, fun _ _ _ _ h => h⟩
      · cases i <;> simp at hi
      · cases i <;> simp at hi
      · cases i with
        | zero => simp at hx; subst hx; trivial
        | succ i => simp at hx
    refine (h2 w [.fresh] [] hk (by simp [RepL]) rfl).mono fun e w' he => ?_
    obtain ⟨v, rfl, ρ', hv, hE⟩ := he
    have hd : out.d = .val (.bool true) := by
      unfold trueOut at h
      split at h
      · rename_i heq; cases heq; rfl
      · cases h
    rw [hd] at hv
    simp only [Rep] at hv
    subst hv
    refine ⟨rfl, hE.env.1, hE.env.2.1, hE.env.2.2, hE.size, fun b hb => hE.keep b hb fun i n hi => ?_⟩
    cases i <;> simp at hi
end Go.Ev
