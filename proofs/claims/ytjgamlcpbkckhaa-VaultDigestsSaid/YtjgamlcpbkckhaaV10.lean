import Derived.Test.YtjgamlcpbkckhaaV9
import Derived.Test.YtjgamlcpbkckhaaEvZi
set_option linter.all false
open Go Go.Ev Go.RowKit
namespace Go.Ev
set_option maxRecDepth 100000
set_option linter.all false
def sameP (n : Nat) (a : Nat → Int) (m : Nat) (c : Nat → Int) : Prop := n = m ∧ ∀ i, i < n → a i = c i
open Classical in
noncomputable def sameB (n : Nat) (a : Nat → Int) (m : Nat) (c : Nat → Int) : Bool := decide (sameP n a m c)
open Classical in
theorem sameB_true {n : Nat} {a : Nat → Int} {m : Nat} {c : Nat → Int} (h : sameP n a m c) : sameB n a m c = true := by
  unfold sameB
  exact decide_eq_true h
open Classical in
theorem sameB_false {n : Nat} {a : Nat → Int} {m : Nat} {c : Nat → Int} (h : ¬ sameP n a m c) : sameB n a m c = false := by
  unfold sameB
  exact decide_eq_false h
def samIx : List Nat := [6, 7, 8, 9, 10, 11, 12, 13, 14, 15, 16, 17, 18, 19, 20, 21, 22, 23, 24, 25]
def sam0 (n : Nat) (a : Nat → Int) (m : Nat) (c : Nat → Int) : St := startF af_12 [rowB n a, rowB m c] [.dead]
noncomputable def samSt (n : Nat) (a : Nat → Int) (m : Nat) (c : Nat → Int) (i : Int) : St :=
  fgt samIx (put1 5 (.val (.int .i64 i)) (at_ noC af_12.body 3 (at_ noC af_12.body 1 (at_ noC af_12.body 0 (sam0 n a m c)))))
theorem sam_leaf {n : Nat} {a : Nat → Int} {m : Nat} {c : Nat → Int} {s : St} (t : Bool) (h : endO false 0 af_12 .ret s = some ⟨none, .val (.bool t), [], []⟩) (hb : sameB n a m c = t) :
    EndP false 0 af_12 (fun o => o = ⟨none, .val (.bool (sameB n a m c)), [], []⟩) .ret s := endO_p _ (by rw [hb]) h
theorem sam_aw (P : Program) (hm : P.follows .mixedOrders = true) (n : Nat) (a : Nat → Int) (m : Nat) (c : Nat → Int) (K : Cust) (w : World) (hn : n ≤ 1000000) :
    AW noC (LoopA K P w [.fresh] [.dead]) af_12.body (startF af_12 [rowB n a, rowB m c] [.dead]) (EndP false 0 af_12 fun o => o = ⟨none, .val (.bool (sameB n a m c)), [], []⟩) := by
  refine aw_reg0 (aw_assoc (aw_reg0 ?_))
  refine aw_ifs ((n : Int) != (m : Int)) (fun ht => ?_) (fun hf => ?_)
  · have ht : n ≠ m := by
      intro e
      subst e
      simp at ht
    exact aw_assoc (aw_reg0 (aw_rets (sam_leaf false (by kernel_rfl) (sameB_false fun h => ht h.1))))
  have hf : n = m := by
    have : ((n : Int) == (m : Int)) = true := by simpa [bne] using hf
    exact Int.ofNat.inj (eq_of_beq this)
  subst hf
  refine aw_skips (aw_assoc (aw_reg0 ?_))
  refine aw_loop (ι := { i : Nat // i ≤ n ∧ ∀ j, j < i → a j = c j }) hm noC_ok samIx (fun x => samSt n a n c x.1) (fun x => n - x.1) ⟨0, Nat.zero_le n, fun j hj => by omega⟩ (fun x => ?_) (by kernel_rfl)
  obtain ⟨i, hin, hall⟩ := x
  refine aw_assoc (aw_reg0 ?_)
  refine aw_ifs (decide ((i : Int) < n)) (fun ht => ?_) (fun hf => ?_)
  · have ht : i < n := by simpa using ht
    refine aw_skips (aw_blocks (aw_reg ((True ∧ (0 ≤ (i : Int) ∧ (i : Int) < n)) ∧ (0 ≤ (i : Int) ∧ (i : Int) < n)) ⟨⟨trivial, by omega, by omega⟩, by omega, by omega⟩ ?_))
    refine aw_if (a i != c i) (fun h1 => ?_) (fun h1 => ?_)
    · have h1 : a i ≠ c i := by
        intro e
        rw [e] at h1
        simp at h1
      refine aw_reg0 (aw_ret (blk_ret (seq_ret (round_ret (blk_ret (seq_ret ?_))))))
      exact sam_leaf false (by kernel_rfl) (sameB_false fun h => h1 (h.2 i ht))
    · have h1 : a i = c i := by
        have : (a i == c i) = true := by simpa [bne] using h1
        exact eq_of_beq this
      refine aw_skip (blk_normal (seq_normal ?_))
      refine aw_end (True ∧ inRange .i64 ((i : Int) + 1)) ⟨trivial, by simp only [inRange, IntKind.min, IntKind.max, IntKind.signed, IntKind.bits]; omega⟩ ?_
      refine round_endT (st := fun x : { i : Nat // i ≤ n ∧ ∀ j, j < i → a j = c j } => samSt n a n c x.1) 1 samIx ⟨i + 1, ht, fun j hj => by
        rcases Nat.lt_or_ge j i with h | h
        · exact hall j h
        · have : j = i := by omega
          subst this; exact h1⟩ (by show n - (i + 1) < n - i; omega) ((∀ j, j < n → True ∧ True) ∧ (∀ j, j < n → True ∧ True) ∧ True) True ⟨fun _ _ => ⟨trivial, trivial⟩, fun _ _ => ⟨trivial, trivial⟩, trivial⟩ trivial (by kernel_rfl) ?_ (by kernel_rfl) (by kernel_rfl) (by kernel_rfl)

      kernel_rfl
  · have hf : i = n := by
      have : ¬ i < n := by simpa using hf
      omega
    subst hf
    refine aw_exits (round_exit (blk_exit (seq_normal (aw_reg0 (aw_ret ?_)))))
    exact sam_leaf true (by kernel_rfl) (sameB_true ⟨rfl, hall⟩)
theorem sam_alone (P : Program) (hm : P.follows .mixedOrders = true) (hf : compF P 12 = some af_12) (n : Nat) (a : Nat → Int) (m : Nat) (c : Nat → Int) (hn : n ≤ 1000000) : Alone P 12 [rowB n a, rowB m c] (.val (.bool (sameB n a m c))) :=
  Alone.ofW (cl := noC) (raw := false) hm (fun K => noC_ok) hf fun K w => sam_aw P hm n a m c K w hn
end Go.Ev
