import Derived.Test.YtmekepomgofiaaaEvCb
import Derived.Laws.Sem
import Derived.Tactics
set_option linter.all false
namespace Go.Ev
/-- what an operation leaves: its value and world have R -/
def Does (P : Program) (o : Oper) (a : Act) (w : World) (R : Value → World → Prop) : Prop :=
  ∀ (next : Act → World → Prop) (Q : Exit → Act → World → Prop), (∀ v w', R v w' → next (a.put o.dst v) w') → o.wp P a w next Q
section
variable {P : Program} {o : Oper} {a : Act} {w : World} {R : Value → World → Prop}
theorem does_value {v : Value} {w' : World} (h : (execOp a.eval o).run P w = .ok (.value v) w') (hR : R v w') : Does P o a w R := by
  intro next Q hn
  unfold Oper.wp
  rw [h]
  exact hn _ _ hR
theorem does_skip {w' : World} (h : (execOp a.eval o).run P w = .ok .skip w') (hR : R undef w') : Does P o a w R := by
  intro next Q hn
  unfold Oper.wp
  rw [h]
  exact hn _ _ hR
theorem does_call {f : FuncId} {args : Array Value} (h : (execOp a.eval o).run P w = .ok (.enter f args) w)
    (hC : Calls P f args w fun e w' => ∃ v, e = .returned v ∧ R v w') : Does P o a w R := by
  intro next Q hn
  unfold Oper.wp
  rw [h]
  refine Calls.mono hC fun e w' he => ?_
  obtain ⟨v, rfl, hR⟩ := he
  exact hn _ _ hR
end

def Slots (K : Cust) (M : World) (ρ : List Own) (sl : List D) (tmps : Array Value) : Prop :=
  sl.length = tmps.size ∧ ∀ (i : Nat) (d : D), sl[i]? = some d → ∃ v, tmps[i]? = some v ∧ Rep K M ρ d v

theorem repL_val (K : Cust) (M : World) (ρ : List Own) : ∀ l : List Value, RepL K M ρ (l.map .val) l
  | [] => by simp [RepL]
  | v :: l => by simp only [List.map_cons, RepL]; exact ⟨v, l, rfl, by simp [Rep], repL_val K M ρ l⟩
theorem ofV_rep (K : Cust) (M : World) (ρ : List Own) (v : Value) : Rep K M ρ (ofV v) v := by
  unfold ofV
  split
  · rename_i vs
    simp only [Rep]
    exact ⟨vs.toList, by simp, repL_val K M ρ _⟩
  · rename_i vs
    simp only [Rep]
    exact ⟨vs.toList, by simp, repL_val K M ρ _⟩
  · simp [Rep]
theorem evO_rep {K : Cust} {M : World} {ρ : List Own} {sl : List D} {a : Act} (h : Slots K M ρ sl a.tmps) (x : Operand) : Rep K M ρ (evO sl x) (a.eval x) := by
  cases x with
  | tmp t =>
    simp only [evO, evF, getK_eq, Act.eval]
    cases hd : sl[t]? with
    | none => simp [List.getD_eq_getElem?_getD, hd, Rep]
    | some d =>
      obtain ⟨v, h1, h2⟩ := h.2 t d hd
      simp [List.getD_eq_getElem?_getD, hd, Array.getD_eq_getD_getElem?, h1, h2]
  | const v => exact ofV_rep K M ρ v
  | global g => simp [evO, evF, Rep, Act.eval]
  | func f => simp only [evO, evF, Rep, Act.eval]; exact ⟨[], [], rfl, by simp [RepL], by simp [RepL]⟩
theorem evL_rep {K : Cust} {M : World} {ρ : List Own} {sl : List D} {a : Act} (h : Slots K M ρ sl a.tmps) : ∀ l : List Operand, RepL K M ρ (evL sl l) (l.map a.eval)
  | [] => by simp [evL, RepL]
  | x :: l => by simp only [evL, List.map_cons, RepL]; exact ⟨_, _, rfl, evO_rep h x, evL_rep h l⟩

theorem repL_length {K : Cust} {M : World} {ρ : List Own} : ∀ {ds : List D} {vs : List Value}, RepL K M ρ ds vs → ds.length = vs.length
  | [], vs, h => by simp only [RepL] at h; simp [h]
  | d :: ds, vs, h => by
    simp only [RepL] at h
    obtain ⟨x, r, rfl, _, h⟩ := h
    simp [repL_length h]
theorem repL_get {K : Cust} {M : World} {ρ : List Own} : ∀ {ds : List D} {vs : List Value}, RepL K M ρ ds vs → ∀ {i : Nat} {d : D}, ds[i]? = some d → ∃ v, vs[i]? = some v ∧ Rep K M ρ d v
  | [], vs, h, i, d, hd => by simp at hd
  | d0 :: ds, vs, h, i, d, hd => by
    simp only [RepL] at h
    obtain ⟨x, r, rfl, hx, h⟩ := h
    cases i with
    | zero => simp at hd; exact ⟨x, by simp, hd ▸ hx⟩
    | succ i => simpa using repL_get h (i := i) (by simpa using hd)
theorem repL_of {K : Cust} {M : World} {ρ : List Own} : ∀ {ds : List D} {vs : List Value}, ds.length = vs.length → (∀ (i : Nat) (d : D), ds[i]? = some d → ∃ v, vs[i]? = some v ∧ Rep K M ρ d v) → RepL K M ρ ds vs
  | [], [], _, _ => by simp [RepL]
  | d :: ds, v :: vs, hl, h => by
    simp only [RepL]
    obtain ⟨v', h1, h2⟩ := h 0 d (by simp)
    simp at h1
    refine ⟨v, vs, rfl, h1 ▸ h2, repL_of (by simpa using hl) fun i e he => ?_⟩
    simpa using h (i + 1) e (by simpa using he)
theorem repL_append {K : Cust} {M : World} {ρ : List Own} : ∀ {a b : List D} {x y : List Value}, RepL K M ρ a x → RepL K M ρ b y → RepL K M ρ (a ++ b) (x ++ y)
  | [], b, x, y, ha, hb => by simp only [RepL] at ha; subst ha; exact hb
  | d :: a, b, x, y, ha, hb => by
    simp only [RepL] at ha
    obtain ⟨v, r, rfl, hv, ha⟩ := ha
    simp only [List.cons_append, RepL]
    exact ⟨v, r ++ y, rfl, hv, repL_append ha hb⟩

/-- a value of one cell -/
theorem cells_one {v : Value} (h : plain v = true) : v.cells = #[v] := by
  cases v <;> simp_all [plain, Value.cells]
theorem okCell_plain {K : Cust} {M : World} {ρ : List Own} {d : D} {v : Value} (h : Rep K M ρ d v) (ho : okCell d = true) : plain v = true := by
  cases d <;> simp only [okCell, Bool.false_eq_true] at ho <;> simp only [Rep] at h
  case val x => rw [h]; exact ho
  case ptr id off =>
    split at h
    · rw [h]; rfl
    · exact h
    · exact h.elim
  case sl id off len k cap =>
    split at h
    · obtain ⟨c, rfl, _⟩ := h; rfl
    · exact h
    · exact h.elim
  case row k len f =>
    rcases h with ⟨rfl, _⟩ | ⟨b, o, c, rfl, _⟩ <;> rfl
  case ref cs off => obtain ⟨b, o, rfl, _⟩ := h; rfl
  case fn f x y => obtain ⟨x, y, rfl, _⟩ := h; rfl
  case iface t e => obtain ⟨x, rfl, _⟩ := h; rfl
  case map id =>
    split at h
    · rw [h]; rfl
    · exact h
    · exact h.elim
  case cust t q => exact K.one _ _ _ _ h
  case emp z => obtain ⟨a, a2, c, rfl, _⟩ := h; rfl
theorem cellsD_rep {K : Cust} {M : World} {ρ : List Own} {d : D} {v : Value} {ds : List D} (h : Rep K M ρ d v) (hd : cellsD d = some ds) : RepL K M ρ ds v.cells.toList := by
  have one : okCell d = true → RepL K M ρ [d] v.cells.toList := fun ho => by
    rw [cells_one (okCell_plain h ho)]; simp only [RepL]; exact ⟨v, [], rfl, h, rfl⟩
  cases d <;> simp only [cellsD, Option.some.injEq, reduceCtorEq] at hd
  case val x =>
    split at hd
    · rename_i hp
      obtain rfl := Option.some.inj hd
      exact one hp
    · cases hd
  case agg ds' =>
    subst hd
    simp only [Rep] at h
    obtain ⟨vs, rfl, h⟩ := h
    simpa [Value.cells] using h
  all_goals
    subst hd
    exact one rfl
end Go.Ev
