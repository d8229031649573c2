import Derived.Test.YtmekepomgofiaaaCS01
import Derived.Laws.StructEq
import Derived.Laws.Strings
import Derived.Laws.Sem
import Derived.Tactics
import Derived.IntWalk
set_option linter.all false
section
namespace Go.Ev
theorem bytesOfS_length (s : ByteArray) : (bytesOfS s).length = s.size := rfl
theorem catB_eq (x y : ByteArray) : catB x y = x ++ y := by
  have h : (catB x y).data = (x ++ y).data := by
    rw [ByteArray.data_append]
    apply Array.ext'
    simp [catB, bytesOfS]
  cases hx : x ++ y
  rw [hx] at h
  unfold catB at h ⊢
  simp at h
  rw [← h]
theorem subB_eq (s : ByteArray) (l h : Nat) : subB s l h = s.extract l h := by
  have e : (subB s l h).data = (s.extract l h).data := by
    rw [ByteArray.data_extract]
    apply Array.ext'
    simp [subB, bytesOfS, List.extract_eq_take_drop]
  cases hx : s.extract l h
  rw [hx] at e
  unfold subB at e ⊢
  simp at e
  rw [← e]
theorem bytesOfS_eq (s : ByteArray) : bytesOfS s = s.toList := (ByteArray.toList_eq s).symm
theorem beqS (a b : ByteArray) : (a == b) = (bytesOfS a == bytesOfS b) := by
  rw [bytesOfS_eq, bytesOfS_eq]; exact beq_toListBytes a b
end Go.Ev
end
section
namespace Go.Ev
/-- what an operation leaves: its value and world have R -/
def Does (P : Program) (o : Oper) (a : Act) (w : World) (R : Value → World → Prop) : Prop :=
  ∀ (next : Act → World → Prop) (Q : Exit → Act → World → Prop), (∀ v w', R v w' → next (a.put o.dst v) w') → o.wp P a w next Q
section
variable {P : Program} {o : Oper} {a : Act} {w : World} {R : Value → World → Prop}
theorem does_value {v : Value} {w' : World} (h : (execOp a.eval o).run P w = .ok (.value v) w') (hR : R v w') : Does P o a w R := by
  intro next Q hn
  unfold Oper.wp
  rw [h]
  exact hn _ _ hR
theorem does_skip {w' : World} (h : (execOp a.eval o).run P w = .ok .skip w') (hR : R undef w') : Does P o a w R := by
  intro next Q hn
  unfold Oper.wp
  rw [h]
  exact hn _ _ hR
theorem does_call {f : FuncId} {args : Array Value} (h : (execOp a.eval o).run P w = .ok (.enter f args) w)
    (hC : Calls P f args w fun e w' => ∃ v, e = .returned v ∧ R v w') : Does P o a w R := by
  intro next Q hn
  unfold Oper.wp
  rw [h]
  refine Calls.mono hC fun e w' he => ?_
  obtain ⟨v, rfl, hR⟩ := he
  exact hn _ _ hR
end

def Slots (K : Cust) (M : World) (ρ : List Own) (sl : List D) (tmps : Array Value) : Prop :=
  sl.length = tmps.size ∧ ∀ (i : Nat) (d : D), sl[i]? = some d → ∃ v, tmps[i]? = some v ∧ Rep K M ρ d v

theorem repL_val (K : Cust) (M : World) (ρ : List Own) : ∀ l : List Value, RepL K M ρ (l.map .val) l
  | [] => by simp [RepL]
  | v :: l => by simp only [List.map_cons, RepL]; exact ⟨v, l, rfl, by simp [Rep], repL_val K M ρ l⟩
theorem ofV_rep (K : Cust) (M : World) (ρ : List Own) (v : Value) : Rep K M ρ (ofV v) v := by
  unfold ofV
  split
  · rename_i vs
    simp only [Rep]
    exact ⟨vs.toList, by simp, repL_val K M ρ _⟩
  · rename_i vs
    simp only [Rep]
    exact ⟨vs.toList, by simp, repL_val K M ρ _⟩
  · simp [Rep]
theorem evO_rep {K : Cust} {M : World} {ρ : List Own} {sl : List D} {a : Act} (h : Slots K M ρ sl a.tmps) (x : Operand) : Rep K M ρ (evO sl x) (a.eval x) := by
  cases x with
  | tmp t =>
    simp only [evO, evF, getK_eq, Act.eval]
    cases hd : sl[t]? with
    | none => simp [List.getD_eq_getElem?_getD, hd, Rep]
    | some d =>
      obtain ⟨v, h1, h2⟩ := h.2 t d hd
      simp [List.getD_eq_getElem?_getD, hd, Array.getD_eq_getD_getElem?, h1, h2]
  | const v => exact ofV_rep K M ρ v
  | global g => simp [evO, evF, Rep, Act.eval]
  | func f => simp only [evO, evF, Rep, Act.eval]; exact ⟨[], [], rfl, by simp [RepL], by simp [RepL]⟩
theorem evL_rep {K : Cust} {M : World} {ρ : List Own} {sl : List D} {a : Act} (h : Slots K M ρ sl a.tmps) : ∀ l : List Operand, RepL K M ρ (evL sl l) (l.map a.eval)
  | [] => by simp [evL, RepL]
  | x :: l => by simp only [evL, List.map_cons, RepL]; exact ⟨_, _, rfl, evO_rep h x, evL_rep h l⟩

theorem repL_length {K : Cust} {M : World} {ρ : List Own} : ∀ {ds : List D} {vs : List Value}, RepL K M ρ ds vs → ds.length = vs.length
  | [], vs, h => by simp only [RepL] at h; simp [h]
  | d :: ds, vs, h => by
    simp only [RepL] at h
    obtain ⟨x, r, rfl, _, h⟩ := h
    simp [repL_length h]
theorem repL_get {K : Cust} {M : World} {ρ : List Own} : ∀ {ds : List D} {vs : List Value}, RepL K M ρ ds vs → ∀ {i : Nat} {d : D}, ds[i]? = some d → ∃ v, vs[i]? = some v ∧ Rep K M ρ d v
  | [], vs, h, i, d, hd => by simp at hd
  | d0 :: ds, vs, h, i, d, hd => by
    simp only [RepL] at h
    obtain ⟨x, r, rfl, hx, h⟩ := h
    cases i with
    | zero => simp at hd; exact ⟨x, by simp, hd ▸ hx⟩
    | succ i => simpa using repL_get h (i := i) (by simpa using hd)
theorem repL_of {K : Cust} {M : World} {ρ : List Own} : ∀ {ds : List D} {vs : List Value}, ds.length = vs.length → (∀ (i : Nat) (d : D), ds[i]? = some d → ∃ v, vs[i]? = some v ∧ Rep K M ρ d v) → RepL K M ρ ds vs
  | [], [], _, _ => by simp [RepL]
  | d :: ds, v :: vs, hl, h => by
    simp only [RepL]
    obtain ⟨v', h1, h2⟩ := h 0 d (by simp)
    simp at h1
    refine ⟨v, vs, rfl, h1 ▸ h2, repL_of (by simpa using hl) fun i e he => ?_⟩
    simpa using h (i + 1) e (by simpa using he)
theorem repL_append {K : Cust} {M : World} {ρ : List Own} : ∀ {a b : List D} {x y : List Value}, RepL K M ρ a x → RepL K M ρ b y → RepL K M ρ (a ++ b) (x ++ y)
  | [], b, x, y, ha, hb => by simp only [RepL] at ha; subst ha; exact hb
  | d :: a, b, x, y, ha, hb => by
    simp only [RepL] at ha
    obtain ⟨v, r, rfl, hv, ha⟩ := ha
    simp only [List.cons_append, RepL]
    exact ⟨v, r ++ y, rfl, hv, repL_append ha hb⟩

/-- a value of one cell -/
theorem cells_one {v : Value} (h : plain v = true) : v.cells = #[v] := by
  cases v <;> simp_all [plain, Value.cells]
theorem okCell_plain {K : Cust} {M : World} {ρ : List Own} {d : D} {v : Value} (h : Rep K M ρ d v) (ho : okCell d = true) : plain v = true := by
  cases d <;> simp only [okCell, Bool.false_eq_true] at ho <;> simp only [Rep] at h
  case val x => rw [h]; exact ho
  case ptr id off =>
    split at h
    · rw [h]; rfl
    · exact h
    · exact h.elim
  case sl id off len k cap =>
    split at h
    · obtain ⟨c, rfl, _⟩ := h; rfl
    · exact h
    · exact h.elim
  case row k len f =>
    rcases h with ⟨rfl, _⟩ | ⟨b, o, c, rfl, _⟩ <;> rfl
  case ref cs off => obtain ⟨b, o, rfl, _⟩ := h; rfl
  case fn f x y => obtain ⟨x, y, rfl, _⟩ := h; rfl
  case iface t e => obtain ⟨x, rfl, _⟩ := h; rfl
  case map id =>
    split at h
    · rw [h]; rfl
    · exact h
    · exact h.elim
  case cust t q => exact K.one _ _ _ _ h
  case emp z => obtain ⟨a, a2, c, rfl, _⟩ := h; rfl
theorem cellsD_rep {K : Cust} {M : World} {ρ : List Own} {d : D} {v : Value} {ds : List D} (h : Rep K M ρ d v) (hd : cellsD d = some ds) : RepL K M ρ ds v.cells.toList := by
  have one : okCell d = true → RepL K M ρ [d] v.cells.toList := fun ho => by
    rw [cells_one (okCell_plain h ho)]; simp only [RepL]; exact ⟨v, [], rfl, h, rfl⟩
  cases d <;> simp only [cellsD, Option.some.injEq, reduceCtorEq] at hd
  case val x =>
    split at hd
    · rename_i hp
      obtain rfl := Option.some.inj hd
      exact one hp
    · cases hd
  case agg ds' =>
    subst hd
    simp only [Rep] at h
    obtain ⟨vs, rfl, h⟩ := h
    simpa [Value.cells] using h
  all_goals
    subst hd
    exact one rfl
end Go.Ev
end
section
namespace Go.Ev
section runs
variable {P : Program} {w : World}
theorem run_program' : (program).run P w = .ok P w := rfl
theorem run_under {t : TypeId} {d : TypeDesc} (h : P.underlying t = some d) : (underlying t).run P w = .ok d w := by
  simp [underlying, run_program', h]
theorem run_info {t : TypeId} {i : TypeInfo} (h : P.info? t = some i) : (typeInfo t).run P w = .ok i w := by
  simp [typeInfo, run_program', h]
theorem run_size {t : TypeId} {n : Nat} (h : sizT P t = some n) : (sizeOf t).run P w = .ok n w := by
  unfold sizT at h
  cases hi : P.info? t with
  | none => rw [hi] at h; cases h
  | some i =>
    rw [hi] at h
    simp at h
    simp [sizeOf, run_info hi, h]
theorem run_isAgg' {t : TypeId} {b : Bool} (h : aggT P t = some b) : (isAgg t).run P w = .ok b w := by
  unfold aggT at h
  cases hu : P.underlying t with
  | none => rw [hu] at h; cases h
  | some d =>
    rw [hu] at h
    cases d <;> simp at h <;> subst h <;> simp [isAgg, run_under hu]
theorem shape_one {t : TypeId} (h : shapeT P t = some none) : aggT P t = some false ∧ sizT P t = some 1 := by
  unfold shapeT at h
  split at h <;> simp_all
theorem shape_many {t : TypeId} {n : Nat} (h : shapeT P t = some (some n)) : aggT P t = some true ∧ sizT P t = some n := by
  unfold shapeT at h
  split at h <;> simp_all
theorem addr_add (b o n : Nat) : (⟨b, o, none⟩ : Addr).add n = ⟨b, o + n, none⟩ := by
  unfold Addr.add
  split
  · subst_vars; rfl
  · rfl
theorem run_load' {a : Addr} {v : Value} (h : w.cell? a = some v) : (load a).run P w = .ok v w := by simp [h]
theorem run_loadCellsFrom {b o : Nat} : ∀ (vs : List Value) (i : Nat) (acc : Array Value), (∀ (j : Nat) (v : Value), vs[j]? = some v → w.cell? ⟨b, o + (i + j), none⟩ = some v) →
    (loadCellsFrom ⟨b, o, none⟩ i vs.length acc).run P w = .ok (acc ++ vs.toArray) w
  | [], i, acc, _ => by simp [loadCellsFrom]
  | v :: vs, i, acc, h => by
    simp only [List.length_cons, loadCellsFrom, addr_add, Sem.run_bind]
    have h0 : w.cell? ⟨b, o + i, none⟩ = some v := h 0 v (by simp)
    rw [run_load' h0]
    simp only [Result.andThen_ok]
    rw [run_loadCellsFrom vs (i + 1) (acc.push v) (fun j u hu => by
      have := h (j + 1) u (by simpa using hu)
      rw [show i + 1 + j = i + (j + 1) by omega]
      exact this)]
    simp
theorem run_loadCells {b o : Nat} (vs : List Value) (h : ∀ (j : Nat) (v : Value), vs[j]? = some v → w.cell? ⟨b, o + j, none⟩ = some v) :
    (loadCells ⟨b, o, none⟩ vs.length).run P w = .ok vs.toArray w := by
  unfold loadCells
  rw [run_loadCellsFrom vs 0 #[] (fun j v hv => by simpa using h j v hv)]
  simp
end runs

/-- cells that can be read -/
def Reads (K : Cust) (w M : World) (ρ : List Own) (cs : List D) (b o : Nat) : Prop := ∀ (j : Nat) (d : D), cs[j]? = some d → ∃ x, w.cell? ⟨b, o + j, none⟩ = some x ∧ Rep K M ρ d x

theorem repC_reads {K : Cust} {w M : World} {ρ : List Own} (hs : Sub M w) : ∀ {cs : List D} {b o : Nat}, RepC K M ρ cs b o → Reads K w M ρ cs b o
  | [], b, o, _, j, d, h => by simp at h
  | d0 :: cs, b, o, hc, j, d, h => by
    simp only [RepC] at hc
    cases j with
    | zero =>
      simp at h
      subst h
      obtain ⟨⟨x, h1, h2⟩, _⟩ := hc
      exact ⟨x, hs.cell h1, h2⟩
    | succ j =>
      have := repC_reads hs hc.2 j d (by simpa using h)
      rw [show o + 1 + j = o + (j + 1) by omega] at this
      exact this
theorem reads_C {K : Cust} {M : World} {ρ : List Own} : ∀ {cs : List D} {b o : Nat}, Reads K M M ρ cs b o → RepC K M ρ cs b o
  | [], b, o, _ => by simp [RepC]
  | d :: cs, b, o, h => by
    simp only [RepC]
    refine ⟨by simpa using h 0 d (by simp), reads_C fun j e he => ?_⟩
    rw [show o + 1 + j = o + (j + 1) by omega]
    exact h (j + 1) e (by simpa using he)
theorem cell_of {w : World} {b : Nat} {vs : Array Value} {ty : TypeId} {fr : Nat × Nat} (h : w.heap[b]? = some (Obj.cells vs ty fr)) (o : Nat) : w.cell? ⟨b, o, none⟩ = vs[o]? := by
  simp [World.cell?, h]
theorem own_reads {K : Cust} {w M : World} {ρ : List Own} {b n : Nat} {cs : List D} (h : RepB K w M ρ (.live b n) (.cells cs)) : Reads K w M ρ cs b 0 := by
  obtain ⟨vs, ty, h1, _, h2⟩ := h
  intro j d hd
  obtain ⟨x, g1, g2⟩ := h2 j d hd
  exact ⟨x, by rw [cell_of h1, Nat.zero_add]; exact g1, g2⟩

theorem reads_vals {K : Cust} {w M : World} {ρ : List Own} {cs : List D} {b o : Nat} (h : Reads K w M ρ cs b o) : ∀ (off n : Nat), off + n ≤ cs.length →
    ∃ vs : List Value, vs.length = n ∧ (∀ (j : Nat) (v : Value), vs[j]? = some v → w.cell? ⟨b, o + off + j, none⟩ = some v) ∧ RepL K M ρ ((cs.drop off).take n) vs
  | off, 0, _ => ⟨[], rfl, fun j v hv => by simp at hv, by simp [RepL]⟩
  | off, n + 1, hl => by
    obtain ⟨vs, h1, h2, h3⟩ := reads_vals h (off + 1) n (by omega)
    have hd : cs[off]? = some cs[off] := List.getElem?_eq_getElem (by omega)
    obtain ⟨x, g1, g2⟩ := h off _ hd
    refine ⟨x :: vs, by simp [h1], fun j v hv => ?_, ?_⟩
    · cases j with
      | zero => simp at hv; subst hv; exact g1
      | succ j =>
        have := h2 j v (by simpa using hv)
        rw [show o + off + (j + 1) = o + (off + 1) + j by omega]
        exact this
    · rw [List.drop_eq_getElem_cons (by omega), List.take_succ_cons]
      simp only [RepL]
      exact ⟨x, vs, rfl, g2, h3⟩

theorem load_reads {K : Cust} {P : Program} {w M : World} {ρ : List Own} {cs : List D} {b o : Nat} {t : TypeId} {n : Option Nat} {off : Nat} {d : D}
    (h : Reads K w M ρ cs b o) (hn : shapeT P t = some n) (hd : ofCells n cs off = some d) :
    ∃ v, (loadVar t ⟨b, o + off, none⟩).run P w = .ok v w ∧ Rep K M ρ d v := by
  cases n with
  | none =>
    simp only [ofCells, getG_eq] at hd
    obtain ⟨x, g1, g2⟩ := h off d hd
    obtain ⟨h1, h2⟩ := shape_one hn
    exact ⟨x, by simp [loadVar, run_isAgg' h1, g1], g2⟩
  | some n =>
    simp only [ofCells, lenG_eq, takeG_eq, dropG_eq] at hd
    split at hd
    · rename_i hl
      obtain rfl := Option.some.inj hd
      obtain ⟨vs, g1, g2, g3⟩ := reads_vals h off n hl
      obtain ⟨h1, h2⟩ := shape_many hn
      refine ⟨.agg vs.toArray, ?_, ?_⟩
      · simp only [loadVar, Sem.run_bind, run_isAgg' h1, Result.andThen_ok, if_true, run_size h2]
        rw [← g1, run_loadCells vs g2]
        simp
      · simp only [Rep]; exact ⟨vs, rfl, g3⟩
    · cases hd

/-! stores -/
def storeA (vs : Array Value) (o : Nat) : List Value → Array Value
  | [] => vs
  | x :: l => storeA (vs.setIfInBounds o x) (o + 1) l
theorem storeA_size : ∀ (l : List Value) (vs : Array Value) (o : Nat), (storeA vs o l).size = vs.size
  | [], _, _ => rfl
  | x :: l, vs, o => by simp only [storeA]; rw [storeA_size l]; simp
theorem storeA_get : ∀ (l : List Value) (vs : Array Value) (o j : Nat), o + l.length ≤ vs.size →
    (storeA vs o l)[j]? = if o ≤ j ∧ j < o + l.length then l[j - o]? else vs[j]?
  | [], vs, o, j, h => by
    rw [if_neg (by simp only [List.length_nil]; omega)]
    rfl
  | x :: l, vs, o, j, h => by
    simp only [storeA]
    rw [storeA_get l _ _ _ (by simp at h ⊢; omega)]
    simp only [List.length_cons] at h ⊢
    by_cases h1 : o = j
    · subst h1
      rw [if_neg (by omega), if_pos (by omega)]
      simp [show o < vs.size by omega]
    · by_cases h2 : o + 1 ≤ j ∧ j < o + 1 + l.length
      · rw [if_pos h2, if_pos (by omega)]
        rw [show j - o = (j - (o + 1)) + 1 by omega]
        simp
      · rw [if_neg h2, if_neg (by omega)]
        simp [Array.getElem?_setIfInBounds_ne h1]
def rowed (w : World) (b : Nat) (vs : Array Value) (ty : TypeId × Nat × Nat) : World := { w with heap := w.heap.set! b (Obj.cells vs ty.1 ty.2) }
theorem rowed_get {w : World} {b : Nat} {vs : Array Value} {ty : TypeId × Nat × Nat} (h : b < w.heap.size) : (rowed w b vs ty).heap[b]? = some (Obj.cells vs ty.1 ty.2) := by
  simp [rowed, h]
theorem rowed_rowed {w : World} {b : Nat} {vs vs' : Array Value} {ty : TypeId × Nat × Nat} : rowed (rowed w b vs ty) b vs' ty = rowed w b vs' ty := by
  simp [rowed]
theorem rowed_self {w : World} {b : Nat} {vs : Array Value} {ty : TypeId × Nat × Nat} (h : w.heap[b]? = some (Obj.cells vs ty.1 ty.2)) : rowed w b vs ty = w := by
  unfold rowed
  have hb := lt_of_cells h
  have : w.heap.set! b (Obj.cells vs ty.1 ty.2) = w.heap := by
    apply Array.ext_getElem?
    intro i
    rw [Array.set!_eq_setIfInBounds]
    by_cases e : b = i
    · subst e; rw [h]; simp [hb]
    · rw [Array.getElem?_setIfInBounds_ne e]
  rw [this]
theorem setCell_rowed {w : World} {b o : Nat} {vs : Array Value} {ty : TypeId × Nat × Nat} {v : Value} (h : w.heap[b]? = some (Obj.cells vs ty.1 ty.2)) :
    w.setCell ⟨b, o, none⟩ v = rowed w b (vs.setIfInBounds o v) ty := by
  unfold World.setCell rowed
  have hb := lt_of_cells h
  congr 1
  apply Array.ext_getElem?
  intro i
  rw [Array.set!_eq_setIfInBounds, Array.getElem?_modify]
  by_cases e : b = i
  · subst e; rw [h]; simp [hb]
  · rw [Array.getElem?_setIfInBounds_ne e]
    simp [e]
theorem run_store' {P : Program} {w : World} {b o : Nat} {vs : Array Value} {ty : TypeId × Nat × Nat} {v : Value} (h : w.heap[b]? = some (Obj.cells vs ty.1 ty.2)) (ht : thaw vs.size ty.2) (hp : plain v = true) (ho : o < vs.size) :
    (store ⟨b, o, none⟩ v).run P w = .ok () (rowed w b (vs.setIfInBounds o v) ty) := by
  have hc : w.cell? ⟨b, o, none⟩ = some vs[o] := by rw [cell_of h]; simp [ho]
  have hf : w.frozen? ⟨b, o, none⟩ = false := by
    unfold World.frozen?
    simp only [h]
    exact thaw_not ht ho
  rw [← setCell_rowed h]
  cases v <;> simp [plain] at hp <;> simp [store, Sem.run, hc, hf]
theorem run_storeCells {P : Program} {b o : Nat} {ty : TypeId × Nat × Nat} : ∀ (l : List Value) (w : World) (vs : Array Value) (i : Nat), w.heap[b]? = some (Obj.cells vs ty.1 ty.2) → thaw vs.size ty.2 → (∀ x ∈ l, plain x = true) → o + i + l.length ≤ vs.size →
    (storeCells ⟨b, o, none⟩ l i).run P w = .ok () (rowed w b (storeA vs (o + i) l) ty)
  | [], w, vs, i, h, _, _, _ => by
    simp only [storeCells, storeA, rowed_self h]
    rfl
  | x :: l, w, vs, i, h, ht, hp, hl => by
    simp only [storeCells, addr_add, Sem.run_bind]
    rw [run_store' h ht (hp x (by simp)) (by simp at hl; omega)]
    simp only [Result.andThen_ok, storeA]
    have hb := lt_of_cells h
    rw [run_storeCells l _ (vs.setIfInBounds (o + i) x) (i + 1) (rowed_get hb) (by simpa using ht) (fun y hy => hp y (List.mem_cons_of_mem _ hy)) (by simp at hl ⊢; omega), rowed_rowed]
    rfl
end Go.Ev
end
section
namespace Go.Ev
def Res (K : Cust) (w : World) (ρ : List Own) (hp : List Blk) (nid : Nat) (out : Out) (v : Value) (w' : World) : Prop :=
  ∃ ρ', Rep K (mask K w' ρ') ρ' out.d v ∧ Eff K w ρ hp nid w' ρ' out.δ out.grow
section
variable {K : Cust} {P : Program} {o : Oper} {a : Act} {w : World} {ρ : List Own} {hp : List Blk} {sl : List D} {nid : Nat} {out : Out}

theorem quiet {v : Value} {d : D} {p : Option Prop} (hr : (execOp a.eval o).run P w = .ok (.value v) w) (hd : Rep K (mask K w ρ) ρ d v) : Does P o a w (Res K w ρ hp nid ⟨p, d, [], []⟩) :=
  does_value hr ⟨ρ, hd, Eff.no rfl⟩

theorem readsL_of {M M' : World} {ρ' : List Own} {cs : List D} {vs : Array Value} (h : RepL K M ρ cs vs.toList) (hs : Sub M M') (ho : OwnLe ρ ρ') : ReadsL K M' ρ' cs vs := fun j d hj => by
  obtain ⟨v, h1, h2⟩ := repL_get h hj
  exact ⟨v, by simpa using h1, Rep.mono hs ho _ _ h2⟩

theorem own_set_same {i : Nat} {x : Own} (h : ρ[i]? = some .fresh) : own (ρ.set i x) i = x := by
  have hi : i < ρ.length := by
    rcases Nat.lt_or_ge i ρ.length with h' | h'
    · exact h'
    · rw [List.getElem?_eq_none h'] at h; cases h
  rw [own_set hi, if_pos rfl]

/-- a new row -/
theorem new_row {vs : Array Value} {ty : TypeId} {cs : List D} {v : Value} {d : D} {p : Option Prop} (hk : OK K w ρ hp) (hn : ρ[nid]? = some .fresh)
    (hr : (execOp a.eval o).run P w = .ok (.value v) { w with heap := w.heap.push (Obj.cells vs ty (0, 0)) })
    (hd : ∀ M ρ', own ρ' nid = .live w.heap.size vs.size → Rep K M ρ' d v) (hc : RepL K (mask K w ρ) ρ cs vs.toList) :
    Does P o a w (Res K w ρ hp nid ⟨p, d, [(nid, .cells cs)], []⟩) :=
  does_value hr ⟨ρ.set nid (.live w.heap.size vs.size), hd _ _ (own_set_same hn),
    Eff.new_block rfl hn hk.lt fun hs => ⟨vs, (ty, (0, 0)), by simp, ⟨rfl, .inl rfl⟩, readsL_of hc hs (fresh_le hn)⟩⟩

theorem run_zero {t : TypeId} {i : TypeInfo} {z : Value} (h : P.info? t = some i) (hz : i.zero = some z) : (zeroValue t).run P w = .ok z w := by
  simp [zeroValue, run_info h, hz]
theorem zeroT_some {t : TypeId} {cs : List D} (h : zeroT P t = some cs) : ∃ i z, P.info? t = some i ∧ i.zero = some z ∧ cellsD (ofV z) = some cs := by
  unfold zeroT at h
  split at h
  · rename_i i hi
    split at h
    · rename_i z hz
      exact ⟨i, z, hi, hz, h⟩
    · cases h
  · cases h

theorem s_mov {x : Operand} (ho : o.op = .move x ∨ o.op = .assign x) (hs : Slots K (mask K w ρ) ρ sl a.tmps) (h : c_mov sl hp nid x = some out) : Does P o a w (Res K w ρ hp nid out) := by
  obtain rfl := (Option.some.inj h).symm
  exact quiet (v := a.eval x) (by rcases ho with ho | ho <;> simp [execOp, ho]) (evO_rep hs x)
theorem s_pick {c x y : Operand} (ho : o.op = .pick c x y) (hs : Slots K (mask K w ρ) ρ sl a.tmps) (h : c_pick sl hp nid c x y = some out) : Does P o a w (Res K w ρ hp nid out) := by
  have hc := evO_rep hs c
  unfold c_pick at h
  split at h
  · rename_i t ht
    rw [ht] at hc
    simp only [Rep] at hc
    cases t
    · obtain rfl := (Option.some.inj h).symm
      exact quiet (v := a.eval y) (by simp [execOp, ho, hc, asBool]) (evO_rep hs y)
    · obtain rfl := (Option.some.inj h).symm
      exact quiet (v := a.eval x) (by simp [execOp, ho, hc, asBool]) (evO_rep hs x)
  · cases h
theorem s_zero {t : TypeId} {cs : List D} (ho : o.op = .alloc t) (hz : zeroT P t = some cs) (hk : OK K w ρ hp) (hn : ρ[nid]? = some .fresh) (h : c_zero sl hp nid cs = some out) : Does P o a w (Res K w ρ hp nid out) := by
  obtain rfl := (Option.some.inj h).symm
  obtain ⟨i, z, h1, h2, h3⟩ := zeroT_some hz
  exact new_row (vs := z.cells) (ty := t) (v := .pointer (some ⟨w.heap.size, 0, none⟩)) hk hn
    (by simp [execOp, ho, Instr.alloc, run_zero h1 h2, newVar, newRow, newObj, Sem.run]) (fun M ρ' h => by simp only [Rep, h]) (cellsD_rep (ofV_rep K _ _ z) h3)
theorem s_box {t : TypeId} {n : Nat} {x : Operand} (ho : o.op = .box t x) (hk : OK K w ρ hp) (hs : Slots K (mask K w ρ) ρ sl a.tmps) (hn : ρ[nid]? = some .fresh) (h : c_box sl hp nid n x = some out) : Does P o a w (Res K w ρ hp nid out) := by
  unfold c_box at h
  split at h
  · rename_i cs hc
    split at h
    · obtain rfl := (Option.some.inj h).symm
      exact new_row (vs := (a.eval x).cells) (ty := t) (v := .pointer (some ⟨w.heap.size, 0, none⟩)) hk hn
        (by simp [execOp, ho, Instr.box, newVar, newRow, newObj, Sem.run]) (fun M ρ' h => by simp only [Rep, h]) (cellsD_rep (evO_rep hs x) hc)
    · cases h
  · cases h
theorem cellsAt_own {id : Nat} {cs : List D} (hk : OK K w ρ hp) (h : cellsAt hp id = some cs) : ∃ b n, own ρ id = .live b n ∧ RepB K w (mask K w ρ) ρ (.live b n) (.cells cs) := by
  unfold cellsAt at h
  rw [getG_eq] at h
  split at h
  · rename_i cs' hh
    obtain rfl := Option.some.inj h
    have hb := hk.blk id _ hh
    cases ho : own ρ id with
    | live b n => rw [ho] at hb; exact ⟨b, n, rfl, hb⟩
    | fresh => rw [ho] at hb; exact hb.elim
    | dead => rw [ho] at hb; exact hb.elim
  · cases h
theorem s_load {t : TypeId} {n : Option Nat} {x : Operand} (ho : o.op = .load t x) (ht : shapeT P t = some n) (hk : OK K w ρ hp) (hs : Slots K (mask K w ρ) ρ sl a.tmps) (h : c_load sl hp nid n x = some out) : Does P o a w (Res K w ρ hp nid out) := by
  have hx := evO_rep hs x
  unfold c_load at h
  split at h
  · rename_i id off hd
    rw [hd] at hx
    split at h
    · rename_i cs hcs
      split at h
      · rename_i d hd2
        obtain rfl := (Option.some.inj h).symm
        obtain ⟨b, n', ho1, hb⟩ := cellsAt_own hk hcs
        simp only [Rep, ho1] at hx
        obtain ⟨v, h1, h2⟩ := load_reads (own_reads hb) ht hd2
        rw [Nat.zero_add] at h1
        exact quiet (v := v) (by simp [execOp, ho, Instr.loadAt, hx, Instr.sureAddr, h1]) h2
      · cases h
    · cases h
  · rename_i cs off hd
    rw [hd] at hx
    split at h
    · rename_i d hd2
      obtain rfl := (Option.some.inj h).symm
      simp only [Rep] at hx
      obtain ⟨b, o', hx, hc⟩ := hx
      obtain ⟨v, h1, h2⟩ := load_reads (repC_reads (mask_sub K w ρ) hc) ht hd2
      exact quiet (v := v) (by simp [execOp, ho, Instr.loadAt, hx, Instr.sureAddr, h1]) h2
    · cases h
  · cases h
theorem put_get (cs new : List D) (off j : Nat) (h : off + new.length ≤ cs.length) : (put cs off new)[j]? = if off ≤ j ∧ j < off + new.length then new[j - off]? else cs[j]? := by
  unfold put
  by_cases h1 : j < off
  · rw [if_neg (by omega), List.append_assoc, List.getElem?_append_left (by simp; omega)]
    simp [List.getElem?_take, h1]
  · by_cases h2 : j < off + new.length
    · rw [if_pos ⟨by omega, h2⟩, List.getElem?_append_left (by simp; omega), List.getElem?_append_right (by simp; omega)]
      simp [Nat.min_eq_left (show off ≤ cs.length by omega)]
    · rw [if_neg (by omega), List.getElem?_append_right (by simp; omega)]
      simp only [List.length_append, List.length_take, Nat.min_eq_left (show off ≤ cs.length by omega), List.getElem?_drop]
      congr 1
      omega
theorem put_length (cs new : List D) (off : Nat) (h : off + new.length ≤ cs.length) : (put cs off new).length = cs.length := by
  unfold put
  simp
  omega
theorem readsL_put {M : World} {cs new : List D} {vs : Array Value} {xs : List Value} {off : Nat} (h : ReadsL K M ρ cs vs) (hn : RepL K M ρ new xs) (hl : off + new.length ≤ cs.length) (hv : cs.length ≤ vs.size) :
    ReadsL K M ρ (put cs off new) (storeA vs off xs) := by
  intro j d hj
  have e := repL_length hn
  rw [put_get _ _ _ _ hl] at hj
  rw [storeA_get _ _ _ _ (by omega), ← e]
  split at hj
  · rename_i hc
    rw [if_pos hc]
    exact repL_get hn hj
  · rename_i hc
    rw [if_neg hc]
    exact h j d hj
theorem readsL_size {M : World} {cs : List D} {vs : Array Value} (h : ReadsL K M ρ cs vs) : cs.length ≤ vs.size := by
  rcases Nat.eq_zero_or_pos cs.length with h0 | h0
  · omega
  · obtain ⟨x, hx, _⟩ := h (cs.length - 1) _ (List.getElem?_eq_getElem (by omega))
    have := (Array.getElem?_eq_some_iff.1 hx).1
    omega
theorem plains {M : World} : ∀ {ds : List D} {vs : List Value}, RepL K M ρ ds vs → ds.all okCell = true → ∀ v ∈ vs, plain v = true
  | [], vs, h, _, v, hv => by simp only [RepL] at h; subst h; cases hv
  | d :: ds, vs, h, ha, v, hv => by
    simp only [RepL] at h
    obtain ⟨x, r, rfl, hx, h⟩ := h
    simp only [List.all_cons, Bool.and_eq_true] at ha
    rcases List.mem_cons.1 hv with rfl | hv
    · exact okCell_plain hx ha.1
    · exact plains h ha.2 v hv

/-- cells of an own block are written -/
theorem wrote_row {id b n off : Nat} {cs new : List D} {xs : List Value} {vs : Array Value} {ty : TypeId × Nat × Nat} {v : Value} {d : D} {p : Option Prop} {nx : Next} (hk : OK K w ρ hp) (hcs : cellsAt hp id = some cs) (ho1 : own ρ id = .live b n)
    (hb : w.heap[b]? = some (Obj.cells vs ty.1 ty.2)) (hl : off + new.length ≤ cs.length)
    (hr : (execOp a.eval o).run P w = .ok nx (rowed w b (storeA vs off xs) ty)) (hnx : nx = .value v ∨ (nx = .skip ∧ v = undef)) (hv : plain v = true ∨ v = undef) (hd : ∀ M ρ', Rep K M ρ' d v) (hc : RepL K (mask K w ρ) ρ new xs) :
    Does P o a w (Res K w ρ hp nid ⟨p, d, [(id, .cells (put cs off new))], []⟩) := by
  obtain ⟨b', n', ho2, hrb⟩ := cellsAt_own hk hcs
  rw [ho1] at ho2
  cases ho2
  have he : Eff K w ρ hp nid (rowed w b (storeA vs off xs) ty) ρ [(id, .cells (put cs off new))] [] := by
    refine Eff.write (own_live ho1) (fun e => ?_) rfl hk fun hs => ?_
    · unfold cellsAt at hcs; rw [getG_eq, e] at hcs; cases hcs
    · obtain ⟨vs', ty', g1, g2, g3⟩ := hrb
      rw [hb] at g1
      simp only [Option.some.injEq, Obj.cells.injEq] at g1
      obtain ⟨rfl, e1, e2⟩ := g1
      have g4 := readsL_size g3
      refine ⟨_, ty, rowed_get (lt_of_cells hb), by rw [storeA_size, e2]; exact g2, ?_⟩
      exact (readsL_put g3 hc hl g4).mono hs (OwnLe.refl ρ)
  rcases hnx with rfl | ⟨rfl, rfl⟩
  · exact does_value hr ⟨ρ, hd _ _, he⟩
  · exact does_skip hr ⟨ρ, hd _ _, he⟩
theorem s_store {t : TypeId} {n : Nat} {x y : Operand} (ho : o.op = .store t x y) (ht : sizT P t = some n) (hk : OK K w ρ hp) (hs : Slots K (mask K w ρ) ρ sl a.tmps) (h : c_store sl hp nid n x y = some out) : Does P o a w (Res K w ρ hp nid out) := by
  have hx := evO_rep hs x
  have hy := evO_rep hs y
  unfold c_store at h
  split at h
  · rename_i id off new hd hnew
    rw [hd] at hx
    split at h
    · rename_i cs hcs
      split at h
      · rename_i hcond
        obtain ⟨hl1, hl2, hall⟩ := hcond
        obtain rfl := (Option.some.inj h).symm
        obtain ⟨b, n', ho1, hb⟩ := cellsAt_own hk hcs
        simp only [Rep, ho1] at hx
        obtain ⟨vs, ty, g1, g2, g3⟩ := hb
        have g4 := readsL_size g3
        have hc := cellsD_rep hy hnew
        have e := repL_length hc
        refine wrote_row (v := undef) (xs := (a.eval y).cells.toList) hk hcs ho1 g1 (by omega) ?_ (.inr ⟨rfl, rfl⟩) (.inr rfl) (fun M ρ' => ?_) hc
        · have hsz : ¬ ((a.eval y).cells.size ≠ n) := by simp at e; omega
          simp only [execOp, ho, Instr.storeAt, hx, Instr.sureAddr, storeVar, Sem.run_bind, Sem.run_pure, Result.andThen_ok, run_size ht, hsz, if_false]
          rw [run_storeCells _ w vs 0 g1 g2.2 (plains hc hall) (by omega)]
          simp
        · simp only [Rep]; exact ⟨[], rfl, by simp [RepL]⟩
      · cases h
    · cases h
  · cases h
end
end Go.Ev
end
section
namespace Go.Ev
section
variable {K : Cust} {P : Program} {o : Oper} {a : Act} {w : World} {ρ : List Own} {hp : List Blk} {sl : List D} {nid : Nat} {out : Out}

theorem hp_live {id : Nat} {x : Blk} (hk : OK K w ρ hp) (h : hp[id]? = some x) (hx : x ≠ .dead) : ∃ b n, own ρ id = .live b n := by
  have hb := hk.blk id _ h
  cases ho : own ρ id with
  | live b n => exact ⟨b, n, rfl⟩
  | fresh => rw [ho] at hb; cases x <;> first | exact (hx rfl).elim | exact hb.elim
  | dead => rw [ho] at hb; cases x <;> first | exact (hx rfl).elim | exact hb.elim
def isNil : Value → Bool
  | .pointer none | .nilFunc | .map none | .slice none _ _ => true
  | _ => false
/-- a value that can be held against nil, and is not nil -/
def notNil : Value → Bool
  | .pointer (some _) | .func _ _ _ | .map (some _) | .slice (some _) _ _ => true
  | _ => false
theorem nilD_true {d : D} {v : Value} (h : Rep K (mask K w ρ) ρ d v) (hn : nilD hp d = some true) : isNil v = true := by
  cases d <;> simp only [nilD, getG_eq] at hn
  case val x =>
    split at hn
    · rename_i hx
      simp only [Rep] at h
      subst h
      cases v <;> simp_all [isNilV, isNil]
      · rename_i a; cases a <;> simp_all [isNilV, isNil]
      · rename_i a _ _; cases a <;> simp_all [isNilV, isNil]
      · rename_i a; cases a <;> simp_all [isNilV, isNil]
    · cases hn
  case row k len f => split at hn <;> cases hn
  all_goals first | (split at hn <;> cases hn; done) | cases hn
theorem nilD_false {d : D} {v : Value} (hk : OK K w ρ hp) (h : Rep K (mask K w ρ) ρ d v) (hn : nilD hp d = some false) : notNil v = true := by
  cases d <;> simp only [nilD, getG_eq] at hn
  case val x => split at hn <;> cases hn
  case ptr id off =>
    simp only [Rep] at h
    split at hn
    · cases hn
    · cases hn
    · rename_i h1 h2
      cases hh : hp[id]? with
      | none => exact (h2 hh).elim
      | some x =>
        obtain ⟨b, n, ho⟩ := hp_live hk hh (fun e => h1 (e ▸ hh))
        rw [ho] at h
        rw [h]; rfl
  case sl id off len k cap =>
    simp only [Rep] at h
    split at hn
    · cases hn
    · cases hn
    · rename_i h1 h2
      cases hh : hp[id]? with
      | none => exact (h2 hh).elim
      | some x =>
        obtain ⟨b, n, ho⟩ := hp_live hk hh (fun e => h1 (e ▸ hh))
        rw [ho] at h
        obtain ⟨c, rfl, _⟩ := h
        rfl
  case map id =>
    simp only [Rep] at h
    split at hn
    · cases hn
    · cases hn
    · rename_i h1 h2
      cases hh : hp[id]? with
      | none => exact (h2 hh).elim
      | some x =>
        obtain ⟨b, n, ho⟩ := hp_live hk hh (fun e => h1 (e ▸ hh))
        rw [ho] at h
        rw [h]; rfl
  case row k len f =>
    split at hn
    · simp only [Rep] at h
      rcases h with ⟨_, h⟩ | ⟨b, o, c, rfl, _⟩
      · omega
      · rfl
    · cases hn
  case ref cs off => simp only [Rep] at h; obtain ⟨b, o, rfl, _⟩ := h; rfl
  case fn f x y => simp only [Rep] at h; obtain ⟨x, y, rfl, _⟩ := h; rfl
  case emp z => simp only [Rep] at h; obtain ⟨a, a2, c, rfl, _⟩ := h; rfl
  all_goals cases hn

theorem s_nilCheck {x : Operand} (ho : o.op = .nilCheck x) (hk : OK K w ρ hp) (hs : Slots K (mask K w ρ) ρ sl a.tmps) (h : c_nilCheck sl hp nid x = some out) (hm : ∀ n f c, a.eval x ≠ .func (.method n) f c) : Does P o a w (Res K w ρ hp nid out) := by
  have hx := evO_rep hs x
  unfold c_nilCheck at h
  split at h
  · rename_i hn
    obtain rfl := (Option.some.inj h).symm
    have h2 := nilD_false hk hx hn
    refine quiet (v := a.eval x) ?_ hx
    simp only [execOp, ho]
    generalize a.eval x = v at *
    cases v <;> simp [notNil] at h2
    · rename_i p; cases p <;> simp_all
    · simp
    · simp
    · rename_i f _ _
      cases f <;> simp_all
  · cases h

theorem wrap_in {k : IntKind} {n : Int} (h : inRange k n) : k.wrap n = n := by
  unfold inRange IntKind.min IntKind.max at h
  cases k <;> simp [IntKind.signed, IntKind.bits] at h
  · exact IntWalk.i8_in n (by omega)
  · exact IntWalk.i16_in n (by omega)
  · exact IntWalk.i32_in n (by omega)
  · exact IntWalk.i64_in n (by omega)
  · exact IntWalk.u8_in n (by omega)
  · exact IntWalk.u16_in n (by omega)
  · exact IntWalk.u32_in n (by omega)
  · exact IntWalk.u64_in n (by omega)
theorem some_pair {α β : Type} {a c : α} {b d : β} (h : some (a, b) = some (c, d)) : a = c ∧ b = d := by simpa using h
theorem wrapV_run {ex : Bool} {k : IntKind} {n : Int} {p : Option Prop} {r : Value} (hr : wrapV ex k n = some (p, r)) (hp : ∀ q, p = some q → q) : r = .int k (k.wrap n) := by
  unfold wrapV at hr
  split at hr
  · split at hr
    · obtain ⟨rfl, rfl⟩ := some_pair hr
      rw [wrap_in (hp _ rfl)]
    · obtain ⟨rfl, rfl⟩ := some_pair hr; rfl
  · obtain ⟨rfl, rfl⟩ := some_pair hr; rfl
theorem quoV_run {ex : Bool} {k : IntKind} {x y : Int} {p : Option Prop} {r : Value} (hr : quoV ex k x y = some (p, r)) (hp : ∀ q, p = some q → q) : y ≠ 0 ∧ r = .int k (k.wrap (x.tdiv y)) := by
  unfold quoV at hr
  split at hr
  · obtain ⟨rfl, rfl⟩ := some_pair hr
    obtain ⟨h1, h2, h3⟩ := hp _ rfl
    refine ⟨by omega, ?_⟩
    have e : x.tdiv y = x / y := Int.tdiv_eq_ediv_of_nonneg h1
    have h4 : 0 ≤ x / y := Int.ediv_nonneg h1 (by omega)
    have h5 : x / y ≤ x := Int.ediv_le_self _ h1
    have h6 : k.min ≤ 0 := by cases k <;> simp [IntKind.min, IntKind.signed, IntKind.bits]
    rw [e, wrap_in ⟨by omega, by omega⟩]
  · split at hr
    · cases hr
    · obtain ⟨rfl, rfl⟩ := some_pair hr; exact ⟨by assumption, rfl⟩
theorem remV_run {ex : Bool} {k : IntKind} {x y : Int} {p : Option Prop} {r : Value} (hr : remV ex k x y = some (p, r)) (hp : ∀ q, p = some q → q) : y ≠ 0 ∧ r = .int k (x.tmod y) := by
  unfold remV at hr
  split at hr
  · obtain ⟨rfl, rfl⟩ := some_pair hr
    obtain ⟨h1, h2⟩ := hp _ rfl
    exact ⟨by omega, by rw [Int.tmod_eq_emod_of_nonneg h1]⟩
  · split at hr
    · cases hr
    · obtain ⟨rfl, rfl⟩ := some_pair hr; exact ⟨by assumption, rfl⟩
theorem int2V_run {ex : Bool} {op : BinOp} {t : TypeId} {k k' : IntKind} {i j : Int} {p : Option Prop} {r : Value} (hr : int2V ex k k' i j op = some (p, r)) (hp : ∀ q, p = some q → q) :
    (Go.binOp op t (.int k i) (.int k' j)).run P w = .ok r w := by
  unfold int2V at hr
  split at hr
  · rename_i hk'
    have hk2 : isSh op = true ∨ k = k' := by simpa [sameK] using hk'
    cases op <;> simp only [intV, intF, isSh, Bool.false_eq_true, false_or, boolV, bitsV] at hr hk2 <;> (try subst hk2)
    case add => rw [wrapV_run hr hp]; simp [Go.binOp, Op.intArith]
    case sub => rw [wrapV_run hr hp]; simp [Go.binOp, Op.intArith]
    case mul => rw [wrapV_run hr hp]; simp [Go.binOp, Op.intArith]
    case quo => obtain ⟨h1, rfl⟩ := quoV_run hr hp; simp [Go.binOp, Op.intDiv, h1]
    case rem => obtain ⟨h1, rfl⟩ := remV_run hr hp; simp [Go.binOp, Op.intDiv, h1]
    case shl =>
      unfold justV shiftD at hr
      split at hr
      · rename_i v hv
        split at hv
        · cases hv
        · obtain ⟨rfl, rfl⟩ := some_pair hr
          obtain rfl := Option.some.inj hv
          simp [Go.binOp, Op.shift, *]
      · cases hr
    case shr =>
      unfold justV shiftD at hr
      split at hr
      · rename_i v hv
        split at hv
        · cases hv
        · obtain ⟨rfl, rfl⟩ := some_pair hr
          obtain rfl := Option.some.inj hv
          simp [Go.binOp, Op.shift, *]
      · cases hr
    all_goals
      obtain ⟨rfl, rfl⟩ := some_pair hr
      simp [Go.binOp, Op.intBits, Op.intCmp]
  · cases hr
theorem strD_run {op : BinOp} {x y : ByteArray} {r : Value} (h : strD op x y = some r) : (Op.stringOp op x y).run P w = .ok r w := by
  cases op <;> simp only [strD] at h
  case add =>
    split at h
    · cases h
    · obtain rfl := Option.some.inj h
      have : ¬ (((x.size + y.size : Nat) : Int) > IntKind.i64.max) := by
        rw [← bytesOfS_length, ← bytesOfS_length]
        simp only [IntKind.max, IntKind.signed, IntKind.bits]
        omega
      simp only [Op.stringOp, if_neg this]
      rw [catB_eq]
      rfl
  all_goals first
    | cases h; done
    | (obtain rfl := Option.some.inj h; simp [Op.stringOp, bytesOfS_eq])
theorem equalIn_bool {d : Nat} {t : TypeId} {b c : Bool} (h : P.underlying t = some .bool) : (Op.equalIn (d + 1) t (.bool b) (.bool c)).run P w = .ok (b == c) w := by
  simp [Op.equalIn, run_under h]
theorem equal_bool {t : TypeId} {b c : Bool} (h : P.underlying t = some .bool) : (Op.equal t (.bool b) (.bool c)).run P w = .ok (b == c) w := equalIn_bool (d := 9999) h
def kindV (kd : Nat) : Value → Bool
  | .slice _ _ _ => kd == 0
  | .pointer _ => kd == 1
  | .nilFunc | .func _ _ _ => kd == 2
  | .map _ => kd == 3
  | _ => false
def kindT (kd : Nat) : TypeDesc → Bool
  | .slice _ => kd == 0
  | .pointer _ => kd == 1
  | .func _ _ _ => kd == 2
  | .map _ _ => kd == 3
  | _ => false
theorem equalIn_nil {d kd : Nat} {t : TypeId} {de : TypeDesc} {u v : Value} (h : P.underlying t = some de) (ht : kindT kd de = true) (hu : kindV kd u = true) (hv : kindV kd v = true) (hn : (isNil u || isNil v) = true) :
    (Op.equalIn (d + 1) t u v).run P w = .ok (isNil u && isNil v) w := by
  cases de <;> simp only [kindT, Bool.false_eq_true] at ht <;> (have ht := eq_of_beq ht; subst ht) <;>
    cases u <;> simp only [kindV, Bool.false_eq_true, reduceBEq] at hu <;> (try (exact absurd hu (by decide))) <;>
    cases v <;> simp only [kindV, Bool.false_eq_true, reduceBEq] at hv <;> (try (exact absurd hv (by decide)))
  case pointer.pointer.pointer e x y =>
    cases x <;> cases y <;> simp [isNil] at hn <;> simp [Op.equalIn, run_under h, isNil]
  case slice.slice.slice e x _ _ y _ _ =>
    cases x <;> cases y <;> simp [isNil] at hn <;> simp [Op.equalIn, run_under h, isNil]
  case map.map.map k e x y =>
    cases x <;> cases y <;> simp [isNil] at hn <;> simp [Op.equalIn, run_under h, isNil]
  all_goals first
    | (simp [isNil] at hn; done)
    | simp [Op.equalIn, run_under h, isNil]
theorem kindD_V {kd : Nat} {d : D} {v : Value} (h : Rep K (mask K w ρ) ρ d v) (hk : kindD kd d = true) {b : Bool} (hd : nilD hp d = some b) (hK : OK K w ρ hp) : kindV kd v = true := by
  have hn := hd
  cases b with
  | true =>
    have h3 := nilD_true h hn
    cases d <;> simp only [nilD, getG_eq] at hn
    case val x =>
      simp only [Rep] at h
      subst h
      cases v <;> simp_all [kindD, kindV, isNil]
    case row => split at hn <;> cases hn
    all_goals first | (split at hn <;> cases hn; done) | cases hn
  | false =>
    have h3 := nilD_false hK h hn
    cases d <;> simp only [nilD, getG_eq] at hn <;> simp only [kindD, Bool.false_eq_true] at hk
    case val x => split at hn <;> cases hn
    case ptr id off =>
      simp only [Rep] at h
      split at h
      · subst h; exact hk
      · rename_i hod
        exfalso
        split at hn
        · cases hn
        · cases hn
        · rename_i h1 h2
          cases hh : hp[id]? with
          | none => exact (h2 hh).elim
          | some x =>
            obtain ⟨b, n, ho⟩ := hp_live hK hh (fun e => h1 (e ▸ hh))
            rw [hod] at ho; cases ho
      · exact h.elim
    case sl id off len k cap =>
      simp only [Rep] at h
      split at h
      · obtain ⟨c, rfl, _⟩ := h; exact hk
      · rename_i hod
        exfalso
        split at hn
        · cases hn
        · cases hn
        · rename_i h1 h2
          cases hh : hp[id]? with
          | none => exact (h2 hh).elim
          | some x =>
            obtain ⟨b, n, ho⟩ := hp_live hK hh (fun e => h1 (e ▸ hh))
            rw [hod] at ho; cases ho
      · exact h.elim
    case map id =>
      simp only [Rep] at h
      split at h
      · subst h; exact hk
      · rename_i hod
        exfalso
        split at hn
        · cases hn
        · cases hn
        · rename_i h1 h2
          cases hh : hp[id]? with
          | none => exact (h2 hh).elim
          | some x =>
            obtain ⟨b, n, ho⟩ := hp_live hK hh (fun e => h1 (e ▸ hh))
            rw [hod] at ho; cases ho
      · exact h.elim
    case row k len f =>
      simp only [Rep] at h
      rcases h with ⟨rfl, _⟩ | ⟨b, o, c, rfl, _⟩ <;> exact hk
    case ref cs off => simp only [Rep] at h; obtain ⟨b, o, rfl, _⟩ := h; exact hk
    case fn f x y => simp only [Rep] at h; obtain ⟨x, y, rfl, _⟩ := h; exact hk
    case emp z => simp only [Rep] at h; obtain ⟨a, a2, c, rfl, _⟩ := h; exact hk
theorem nilD_b {d : D} {v : Value} (hK : OK K w ρ hp) (h : Rep K (mask K w ρ) ρ d v) {b : Bool} (hd : nilD hp d = some b) : isNil v = b := by
  cases b with
  | true => exact nilD_true h hd
  | false =>
    have := nilD_false hK h hd
    cases v <;> simp_all [notNil, isNil]
    · rename_i p; cases p <;> simp_all [notNil, isNil]
    · rename_i p _ _; cases p <;> simp_all [notNil, isNil]
    · rename_i p; cases p <;> simp_all [notNil, isNil]
theorem eqGuard_kind {kd : Nat} {op : BinOp} {t : TypeId} {x y : Operand} {u v : Value} (hu : kindV kd u = true) : (eqGuard op t x y u v).run P w = .ok () w := by
  unfold eqGuard
  cases u <;> simp [kindV] at hu <;> cases op <;> simp
theorem binOp_eql {kd : Nat} {t : TypeId} {u v : Value} (hu : kindV kd u = true) (hv : kindV kd v = true) {r : Bool} (h : (Op.equal t u v).run P w = .ok r w) :
    (Go.binOp .eql t u v).run P w = .ok (.bool r) w ∧ (Go.binOp .neq t u v).run P w = .ok (.bool (!r)) w := by
  cases u <;> simp [kindV] at hu <;> cases v <;> simp [kindV] at hv <;> simp [Go.binOp, h]
theorem nilK_some {kd : Nat} {d : D} {b : Bool} (h : nilK kd hp d = some b) : kindD kd d = true ∧ nilD hp d = some b := by
  unfold nilK at h
  split at h
  · exact ⟨by assumption, h⟩
  · cases h
theorem s_eqNil {op : BinOp} {kd : Nat} {t t2 : TypeId} {de : TypeDesc} {x y : Operand} (ho : o.op = .binOp op t x y t2) (hk : OK K w ρ hp) (hs : Slots K (mask K w ρ) ρ sl a.tmps) (h : c_eqNil sl hp nid kd op x y = some out)
    (hu : P.underlying t = some de) (hkt : kindT kd de = true) : Does P o a w (Res K w ρ hp nid out) := by
  have hx := evO_rep hs x
  have hy := evO_rep hs y
  unfold c_eqNil at h
  split at h
  · rename_i p q hp1 hq1
    obtain ⟨kx, hp1⟩ := nilK_some hp1
    obtain ⟨ky, hq1⟩ := nilK_some hq1
    have vx := kindD_V hx kx hp1 hk
    have vy := kindD_V hy ky hq1 hk
    have nx := nilD_b hk hx hp1
    have ny := nilD_b hk hy hq1
    split at h
    · rename_i hpq
      have he : (Op.equal t (a.eval x) (a.eval y)).run P w = .ok (p && q) w := by
        rw [← nx, ← ny]
        exact equalIn_nil (d := 9999) hu hkt vx vy (by rw [nx, ny]; exact hpq)
      obtain ⟨e1, e2⟩ := binOp_eql vx vy he
      split at h
      · obtain rfl := (Option.some.inj h).symm
        exact quiet (v := .bool (p && q)) (by simp [execOp, ho, eqGuard_kind vx, e1]) (by simp [Rep])
      · obtain rfl := (Option.some.inj h).symm
        exact quiet (v := .bool (!(p && q))) (by simp [execOp, ho, eqGuard_kind vx, e2]) (by simp [Rep])
      · cases h
    · cases h
  · cases h
theorem equalIn_ptr {d : Nat} {t e : TypeId} {n b q p : Nat} {r : Bool} (hu : P.underlying t = some (.pointer e)) (hsz : sizT P e = some (n + 1)) (hab : ((⟨b, q, none⟩ : Addr) == ⟨b, p, none⟩) = r) :
    (Op.equalIn (d + 1) t (.pointer (some ⟨b, q, none⟩)) (.pointer (some ⟨b, p, none⟩))).run P w = .ok r w := by
  simp [Op.equalIn, run_under hu, run_size hsz, sameAddr, hab]
theorem s_eqPtr {op : BinOp} {t t2 e : TypeId} {n : Nat} {x y : Operand} (ho : o.op = .binOp op t x y t2) (hk : OK K w ρ hp) (hs : Slots K (mask K w ρ) ρ sl a.tmps) (h : c_eqPtr sl hp nid op x y = some out)
    (hu : P.underlying t = some (.pointer e)) (hsz : sizT P e = some (n + 1)) : Does P o a w (Res K w ρ hp nid out) := by
  have hx := evO_rep hs x
  have hy := evO_rep hs y
  unfold c_eqPtr at h
  split at h
  · rename_i r hr
    have key : (kindV 1 (a.eval x) = true ∧ kindV 1 (a.eval y) = true) ∧ (kindV 1 (a.eval x) = true ∧ kindV 1 (a.eval y) = true) ∧ (Op.equal t (a.eval x) (a.eval y)).run P w = .ok r w := by
      unfold ptrEq at hr
      split at hr
      · rename_i i q j p hd1 hd2
        rw [hd1] at hx
        rw [hd2] at hy
        split at hr
        · rename_i hij
          have hij := eq_of_beq hij
          subst hij
          rw [getG_eq] at hr
          have hlive : ∃ b m, own ρ i = .live b m ∧ (q == p) = r := by
            split at hr
            · cases hr
            · cases hr
            · rename_i h3 h4
              cases hh : hp[i]? with
              | none => exact absurd hh h4
              | some z =>
                obtain ⟨b, m, ho⟩ := hp_live hk hh (fun e => h3 (e ▸ hh))
                exact ⟨b, m, ho, Option.some.inj hr⟩
          obtain ⟨b, m, ho1, hqp⟩ := hlive
          simp only [Rep, ho1] at hx hy
          refine ⟨⟨by rw [hx]; rfl, by rw [hy]; rfl⟩, ⟨by rw [hx]; rfl, by rw [hy]; rfl⟩, ?_⟩
          have hab : ((⟨b, q, none⟩ : Addr) == ⟨b, p, none⟩) = r := by
            rw [← hqp]
            by_cases h : q = p
            · subst h; simp
            · have h1 : (q == p) = false := by simpa using h
              rw [h1]
              simp [h]
          rw [hx, hy]
          exact equalIn_ptr (d := 9999) hu hsz hab
        · cases hr
      · unfold nilBoth at hr
        split at hr
        · rename_i p q hp1 hq1
          obtain ⟨kx, hp1⟩ := nilK_some hp1
          obtain ⟨ky, hq1⟩ := nilK_some hq1
          have vx := kindD_V hx kx hp1 hk
          have vy := kindD_V hy ky hq1 hk
          have nx := nilD_b hk hx hp1
          have ny := nilD_b hk hy hq1
          split at hr
          · rename_i hpq
            refine ⟨⟨vx, vy⟩, ⟨vx, vy⟩, ?_⟩
            rw [← Option.some.inj hr, ← nx, ← ny]
            exact equalIn_nil (d := 9999) hu rfl vx vy (by rw [nx, ny]; exact hpq)
          · cases hr
        · cases hr
    obtain ⟨⟨vx, vy⟩, _, he⟩ := key
    obtain ⟨e1, e2⟩ := binOp_eql vx vy he
    split at h
    · obtain rfl := (Option.some.inj h).symm
      exact quiet (v := .bool r) (by simp [execOp, ho, eqGuard_kind vx, e1]) (by simp [Rep])
    · obtain rfl := (Option.some.inj h).symm
      exact quiet (v := .bool (!r)) (by simp [execOp, ho, eqGuard_kind vx, e2]) (by simp [Rep])
    · cases h
  · cases h
theorem strX_run {ex : Bool} {op : BinOp} {t : TypeId} {x y : ByteArray} {p : Option Prop} {r : Value} (hr : strX ex op x y = some (p, r)) (hc : ∀ q, p = some q → q) : (Go.binOp op t (.string x) (.string y)).run P w = .ok r w := by
  have just : justV (strD op x y) = some (p, r) → (Go.binOp op t (.string x) (.string y)).run P w = .ok r w := fun hr => by
    unfold justV at hr
    split at hr
    · rename_i v' hv
      obtain ⟨rfl, rfl⟩ := some_pair hr
      cases op <;> simp [Go.binOp] <;> first | exact strD_run hv | (simp [strD] at hv)
    · cases hr
  unfold strX at hr
  split at hr
  · exact just hr
  · split at hr
    · obtain ⟨rfl, rfl⟩ := some_pair hr
      have h1 := hc _ rfl
      have : strD .add x y = some (.string (catB x y)) := by
        unfold strD
        simp only
        rw [if_neg (by omega)]
      simp [Go.binOp]
      exact strD_run this
    · exact just hr
theorem s_bin {ex kb : Bool} {op : BinOp} {t t2 : TypeId} {x y : Operand} (ho : o.op = .binOp op t x y t2) (hs : Slots K (mask K w ρ) ρ sl a.tmps) (h : c_bin ex sl hp nid kb op x y = some out) (hcond : ∀ p, out.p = some p → p)
    (hu : kb = true → P.underlying t = some .bool) : Does P o a w (Res K w ρ hp nid out) := by
  have hx := evO_rep hs x
  have hy := evO_rep hs y
  unfold c_bin at h
  split at h
  · rename_i u v hu1 hv1
    rw [hu1] at hx
    rw [hv1] at hy
    simp only [Rep] at hx hy
    obtain ⟨hkb, h⟩ : boolOk kb u = true ∧ (match binV ex op u v with | some (p, v) => forceX ex v fun v => some (⟨p, .val v, [], []⟩ : Out) | none => none) = some out := by
      split at h
      · exact ⟨by assumption, h⟩
      · cases h
    split at h
    · rename_i p r hr
      rw [forceX_eq] at h
      obtain rfl := (Option.some.inj h).symm
      have key : (Go.binOp op t u v).run P w = .ok r w ∧ (∀ b, (eqGuard op t x y u v).run P b = .ok () b) := by
        unfold binV at hr
        split at hr
        · exact ⟨int2V_run hr hcond, fun b => by unfold eqGuard; cases op <;> simp⟩
        · exact ⟨strX_run hr hcond, fun b => by unfold eqGuard; cases op <;> simp⟩
        · refine ⟨?_, fun b => by unfold eqGuard; cases op <;> simp⟩
          have hb := hu hkb
          cases op <;> simp only [boV, boolV, reduceCtorEq] at hr
          · obtain ⟨rfl, rfl⟩ := some_pair hr; simp [Go.binOp, equal_bool hb]
          · obtain ⟨rfl, rfl⟩ := some_pair hr; simp [Go.binOp, equal_bool hb]
        · cases hr
      exact quiet (v := r) (by simp [execOp, ho, hx, hy, key.1, key.2]) (by simp [Rep])
    · cases h
  · cases h
end
end Go.Ev
end
