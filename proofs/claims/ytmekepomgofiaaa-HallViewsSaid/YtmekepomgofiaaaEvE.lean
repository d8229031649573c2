import Derived.Test.YtmekepomgofiaaaEvD
set_option linter.all false
namespace Go.Ev
section runs
variable {P : Program} {w : World}
theorem run_program' : (program).run P w = .ok P w := rfl
theorem run_under {t : TypeId} {d : TypeDesc} (h : P.underlying t = some d) : (underlying t).run P w = .ok d w := by
  simp [underlying, run_program', h]
theorem run_info {t : TypeId} {i : TypeInfo} (h : P.info? t = some i) : (typeInfo t).run P w = .ok i w := by
  simp [typeInfo, run_program', h]
theorem run_size {t : TypeId} {n : Nat} (h : sizT P t = some n) : (sizeOf t).run P w = .ok n w := by
  unfold sizT at h
  cases hi : P.info? t with
  | none => rw [hi] at h; cases h
  | some i =>
    rw [hi] at h
    simp at h
    simp [sizeOf, run_info hi, h]
theorem run_isAgg' {t : TypeId} {b : Bool} (h : aggT P t = some b) : (isAgg t).run P w = .ok b w := by
  unfold aggT at h
  cases hu : P.underlying t with
  | none => rw [hu] at h; cases h
  | some d =>
    rw [hu] at h
    cases d <;> simp at h <;> subst h <;> simp [isAgg, run_under hu]
theorem shape_one {t : TypeId} (h : shapeT P t = some none) : aggT P t = some false ∧ sizT P t = some 1 := by
  unfold shapeT at h
  split at h <;> simp_all
theorem shape_many {t : TypeId} {n : Nat} (h : shapeT P t = some (some n)) : aggT P t = some true ∧ sizT P t = some n := by
  unfold shapeT at h
  split at h <;> simp_all
theorem addr_add (b o n : Nat) : (⟨b, o, none⟩ : Addr).add n = ⟨b, o + n, none⟩ := by
  unfold Addr.add
  split
  · subst_vars; rfl
  · rfl
theorem run_load' {a : Addr} {v : Value} (h : w.cell? a = some v) : (load a).run P w = .ok v w := by simp [h]
theorem run_loadCellsFrom {b o : Nat} : ∀ (vs : List Value) (i : Nat) (acc : Array Value), (∀ (j : Nat) (v : Value), vs[j]? = some v → w.cell? ⟨b, o + (i + j), none⟩ = some v) →
    (loadCellsFrom ⟨b, o, none⟩ i vs.length acc).run P w = .ok (acc ++ vs.toArray) w
  | [], i, acc, _ => by simp [loadCellsFrom]
  | v :: vs, i, acc, h => by
    simp only [List.length_cons, loadCellsFrom, addr_add, Sem.run_bind]
    have h0 : w.cell? ⟨b, o + i, none⟩ = some v := h 0 v (by simp)
    rw [run_load' h0]
    simp only [Result.andThen_ok]
    rw [run_loadCellsFrom vs (i + 1) (acc.push v) (fun j u hu => by
      have := h (j + 1) u (by simpa using hu)
      rw [show i + 1 + j = i + (j + 1) by omega]
      exact this)]
    simp
theorem run_loadCells {b o : Nat} (vs : List Value) (h : ∀ (j : Nat) (v : Value), vs[j]? = some v → w.cell? ⟨b, o + j, none⟩ = some v) :
    (loadCells ⟨b, o, none⟩ vs.length).run P w = .ok vs.toArray w := by
  unfold loadCells
  rw [run_loadCellsFrom vs 0 #[] (fun j v hv => by simpa using h j v hv)]
  simp
end runs

/-- cells that can be read -/
def Reads (K : Cust) (w M : World) (ρ : List Own) (cs : List D) (b o : Nat) : Prop := ∀ (j : Nat) (d : D), cs[j]? = some d → ∃ x, w.cell? ⟨b, o + j, none⟩ = some x ∧ Rep K M ρ d x

theorem repC_reads {K : Cust} {w M : World} {ρ : List Own} (hs : Sub M w) : ∀ {cs : List D} {b o : Nat}, RepC K M ρ cs b o → Reads K w M ρ cs b o
  | [], b, o, _, j, d, h => by simp at h
  | d0 :: cs, b, o, hc, j, d, h => by
    simp only [RepC] at hc
    cases j with
    | zero =>
      simp at h
      subst h
      obtain ⟨⟨x, h1, h2⟩, _⟩ := hc
      exact ⟨x, hs.cell h1, h2⟩
    | succ j =>
      have := repC_reads hs hc.2 j d (by simpa using h)
      rw [show o + 1 + j = o + (j + 1) by omega] at this
      exact this
theorem reads_C {K : Cust} {M : World} {ρ : List Own} : ∀ {cs : List D} {b o : Nat}, Reads K M M ρ cs b o → RepC K M ρ cs b o
  | [], b, o, _ => by simp [RepC]
  | d :: cs, b, o, h => by
    simp only [RepC]
    refine ⟨by simpa using h 0 d (by simp), reads_C fun j e he => ?_⟩
    rw [show o + 1 + j = o + (j + 1) by omega]
    exact h (j + 1) e (by simpa using he)
theorem cell_of {w : World} {b : Nat} {vs : Array Value} {ty : TypeId} {fr : Nat × Nat} (h : w.heap[b]? = some (Obj.cells vs ty fr)) (o : Nat) : w.cell? ⟨b, o, none⟩ = vs[o]? := by
  simp [World.cell?, h]
theorem own_reads {K : Cust} {w M : World} {ρ : List Own} {b n : Nat} {cs : List D} (h : RepB K w M ρ (.live b n) (.cells cs)) : Reads K w M ρ cs b 0 := by
  obtain ⟨vs, ty, h1, _, h2⟩ := h
  intro j d hd
  obtain ⟨x, g1, g2⟩ := h2 j d hd
  exact ⟨x, by rw [cell_of h1, Nat.zero_add]; exact g1, g2⟩

theorem reads_vals {K : Cust} {w M : World} {ρ : List Own} {cs : List D} {b o : Nat} (h : Reads K w M ρ cs b o) : ∀ (off n : Nat), off + n ≤ cs.length →
    ∃ vs : List Value, vs.length = n ∧ (∀ (j : Nat) (v : Value), vs[j]? = some v → w.cell? ⟨b, o + off + j, none⟩ = some v) ∧ RepL K M ρ ((cs.drop off).take n) vs
  | off, 0, _ => ⟨[], rfl, fun j v hv => by simp at hv, by simp [RepL]⟩
  | off, n + 1, hl => by
    obtain ⟨vs, h1, h2, h3⟩ := reads_vals h (off + 1) n (by omega)
    have hd : cs[off]? = some cs[off] := List.getElem?_eq_getElem (by omega)
    obtain ⟨x, g1, g2⟩ := h off _ hd
    refine ⟨x :: vs, by simp [h1], fun j v hv => ?_, ?_⟩
    · cases j with
      | zero => simp at hv; subst hv; exact g1
      | succ j =>
        have := h2 j v (by simpa using hv)
        rw [show o + off + (j + 1) = o + (off + 1) + j by omega]
        exact this
    · rw [List.drop_eq_getElem_cons (by omega), List.take_succ_cons]
      simp only [RepL]
      exact ⟨x, vs, rfl, g2, h3⟩

theorem load_reads {K : Cust} {P : Program} {w M : World} {ρ : List Own} {cs : List D} {b o : Nat} {t : TypeId} {n : Option Nat} {off : Nat} {d : D}
    (h : Reads K w M ρ cs b o) (hn : shapeT P t = some n) (hd : ofCells n cs off = some d) :
    ∃ v, (loadVar t ⟨b, o + off, none⟩).run P w = .ok v w ∧ Rep K M ρ d v := by
  cases n with
  | none =>
    simp only [ofCells, getG_eq] at hd
    obtain ⟨x, g1, g2⟩ := h off d hd
    obtain ⟨h1, h2⟩ := shape_one hn
    exact ⟨x, by simp [loadVar, run_isAgg' h1, g1], g2⟩
  | some n =>
    simp only [ofCells, lenG_eq, takeG_eq, dropG_eq] at hd
    split at hd
    · rename_i hl
      obtain rfl := Option.some.inj hd
      obtain ⟨vs, g1, g2, g3⟩ := reads_vals h off n hl
      obtain ⟨h1, h2⟩ := shape_many hn
      refine ⟨.agg vs.toArray, ?_, ?_⟩
      · simp only [loadVar, Sem.run_bind, run_isAgg' h1, Result.andThen_ok, if_true, run_size h2]
        rw [← g1, run_loadCells vs g2]
        simp
      · simp only [Rep]; exact ⟨vs, rfl, g3⟩
    · cases hd

/-! stores -/
def storeA (vs : Array Value) (o : Nat) : List Value → Array Value
  | [] => vs
  | x :: l => storeA (vs.setIfInBounds o x) (o + 1) l
theorem storeA_size : ∀ (l : List Value) (vs : Array Value) (o : Nat), (storeA vs o l).size = vs.size
  | [], _, _ => rfl
  | x :: l, vs, o => by simp only [storeA]; rw [storeA_size l]; simp
theorem storeA_get : ∀ (l : List Value) (vs : Array Value) (o j : Nat), o + l.length ≤ vs.size →
    (storeA vs o l)[j]? = if o ≤ j ∧ j < o + l.length then l[j - o]? else vs[j]?
  | [], vs, o, j, h => by
    rw [if_neg (by simp only [List.length_nil]; omega)]
    rfl
  | x :: l, vs, o, j, h => by
    simp only [storeA]
    rw [storeA_get l _ _ _ (by simp at h ⊢; omega)]
    simp only [List.length_cons] at h ⊢
    by_cases h1 : o = j
    · subst h1
      rw [if_neg (by omega), if_pos (by omega)]
      simp [show o < vs.size by omega]
    · by_cases h2 : o + 1 ≤ j ∧ j < o + 1 + l.length
      · rw [if_pos h2, if_pos (by omega)]
        rw [show j - o = (j - (o + 1)) + 1 by omega]
        simp
      · rw [if_neg h2, if_neg (by omega)]
        simp [Array.getElem?_setIfInBounds_ne h1]
def rowed (w : World) (b : Nat) (vs : Array Value) (ty : TypeId × Nat × Nat) : World := { w with heap := w.heap.set! b (Obj.cells vs ty.1 ty.2) }
theorem rowed_get {w : World} {b : Nat} {vs : Array Value} {ty : TypeId × Nat × Nat} (h : b < w.heap.size) : (rowed w b vs ty).heap[b]? = some (Obj.cells vs ty.1 ty.2) := by
  simp [rowed, h]
theorem rowed_rowed {w : World} {b : Nat} {vs vs' : Array Value} {ty : TypeId × Nat × Nat} : rowed (rowed w b vs ty) b vs' ty = rowed w b vs' ty := by
  simp [rowed]
theorem rowed_self {w : World} {b : Nat} {vs : Array Value} {ty : TypeId × Nat × Nat} (h : w.heap[b]? = some (Obj.cells vs ty.1 ty.2)) : rowed w b vs ty = w := by
  unfold rowed
  have hb := lt_of_cells h
  have : w.heap.set! b (Obj.cells vs ty.1 ty.2) = w.heap := by
    apply Array.ext_getElem?
    intro i
    rw [Array.set!_eq_setIfInBounds]
    by_cases e : b = i
    · subst e; rw [h]; simp [hb]
    · rw [Array.getElem?_setIfInBounds_ne e]
  rw [this]
theorem setCell_rowed {w : World} {b o : Nat} {vs : Array Value} {ty : TypeId × Nat × Nat} {v : Value} (h : w.heap[b]? = some (Obj.cells vs ty.1 ty.2)) :
    w.setCell ⟨b, o, none⟩ v = rowed w b (vs.setIfInBounds o v) ty := by
  unfold World.setCell rowed
  have hb := lt_of_cells h
  congr 1
  apply Array.ext_getElem?
  intro i
  rw [Array.set!_eq_setIfInBounds, Array.getElem?_modify]
  by_cases e : b = i
  · subst e; rw [h]; simp [hb]
  · rw [Array.getElem?_setIfInBounds_ne e]
    simp [e]
theorem run_store' {P : Program} {w : World} {b o : Nat} {vs : Array Value} {ty : TypeId × Nat × Nat} {v : Value} (h : w.heap[b]? = some (Obj.cells vs ty.1 ty.2)) (ht : thaw vs.size ty.2) (hp : plain v = true) (ho : o < vs.size) :
    (store ⟨b, o, none⟩ v).run P w = .ok () (rowed w b (vs.setIfInBounds o v) ty) := by
  have hc : w.cell? ⟨b, o, none⟩ = some vs[o] := by rw [cell_of h]; simp [ho]
  have hf : w.frozen? ⟨b, o, none⟩ = false := by
    unfold World.frozen?
    simp only [h]
    exact thaw_not ht ho
  rw [← setCell_rowed h]
  cases v <;> simp [plain] at hp <;> simp [store, Sem.run, hc, hf]
theorem run_storeCells {P : Program} {b o : Nat} {ty : TypeId × Nat × Nat} : ∀ (l : List Value) (w : World) (vs : Array Value) (i : Nat), w.heap[b]? = some (Obj.cells vs ty.1 ty.2) → thaw vs.size ty.2 → (∀ x ∈ l, plain x = true) → o + i + l.length ≤ vs.size →
    (storeCells ⟨b, o, none⟩ l i).run P w = .ok () (rowed w b (storeA vs (o + i) l) ty)
  | [], w, vs, i, h, _, _, _ => by
    simp only [storeCells, storeA, rowed_self h]
    rfl
  | x :: l, w, vs, i, h, ht, hp, hl => by
    simp only [storeCells, addr_add, Sem.run_bind]
    rw [run_store' h ht (hp x (by simp)) (by simp at hl; omega)]
    simp only [Result.andThen_ok, storeA]
    have hb := lt_of_cells h
    rw [run_storeCells l _ (vs.setIfInBounds (o + i) x) (i + 1) (rowed_get hb) (by simpa using ht) (fun y hy => hp y (List.mem_cons_of_mem _ hy)) (by simp at hl ⊢; omega), rowed_rowed]
    rfl
end Go.Ev
