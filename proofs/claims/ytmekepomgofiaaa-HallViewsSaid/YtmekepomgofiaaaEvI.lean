import Derived.Test.YtmekepomgofiaaaEvH
set_option linter.all false
namespace Go.Ev
section
variable {K : Cust} {P : Program} {o : Oper} {a : Act} {w : World} {ρ : List Own} {hp : List Blk} {sl : List D} {nid : Nat} {out : Out}

theorem repL_map {M : World} {f g : Value → Value} : True := trivial
/-- parts of a struct, at their places -/
theorem fill_rep {M : World} {place : Nat → Option (Nat × Nat)} : ∀ (parts : List (Nat × Value)) (ps : List (Nat × List D)) (cells : Array Value) (cs r : List D),
    parts.length = ps.length → (∀ (j i : Nat) (v : Value) (off : Nat) (ds : List D), parts[j]? = some (i, v) → ps[j]? = some (off, ds) → place i = some (off, ds.length) ∧ RepL K M ρ ds v.cells.toList) →
    RepL K M ρ cs cells.toList → fillD cs ps = some r → ∃ rs, Instr.fill place cells parts = some rs ∧ RepL K M ρ r rs.toList
  | [], [], cells, cs, r, _, _, hc, h => by
    simp only [fillD] at h
    obtain rfl := Option.some.inj h
    exact ⟨cells, rfl, hc⟩
  | (i, v) :: parts, (off, ds) :: ps, cells, cs, r, hl, hp, hc, h => by
    obtain ⟨h1, h2⟩ := hp 0 i v off ds (by simp) (by simp)
    simp only [fillD] at h
    split at h
    · rename_i hle
      have e1 := repL_length h2
      have e2 := repL_length hc
      have e3 : v.cells.size = ds.length := by simpa using e1.symm
      have e4 : cells.size = cs.length := by simpa using e2.symm
      have key : ∀ (vs : List Value) (n : Nat) (cells : Array Value), (vs.zipIdx n).foldl (fun cs (x : Value × Nat) => cs.setIfInBounds (off + x.2) x.1) cells = storeA cells (off + n) vs := by
        intro vs
        induction vs with
        | nil => intro n cells; rfl
        | cons x vs ih => intro n cells; simp only [List.zipIdx_cons, List.foldl_cons, storeA]; rw [ih]; rfl
      have hR : RepL K M ρ (cs.take off ++ ds ++ cs.drop (off + ds.length)) (storeA cells off v.cells.toList).toList := by
        have hpt : put cs off ds = cs.take off ++ ds ++ cs.drop (off + ds.length) := rfl
        rw [← hpt]
        refine repL_of (by rw [put_length _ _ _ (by omega)]; simp [storeA_size, e4]) fun j d hj => ?_
        have hrd : ReadsL K M ρ cs cells := fun j d hj => by
          obtain ⟨u, g1, g2⟩ := repL_get hc hj
          exact ⟨u, by simpa using g1, g2⟩
        obtain ⟨u, g1, g2⟩ := readsL_put hrd h2 (by omega) (by omega) j d hj
        exact ⟨u, by simpa using g1, g2⟩
      obtain ⟨rs, g1, g2⟩ := fill_rep parts ps _ _ r (by simpa using hl) (fun j i v off ds h1 h2 => hp (j + 1) i v off ds (by simpa using h1) (by simpa using h2)) hR h
      refine ⟨rs, ?_, g2⟩
      simp only [Instr.fill, h1]
      rw [if_neg]
      · have : v.cells.zipIdx.foldl (fun cs (x : Value × Nat) => cs.setIfInBounds (off + x.2) x.1) cells = storeA cells off v.cells.toList := by
          rw [← Array.foldl_toList]
          simpa using key v.cells.toList 0 cells
        exact (congrArg (fun z => Instr.fill place z parts) this).trans g1
      · simp
        omega
    · cases h
  | [], _ :: _, _, _, _, hl, _, _, _ => by simp at hl
  | _ :: _, [], _, _, _, hl, _, _, _ => by simp at hl

theorem compParts_get {fs : Array Field} : ∀ (parts : List (Nat × Operand)) (l : List (Nat × Nat × Operand)), compParts P fs parts = some l →
    l.length = parts.length ∧ ∀ (j i : Nat) (x : Operand), parts[j]? = some (i, x) → ∃ f n, fs[i]? = some f ∧ sizT P f.type = some n ∧ l[j]? = some (f.offset, n, x)
  | [], l, h => by
    simp only [compParts] at h
    obtain rfl := Option.some.inj h
    exact ⟨rfl, fun j i x hj => by simp at hj⟩
  | (i, x) :: parts, l, h => by
    simp only [compParts] at h
    split at h
    · rename_i f hf
      split at h
      · rename_i n r hn hr
        obtain rfl := Option.some.inj h
        obtain ⟨g1, g2⟩ := compParts_get parts r hr
        refine ⟨by simp [g1], fun j i' x' hj => ?_⟩
        cases j with
        | zero => simp at hj; obtain ⟨rfl, rfl⟩ := hj; exact ⟨f, n, hf, hn, by simp⟩
        | succ j => simpa using g2 j i' x' (by simpa using hj)
      · cases h
    · cases h
theorem partsD_get {M : World} (hs : Slots K M ρ sl a.tmps) : ∀ (l : List (Nat × Nat × Operand)) (ps : List (Nat × List D)), partsD sl l = some ps →
    ps.length = l.length ∧ ∀ (j off n : Nat) (x : Operand), l[j]? = some (off, n, x) → ∃ ds, ps[j]? = some (off, ds) ∧ ds.length = n ∧ RepL K M ρ ds (a.eval x).cells.toList
  | [], ps, h => by
    simp only [partsD] at h
    obtain rfl := Option.some.inj h
    exact ⟨rfl, fun j off n x hj => by simp at hj⟩
  | (off, n, x) :: l, ps, h => by
    simp only [partsD] at h
    split at h
    · rename_i cs r hc hr
      split at h
      · rename_i hn
        obtain rfl := Option.some.inj h
        obtain ⟨g1, g2⟩ := partsD_get hs l r hr
        refine ⟨by simp [g1], fun j off' n' x' hj => ?_⟩
        cases j with
        | zero =>
          simp at hj
          obtain ⟨rfl, rfl, rfl⟩ := hj
          exact ⟨cs, by simp, eq_of_beq hn, cellsD_rep (evO_rep hs x) hc⟩
        | succ j => simpa using g2 j off' n' x' (by simpa using hj)
      · cases h
    · cases h
theorem partsS_get {M : World} {k : Nat} (hs : Slots K M ρ sl a.tmps) : ∀ (l : List (Nat × Operand)) (ps : List (Nat × List D)), partsS sl k l = some ps →
    ps.length = l.length ∧ ∀ (j i : Nat) (x : Operand), l[j]? = some (i, x) → ∃ ds, ps[j]? = some (i * k, ds) ∧ ds.length = k ∧ RepL K M ρ ds (a.eval x).cells.toList
  | [], ps, h => by
    simp only [partsS] at h
    obtain rfl := Option.some.inj h
    exact ⟨rfl, fun j off x hj => by simp at hj⟩
  | (i, x) :: l, ps, h => by
    simp only [partsS] at h
    split at h
    · rename_i cs r hc hr
      split at h
      · rename_i hn
        obtain rfl := Option.some.inj h
        obtain ⟨g1, g2⟩ := partsS_get hs l r hr
        refine ⟨by simp [g1], fun j off' x' hj => ?_⟩
        cases j with
        | zero =>
          simp at hj
          obtain ⟨rfl, rfl⟩ := hj
          exact ⟨cs, by simp, eq_of_beq hn, cellsD_rep (evO_rep hs x) hc⟩
        | succ j => simpa using g2 j off' x' (by simpa using hj)
      · cases h
    · cases h
theorem mapM_places {fs : Array Field} (h : ∀ f ∈ fs.toList, ∃ n, sizT P f.type = some n) :
    ∃ pl : Array (Nat × Nat), (fs.mapM fun f => do pure (f.offset, ← sizeOf f.type) : Sem (Array (Nat × Nat))).run P w = .ok pl w ∧
      ∀ (i : Nat) (f : Field) (n : Nat), fs[i]? = some f → sizT P f.type = some n → pl[i]? = some (f.offset, n) := by
  have key : ∀ l : List Field, (∀ f ∈ l, ∃ n, sizT P f.type = some n) → ∃ pl : List (Nat × Nat), (l.mapM fun f => do pure (f.offset, ← sizeOf f.type) : Sem (List (Nat × Nat))).run P w = .ok pl w ∧
      ∀ (i : Nat) (f : Field) (n : Nat), l[i]? = some f → sizT P f.type = some n → pl[i]? = some (f.offset, n) := by
    intro l
    induction l with
    | nil => intro _; exact ⟨[], by simp, fun i f n hi => by simp at hi⟩
    | cons f l ih =>
      intro h
      obtain ⟨n, hn⟩ := h f (by simp)
      obtain ⟨pl, h1, h2⟩ := ih fun g hg => h g (List.mem_cons_of_mem _ hg)
      refine ⟨(f.offset, n) :: pl, ?_, fun i g m hi hm => ?_⟩
      · simp only [List.mapM_cons, Sem.run_bind, run_size hn, Result.andThen_ok, Sem.run_pure, h1]
      · cases i with
        | zero => simp at hi; subst hi; rw [hn] at hm; cases hm; simp
        | succ i => simpa using h2 i g m (by simpa using hi) hm
  obtain ⟨pl, h1, h2⟩ := key fs.toList h
  refine ⟨pl.toArray, ?_, fun i f n hi hn => by simpa using h2 i f n (by simpa using hi) hn⟩
  rw [Array.mapM_eq_mapM_toList, Sem.run_map, h1]
  rfl
theorem s_build {t : TypeId} {parts : Array (Nat × Operand)} {z : List D} {fs : Array Field} {l : List (Nat × Nat × Operand)} (ho : o.op = .build t parts) (hz : zeroT P t = some z) (hfs : fieldsT P t = some fs) (hall : ∀ f ∈ fs.toList, ∃ n, sizT P f.type = some n)
    (hl : compParts P fs parts.toList = some l) (hs : Slots K (mask K w ρ) ρ sl a.tmps) (h : c_build sl hp nid z l = some out) : Does P o a w (Res K w ρ hp nid out) := by
  have hu : P.underlying t = some (.struct fs) := by
    unfold fieldsT at hfs
    split at hfs
    · rename_i fs' h'; cases hfs; exact h'
    · cases hfs
  unfold c_build at h
  split at h
  · rename_i ps hps
    split at h
    · rename_i cs hcs
      obtain rfl := (Option.some.inj h).symm
      obtain ⟨i, zv, z1, z2, z3⟩ := zeroT_some hz
      obtain ⟨pl, m1, m2⟩ := mapM_places (w := w) hall
      obtain ⟨g1, g2⟩ := compParts_get _ _ hl
      obtain ⟨q1, q2⟩ := partsD_get hs _ _ hps
      obtain ⟨rs, f1, f2⟩ := fill_rep (K := K) (ρ := ρ) (M := mask K w ρ) (place := (pl[·]?)) (parts.toList.map fun p => (p.1, a.eval p.2)) ps zv.cells z cs (by simp [q1, g1]) (fun j i v off ds h1 h2 => by
        rw [List.getElem?_map] at h1
        cases hj : parts.toList[j]? with
        | none => rw [hj] at h1; cases h1
        | some p =>
          rw [hj] at h1
          simp at h1
          obtain ⟨rfl, rfl⟩ := h1
          obtain ⟨f, n, e1, e2, e3⟩ := g2 j p.1 p.2 hj
          obtain ⟨ds', r1, r2, r3⟩ := q2 j _ _ _ e3
          rw [h2] at r1
          simp at r1
          obtain ⟨rfl, rfl⟩ := r1
          exact ⟨by rw [r2]; exact m2 _ _ _ e1 e2, r3⟩) (cellsD_rep (ofV_rep K _ _ zv) z3) hcs
      refine quiet (v := .agg rs) ?_ (by simp only [Rep]; exact ⟨rs.toList, by simp, f2⟩)
      simp only [execOp, ho, Instr.build, Sem.run_bind, run_zero z1 z2, Result.andThen_ok, run_under hu, m1]
      have e : (parts.map fun (x : Nat × Operand) => (x.1, a.eval x.2)).toList = parts.toList.map fun p => (p.1, a.eval p.2) := by simp
      rw [e, f1]
      simp
    · cases h
  · cases h
end
end Go.Ev
