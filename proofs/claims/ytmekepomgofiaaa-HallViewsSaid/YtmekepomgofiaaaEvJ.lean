import Derived.Test.YtmekepomgofiaaaEvI
set_option linter.all false
namespace Go.Ev
section
variable {K : Cust} {P : Program} {o : Oper} {a : Act} {w : World} {ρ : List Own} {hp : List Blk} {sl : List D} {nid : Nat} {out : Out}

theorem rep_length (z : List D) : ∀ n, (rep n z).length = n * z.length
  | 0 => by simp [rep]
  | n + 1 => by simp [rep, rep_length z n, Nat.add_mul, Nat.add_comm]
theorem rep_get {z : List D} (hz : 0 < z.length) : ∀ (n j : Nat), j < n * z.length → (rep n z)[j]? = z[j % z.length]?
  | 0, j, h => by simp at h
  | n + 1, j, h => by
    simp only [rep]
    by_cases hj : j < z.length
    · rw [List.getElem?_append_left hj, Nat.mod_eq_of_lt hj]
    · rw [List.getElem?_append_right (by omega), rep_get hz n _ (by rw [Nat.add_mul] at h; omega)]
      congr 1
      conv => rhs; rw [show j = (j - z.length) + z.length by omega]
      simp
theorem rep_zero {M : World} {z : List D} {zc : Array Value} (hz : RepL K M ρ z zc.toList) (n : Nat) (h0 : 0 < z.length ∨ n = 0) :
    RepL K M ρ (rep n z) ((Array.range (n * z.length)).map (zc[· % zc.size]!)).toList := by
  have e := repL_length hz
  have e2 : zc.size = z.length := by simpa using e.symm
  refine repL_of (by simp [rep_length]) fun j d hj => ?_
  have hjl : j < n * z.length := by
    have := (List.getElem?_eq_some_iff.1 hj).1
    rwa [rep_length] at this
  rcases h0 with h0 | rfl
  · rw [rep_get h0 n j hjl] at hj
    obtain ⟨v, g1, g2⟩ := repL_get hz hj
    refine ⟨v, ?_, g2⟩
    have hm : j % z.length < zc.size := by rw [e2]; exact Nat.mod_lt _ h0
    have g1' : zc[j % z.length]? = some v := by simpa using g1
    rw [Array.getElem?_eq_getElem hm] at g1'
    have g3 : zc[j % z.length]! = v := (getElem!_pos zc _ hm).trans (Option.some.inj g1')
    simp [hjl, e2, g3]
  · simp at hjl
theorem fillD_length : ∀ (ps : List (Nat × List D)) (cs r : List D), fillD cs ps = some r → r.length = cs.length
  | [], cs, r, h => by simp only [fillD] at h; rw [Option.some.inj h]
  | (off, ds) :: ps, cs, r, h => by
    simp only [fillD] at h
    split at h
    · rw [fillD_length ps _ r h]
      exact put_length cs ds off (by omega)
    · cases h
theorem elemT_some {t e : TypeId} (he : elemT P t = some e) : P.underlying t = some (.slice e) := by
  unfold elemT at he
  split at he
  · rename_i e' h'; cases he; exact h'
  · cases he
theorem s_bslice {t e : TypeId} {len k : Nat} {parts : Array (Nat × Operand)} {z : List D} (ho : o.op = .buildSlice t len parts) (he : elemT P t = some e) (hsz : sizT P e = some k) (hz : zeroT P e = some z) (hk0 : 0 < k) (hlen : len * k ≤ 16777216) (hzl : z.length = k)
    (hk : OK K w ρ hp) (hn : ρ[nid]? = some .fresh) (hs : Slots K (mask K w ρ) ρ sl a.tmps) (h : c_bslice sl hp nid k len z parts.toList = some out) : Does P o a w (Res K w ρ hp nid out) := by
  unfold c_bslice at h
  split at h
  · rename_i ps hps
    split at h
    · rename_i cs hcs
      obtain rfl := (Option.some.inj h).symm
      obtain ⟨i, zv, z1, z2, z3⟩ := zeroT_some hz
      have hzr := cellsD_rep (ofV_rep K (mask K w ρ) ρ zv) z3
      obtain ⟨q1, q2⟩ := partsS_get hs _ _ hps
      have hz0 : RepL K (mask K w ρ) ρ (rep len z) ((Array.range (len * k)).map ((if len * k = 0 then #[] else zv.cells)[· % (if len * k = 0 then #[] else zv.cells).size]!)).toList := by
        by_cases h0 : len * k = 0
        · have : len = 0 := by
            rcases Nat.mul_eq_zero.1 h0 with h | h
            · exact h
            · omega
          subst this
          simp [rep, RepL]
        · rw [if_neg h0, ← hzl]
          exact rep_zero hzr len (.inl (by omega))
      obtain ⟨rs, f1, f2⟩ := fill_rep (K := K) (ρ := ρ) (M := mask K w ρ) (place := fun i => some (i * k, k)) (parts.toList.map fun p => (p.1, a.eval p.2)) ps _ (rep len z) cs (by simp [q1]) (fun j i v off ds h1 h2 => by
        rw [List.getElem?_map] at h1
        cases hj : parts.toList[j]? with
        | none => rw [hj] at h1; cases h1
        | some p =>
          rw [hj] at h1
          simp at h1
          obtain ⟨rfl, rfl⟩ := h1
          obtain ⟨ds', r1, r2, r3⟩ := q2 j _ _ hj
          rw [h2] at r1
          simp at r1
          obtain ⟨rfl, rfl⟩ := r1
          exact ⟨by rw [r2], r3⟩) hz0 hcs
      have hcl : rs.size = len * k := by
        have e1 := repL_length f2
        have e2 := fillD_length _ _ _ hcs
        rw [rep_length, hzl] at e2
        simp at e1
        omega
      refine new_row (vs := rs) (ty := e) (v := .slice (some ⟨w.heap.size, 0, none⟩) len len) hk hn ?_ (fun M ρ' h => by simp only [Rep, h]; exact ⟨len, rfl, Nat.le_refl _, by omega, by omega⟩) f2
      have hlen' : ¬ (2 ^ 24 < len * k) := by omega
      have e : (parts.map fun (x : Nat × Operand) => (x.1, a.eval x.2)).toList = parts.toList.map fun p => (p.1, a.eval p.2) := by simp
      simp only [execOp, ho, Instr.buildSlice, Sem.run_bind, run_under (elemT_some he), Result.andThen_ok, run_size hsz, gt_iff_lt, hlen', if_false]
      by_cases h0 : len * k = 0
      · rw [if_pos h0] at f1
        simp only [h0, if_true, Sem.run_pure, Result.andThen_ok, Sem.run_bind]
        rw [h0] at f1
        rw [e, f1]
        simp [newRow, newObj, Sem.run]
      · rw [if_neg h0] at f1
        simp only [h0, if_false, Sem.run_bind, run_zero z1 z2, Sem.run_pure, Result.andThen_ok]
        rw [e, f1]
        simp [newRow, newObj, Sem.run]
    · cases h
  · cases h
theorem s_mkSlice {t e : TypeId} {i : TypeInfo} {z : List D} {x y : Operand} (ho : o.op = .makeSlice t x y) (he : elemT P t = some e) (hi : P.info? e = some i) (hz : zeroT P e = some z) (hk0 : 0 < i.size) (hzl : z.length = i.size)
    (hk : OK K w ρ hp) (hn : ρ[nid]? = some .fresh) (hs : Slots K (mask K w ρ) ρ sl a.tmps) (h : c_mkSlice sl hp nid i.size i.bytes z x y = some out) : Does P o a w (Res K w ρ hp nid out) := by
  have hx := evO_rep hs x
  have hy := evO_rep hs y
  unfold c_mkSlice at h
  split at h
  · rename_i kx l ky c hdx hdy
    rw [hdx] at hx
    rw [hdy] at hy
    simp only [Rep] at hx hy
    split at h
    · rename_i hc
      obtain ⟨h1, h2, h3, h4⟩ := hc
      obtain rfl := (Option.some.inj h).symm
      obtain ⟨i', zv, z1, z2, z3⟩ := zeroT_some hz
      have hzr := cellsD_rep (ofV_rep K (mask K w ρ) ρ zv) z3
      have wl : IntKind.i64.wrap l = l := IntWalk.i64_in l (by omega)
      have wc : IntKind.i64.wrap c = c := IntWalk.i64_in c (by omega)
      have hsz : sizT P e = some i.size := by simp [sizT, hi]
      have hcn : (c.toNat : Int) = c := Int.toNat_of_nonneg (by omega)
      have hb : (i.bytes : Int) * c ≤ 16777216 := by
        have : ((i.bytes * c.toNat : Nat) : Int) ≤ ((16777216 : Nat) : Int) := Int.ofNat_le.2 h4
        rw [Int.natCast_mul, hcn] at this
        exact this
      have hrep := rep_zero hzr c.toNat (.inl (by omega))
      rw [hzl] at hrep
      refine new_row (vs := (Array.range (c.toNat * i.size)).map ((if c.toNat * i.size = 0 then #[] else zv.cells)[· % (if c.toNat * i.size = 0 then #[] else zv.cells).size]!)) (ty := e) (v := .slice (some ⟨w.heap.size, 0, none⟩) l.toNat c.toNat) hk hn ?_
        (fun M ρ' h => by simp only [Rep, h]; exact ⟨c.toNat, rfl, by omega, by simp, by simp⟩) ?_
      · have t1 : (decide (c < 0) || decide ((i.bytes : Int) * c > 2 ^ 48) || decide (l < 0) || decide (l > c)) = false := by
          simp
          omega
        have t2 : ¬ (c < 0) := by omega
        have t3 : ¬ (l < 0) := by omega
        have t4 : ¬ (l > c) := by omega
        have t5 : ¬ ((i.bytes : Int) * c > 2 ^ 48) := by omega
        have t6 : ¬ (c.toNat * i.bytes > roomBytes) := by
          rw [Nat.mul_comm]
          have : roomBytes = 2 ^ 47 := rfl
          omega
        simp only [execOp, ho, Instr.makeSlice, Sem.run_bind, run_under (elemT_some he), Result.andThen_ok, asInt, hx, hy, asIntOf, Sem.run_pure, run_info hi, wl, wc]
        rw [decide_eq_false t2, decide_eq_false t3, decide_eq_false t4, decide_eq_false t5]
        simp only [Bool.or_false, Bool.false_eq_true, if_false, Sem.run_bind, askRoom, if_neg t6, Sem.run_pure, Result.andThen_ok, run_size hsz]
        by_cases h0 : c.toNat * i.size = 0
        · simp [h0, newRow, newObj, Sem.run]
        · simp [h0, run_zero z1 z2, newRow, newObj, Sem.run]
      · by_cases h0 : c.toNat * i.size = 0
        · have hc0 : c.toNat = 0 := by
            rcases Nat.mul_eq_zero.1 h0 with h | h
            · exact h
            · omega
          rw [hc0]
          simp [rep, RepL]
        · simp only [h0, if_false]
          exact hrep
    · cases h
  · cases h
end
end Go.Ev
