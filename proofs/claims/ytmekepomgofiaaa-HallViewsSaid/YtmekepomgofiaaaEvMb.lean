import Derived.Test.YtmekepomgofiaaaEvM
import Derived.ChangeKeysEq
import Derived.Laws.BytesString
import Derived.Lib.ConvBytes
import Derived.Laws.Externs
import Derived.KernelRfl
set_option linter.all false
namespace Go.Ev
section
variable {K : Cust} {P : Program} {o : Oper} {a : Act} {w w' : World} {ρ : List Own} {hp : List Blk} {sl : List D} {nid : Nat} {out : Out}

/-- a part of an aggregate -/
theorem part_rep {M : World} {t : TypeId} {n : Option Nat} {cs : List D} {vs : List Value} {off : Nat} {d : D} (hc : RepL K M ρ cs vs) (hn : shapeT P t = some n) (hd : ofCells n cs off = some d) :
    ∃ v, (part t vs.toArray off).run P w = .ok v w ∧ Rep K M ρ d v := by
  cases n with
  | none =>
    simp only [ofCells, getG_eq] at hd
    obtain ⟨v, g1, g2⟩ := repL_get hc hd
    exact ⟨v, by simp [part, run_isAgg' (shape_one hn).1, g1], g2⟩
  | some n =>
    simp only [ofCells, lenG_eq, takeG_eq, dropG_eq] at hd
    split at hd
    · obtain rfl := Option.some.inj hd
      refine ⟨.agg (vs.toArray.extract off (off + n)), by simp [part, run_isAgg' (shape_many hn).1, run_size (shape_many hn).2], ?_⟩
      simp only [Rep]
      refine ⟨(vs.drop off).take n, ?_, repL_take n (repL_drop _ hc)⟩
      rw [← drop_take_extract]
    · cases hd
theorem s_aidx {t e : TypeId} {x i : Operand} {len k : Nat} {s : Option Nat} (ho : o.op = .index t x i) (hu : P.underlying t = some (.array len e)) (hsh : shapeT P e = some s) (hsz : sizT P e = some k)
    (hs : Slots K (mask K w ρ) ρ sl a.tmps) (h : c_aidx sl hp nid s len k x i = some out) : Does P o a w (Res K w ρ hp nid out) := by
  have hx := evO_rep hs x
  have hi := evO_rep hs i
  unfold c_aidx at h
  split at h
  · rename_i cs kk n hd1 hd2
    rw [hd1] at hx
    rw [hd2] at hi
    simp only [Rep] at hx hi
    obtain ⟨vs, hx, hc⟩ := hx
    split at h
    · rename_i hb
      split at h
      · rename_i d hd
        obtain rfl := (Option.some.inj h).symm
        obtain ⟨v, g1, g2⟩ := part_rep (P := P) (w := w) hc hsh hd
        exact quiet (v := v) (by simp [execOp, ho, Instr.index, run_under hu, hx, hi, asIntOf, hb.1, hb.2, run_size hsz, g1]) g2
      · cases h
    · cases h
  · cases h
theorem s_sidx {t : TypeId} {x i : Operand} (ho : o.op = .index t x i) (hu : P.underlying t = some .string)
    (hs : Slots K (mask K w ρ) ρ sl a.tmps) (h : c_sidx sl hp nid x i = some out) : Does P o a w (Res K w ρ hp nid out) := by
  have hx := evO_rep hs x
  have hi := evO_rep hs i
  unfold c_sidx at h
  split at h
  · rename_i s kk n hd1 hd2
    rw [hd1] at hx
    rw [hd2] at hi
    simp only [Rep] at hx hi
    split at h
    · rename_i h0
      rw [getG_eq] at h
      split at h
      · rename_i b hb
        obtain rfl := (Option.some.inj h).symm
        have hlt : n.toNat < s.size := by
          have := (List.getElem?_eq_some_iff.1 hb).1
          rwa [bytesOfS_length] at this
        have hg : s[n.toNat]? = some b := by
          rw [ByteArray.getElem?_lt' s _ hlt]
          have : (bytesOfS s)[n.toNat]? = s.data[n.toNat]? := by simp [bytesOfS]
          rw [this] at hb
          rw [Array.getElem?_eq_getElem hlt] at hb
          exact hb
        exact quiet (v := .int .u8 b.toNat) (by simp [execOp, ho, Instr.index, run_under hu, hx, hi, asIntOf, h0, hg]) (by simp [byteV_eq, Rep])
      · cases h
    · cases h
  · cases h
theorem s_sslice {t : TypeId} {x : Operand} {lo hi : Option Operand} (ho : o.op = .slice t x lo hi none) (hu : P.underlying t = some .string)
    (hs : Slots K (mask K w ρ) ρ sl a.tmps) (h : c_sslice sl hp nid x lo hi = some out) : Does P o a w (Res K w ρ hp nid out) := by
  have hx := evO_rep hs x
  unfold c_sslice at h
  split at h
  · rename_i s hd
    rw [hd] at hx
    simp only [Rep] at hx
    split at h
    · rename_i l hh h1 h2
      split at h
      · rename_i hc
        obtain rfl := (Option.some.inj h).symm
        rw [bytesOfS_length] at h2 hc
        have r2 := boundN_run (P := P) (y := s.size) (code := .sliceAlen) hs h2 hc.2
        have r1 := boundN_run (P := P) (y := hh) (code := .sliceB) hs h1 hc.1
        refine quiet (v := .string (s.extract l hh)) ?_ (by simp [subB_eq, Rep])
        simp only [execOp, ho, Instr.sliceAt, run_under hu, Sem.run_bind, Result.andThen_ok, Instr.slice, hx, Instr.sliceBounds, Option.map_none, Sem.run_pure, Option.isSome_none, Bool.false_eq_true, if_false]
        rcases r2 with ⟨v2, rfl, r2⟩ | ⟨rfl, rfl⟩ <;> rcases r1 with ⟨v1, rfl, r1⟩ | ⟨rfl, rfl⟩ <;> simp [*]
      · cases h
    · cases h
  · cases h
theorem s_buildA {t e : TypeId} {parts : Array (Nat × Operand)} {z : List D} {n k : Nat} (ho : o.op = .build t parts) (hu : P.underlying t = some (.array n e)) (hz : zeroT P t = some z) (hk : sizT P e = some k)
    (hs : Slots K (mask K w ρ) ρ sl a.tmps) (h : c_build sl hp nid z (parts.toList.map fun p => (p.1 * k, k, p.2)) = some out) : Does P o a w (Res K w ρ hp nid out) := by
  unfold c_build at h
  split at h
  · rename_i ps hps
    split at h
    · rename_i cs hcs
      obtain rfl := (Option.some.inj h).symm
      obtain ⟨i, zv, z1, z2, z3⟩ := zeroT_some hz
      obtain ⟨q1, q2⟩ := partsD_get hs _ _ hps
      obtain ⟨rs, f1, f2⟩ := fill_rep (K := K) (ρ := ρ) (M := mask K w ρ) (place := fun i => some (i * k, k)) (parts.toList.map fun p => (p.1, a.eval p.2)) ps zv.cells z cs (by simp [q1]) (fun j i v off ds h1 h2 => by
        rw [List.getElem?_map] at h1
        cases hj : parts.toList[j]? with
        | none => rw [hj] at h1; cases h1
        | some p =>
          rw [hj] at h1
          simp at h1
          obtain ⟨rfl, rfl⟩ := h1
          obtain ⟨ds', r1, r2, r3⟩ := q2 j (p.1 * k) k p.2 (by rw [List.getElem?_map, hj]; rfl)
          rw [h2] at r1
          simp at r1
          obtain ⟨rfl, rfl⟩ := r1
          exact ⟨by rw [r2], r3⟩) (cellsD_rep (ofV_rep K _ _ zv) z3) hcs
      refine quiet (v := .agg rs) ?_ (by simp only [Rep]; exact ⟨rs.toList, by simp, f2⟩)
      simp only [execOp, ho, Instr.build, Sem.run_bind, run_zero z1 z2, Result.andThen_ok, run_under hu, run_size hk]
      have e : (parts.map fun (x : Nat × Operand) => (x.1, a.eval x.2)).toList = parts.toList.map fun p => (p.1, a.eval p.2) := by simp
      rw [e, f1]
      simp
    · cases h
  · cases h
/-- arrays of scalars are compared -/
theorem eqItems_run {M : World} {d : Nat} {e : TypeId} {k : Nat} {xs ys : Array Value} (hk : scalarK P e = some k) : ∀ (n i : Nat) (x y : List D) (t : Bool), eqCells (List.replicate n k) x y = some t →
    RepL K M ρ x (xs.toList.drop i) → RepL K M ρ y (ys.toList.drop i) → (Op.eqItems (d + 1) e 1 xs ys (List.range' i n)).run P w = .ok t w
  | 0, i, x, y, t, he, hx, hy => by
    cases x <;> cases y <;> simp [eqCells] at he
    subst he
    simp [Op.eqItems]
  | n + 1, i, x, y, t, he, hx, hy => by
    obtain ⟨u, v, x', y', t1, t2, rfl, rfl, hku, hkv, hb, hrest, rfl⟩ := eqCells_cons he
    clear he
    simp only [RepL] at hx hy
    obtain ⟨u', rx, ex, hu, hx⟩ := hx
    obtain ⟨v', ry, ey, hv, hy⟩ := hy
    simp only [Rep] at hu hv
    subst hu hv
    have gx : xs[i]? = some u' := by
      have := congrArg (·[0]?) ex
      simpa using this
    have gy : ys[i]? = some v' := by
      have := congrArg (·[0]?) ey
      simpa using this
    have dx : xs.toList.drop (i + 1) = rx := by rw [← List.drop_drop, ex]; rfl
    have dy : ys.toList.drop (i + 1) = ry := by rw [← List.drop_drop, ey]; rfl
    have ih := eqItems_run (d := d) hk n (i + 1) x' y' t2 hrest (by rw [dx]; exact hx) (by rw [dy]; exact hy)
    obtain ⟨hag, hkind⟩ := scalarK_agg hk
    have heq : (Op.equalIn (d + 1) e u' v').run P w = .ok t1 w := by
      rcases hkind with ⟨rfl, ik, hu⟩ | ⟨rfl, hu⟩ | ⟨rfl, hu⟩
      · cases u' <;> simp [kindOk] at hku
        cases v' <;> simp [kindOk] at hkv
        simp only [binV, int2V] at hb
        split at hb
        · rename_i hsk
          simp only [intV, intF, boolV, Option.some.injEq, Prod.mk.injEq, Value.bool.injEq, true_and] at hb
          have hsk' := hsk
          simp [sameK, isSh] at hsk'
          subst hsk'
          simp [Op.equalIn, run_under hu, hb]
        · cases hb
      · cases u' <;> simp [kindOk] at hku
        cases v' <;> simp [kindOk] at hkv
        simp only [binV, boV, boolV, Option.some.injEq, Prod.mk.injEq, Value.bool.injEq, true_and] at hb
        simp [Op.equalIn, run_under hu, hb]
      · cases u' <;> simp [kindOk] at hku
        cases v' <;> simp [kindOk] at hkv
        simp only [binV, strX, justV, strD, Option.some.injEq, Prod.mk.injEq, Value.bool.injEq, true_and] at hb
        rw [run_equalIn_string w d e _ _ hu, ← bytesOfS_eq, ← bytesOfS_eq, hb]
    have px : ∀ zs : Array Value, ∀ z, zs[i]? = some z → (part e zs (i * 1)).run P w = .ok z w := fun zs z hz => by
      simp [part, run_isAgg' hag, hz]
    simp only [List.range'_succ, Op.eqItems, Sem.run_bind]
    rw [px xs u' gx]
    simp only [Result.andThen_ok]
    rw [px ys v' gy]
    simp only [Result.andThen_ok, heq]
    cases t1
    · simp
    · simp [ih]
theorem s_eqArr {op : BinOp} {t t2 e : TypeId} {x y : Operand} {n k : Nat} {i : TypeInfo} (ho : o.op = .binOp op t x y t2) (hu : P.underlying t = some (.array n e)) (hk : scalarK P e = some k) (hi : P.info? e = some i) (hi1 : i.size = 1) (heg : P.eqGuardType P.depth t = false)
    (hs : Slots K (mask K w ρ) ρ sl a.tmps) (h : c_eqAgg sl hp nid op (List.replicate n k) x y = some out) : Does P o a w (Res K w ρ hp nid out) := by
  have hx := evO_rep hs x
  have hy := evO_rep hs y
  unfold c_eqAgg at h
  split at h
  · rename_i dx dy hdx hdy
    rw [hdx] at hx
    rw [hdy] at hy
    simp only [Rep] at hx hy
    obtain ⟨vx, hx, rx⟩ := hx
    obtain ⟨vy, hy, ry⟩ := hy
    split at h
    · rename_i r hr
      have hco : P.cellsOf e = 1 := by simp [Program.cellsOf, hi, hi1]
      have heq : (Op.equalIn 10000 t (.agg vx.toArray) (.agg vy.toArray)).run P w = .ok r w := by
        rw [run_equalIn_array w 9999 _ _ hu hi, hco, List.range_eq_range']
        exact eqItems_run (d := 9998) hk n 0 dx dy r hr (by simpa using rx) (by simpa using ry)
      have hg := run_eqGuard_agg (P := P) w op t x y vx.toArray vy.toArray heg
      split at h
      · obtain rfl := (Option.some.inj h).symm
        refine quiet (v := .bool r) ?_ (by simp [Rep])
        simp only [execOp, ho, hx, hy, Sem.run_bind, hg, Result.andThen_ok, run_eql_struct, heq, Sem.run_pure]
      · obtain rfl := (Option.some.inj h).symm
        refine quiet (v := .bool (!r)) ?_ (by simp [Rep])
        simp only [execOp, ho, hx, hy, Sem.run_bind, hg, Result.andThen_ok, run_neq_struct, heq, Sem.run_pure]
      · cases h
    · cases h
  · cases h
/-- the world has grown, and nothing of it is one's own -/
theorem Eff.foreign (hsz : w.heap.size ≤ w'.heap.size) (hkeep : ∀ b : Nat, b < w.heap.size → w'.heap[b]? = w.heap[b]?) (he : Env w w') : Eff K w ρ hp nid w' ρ [] [] := by
  have hm : Sub (mask K w ρ) (mask K w' ρ) := fun b cs ty fr hb => by
    rw [mask_some] at *
    exact ⟨hb.1, by rw [hkeep b (lt_of_cells hb.2)]; exact hb.2⟩
  refine ⟨hsz, fun b hb _ => hkeep b hb, fun b hb => .inl hb, rfl, OwnLe.refl ρ, fun hp2 _ hk2 => ?_, fun i _ _ => ⟨fun x hx => (by cases hx), rfl⟩, fun i h _ => h, he⟩
  show OK K w' ρ (hp2 ++ [])
  rw [List.append_nil]
  exact ⟨hk2.len, fun i b n hi => Nat.lt_of_lt_of_le (hk2.lt i b n hi) hsz, hk2.inj, fun i x hx => (hk2.blk i x hx).mono hm (OwnLe.refl ρ) (fun b n ho => hkeep b (hk2.lt i b n (own_live ho))), fun b hb => Nat.lt_of_lt_of_le (hk2.hid b hb) hsz, hk2.apart⟩
theorem isU8_some {e : TypeId} (h : isU8 P e = true) : P.underlying e = some (.int .u8) := by
  unfold isU8 at h
  split at h
  · assumption
  · cases h
theorem bytesD_get {s : ByteArray} {i : Nat} {d : D} (h : (bytesD s)[i]? = some d) : i < s.size ∧ d = .val (.int .u8 (s.data.toList.getD i 0).toNat) := by
  unfold bytesD at h
  rw [List.getElem?_map] at h
  cases hb : (bytesOfS s)[i]? with
  | none => rw [hb] at h; cases h
  | some b =>
    rw [hb] at h
    simp only [Option.map_some, Option.some.injEq] at h
    have hl := (List.getElem?_eq_some_iff.1 hb).1
    refine ⟨hl, ?_⟩
    rw [← h, byteV_eq, List.getD_eq_getElem?_getD]
    unfold bytesOfS at hb
    rw [hb]
    rfl
theorem s_s2b {s d e : TypeId} {x : Operand} (ho : o.op = .convert s d x) (h1 : P.underlying s = some .string) (h2 : P.underlying d = some (.slice e)) (h3 : isU8 P e = true) (hk : OK K w ρ hp)
    (hs : Slots K (mask K w ρ) ρ sl a.tmps) (h : c_s2b sl hp nid x = some out) : Does P o a w (Res K w ρ hp nid out) := by
  have hx := evO_rep hs x
  have he := isU8_some h3
  unfold c_s2b at h
  split at h
  · rename_i u hu
    rw [hu] at hx
    simp only [Rep] at hx
    have run : (execOp a.eval o).run P w = .ok (.value (.slice (some ⟨w.heap.size, 0, none⟩) u.size (grownCap w u.size 0 e))) (Lib.bytesWorld w e u) := by
      simp [execOp, ho, hx, Lib.run_convert_string_bytes w s d e u h1 h2 he]
    have hE : Eff K w ρ hp nid (Lib.bytesWorld w e u) ρ [] [] :=
      Eff.foreign (by rw [Lib.bytesWorld_size]; omega) (fun b hb => Lib.bytesWorld_at_old w e u b hb) ⟨rfl, rfl, rfl⟩
    have hcap : u.size ≤ grownCap w u.size 0 e := by
      simp [grownCap, Question.cut]
    split at h
    · rename_i hnil
      obtain rfl := (Option.some.inj h).symm
      refine does_value run ⟨ρ, ?_, hE⟩
      simp only [Rep]
      have h0 : u.size = 0 := by rw [← bytesD_length, hnil]; rfl
      exact ⟨_, _, _, by rw [h0], by simp⟩
    · rename_i d l hl
      rw [forceL_eq] at h
      obtain rfl := (Option.some.inj h).symm
      refine does_value run ⟨ρ, ?_, hE⟩
      simp only [Rep]
      have hlen : l.length + 1 = u.size := by rw [← bytesD_length, hl]; rfl
      refine .inr ⟨w.heap.size, 0, _, by rw [hlen], by omega, fun i hi => ?_⟩
      have hget : ∃ d', (bytesD u)[i]? = some d' := ⟨_, List.getElem?_eq_getElem (by rw [bytesD_length]; omega)⟩
      obtain ⟨d', hd'⟩ := hget
      obtain ⟨hlt, rfl⟩ := bytesD_get hd'
      rw [hl] at hd'
      unfold byteAt
      rw [getG_eq, hd']
      simp only [RepC, and_true]
      refine ⟨.int .u8 (u.data.toList.getD i 0).toNat, ?_, by simp [Rep]⟩
      have hc := Lib.bytesWorld_cell w e u i hlt
      have hnl : ¬ isLive K ρ w.heap.size := by
        rintro (hh | ⟨j, m, hj⟩)
        · exact Nat.lt_irrefl _ (hk.hid _ hh)
        · exact Nat.lt_irrefl _ (hk.lt _ _ _ hj)
      have hm : (mask K (Lib.bytesWorld w e u) ρ).heap[w.heap.size]? = (Lib.bytesWorld w e u).heap[w.heap.size]? := by
        rw [Lib.bytesWorld_at_new]
        exact mask_some.2 ⟨hnl, Lib.bytesWorld_at_new w e u⟩
      unfold World.cell? at hc ⊢
      rw [show 0 + i * 1 = i by omega]
      simp only at hc ⊢
      rw [hm]
      exact hc
  · cases h
theorem bytesB_map : ∀ {cs : List D} {l : List UInt8}, bytesB cs = some l → ∃ ns : List Int, cs = ns.map (fun n => D.val (.int .u8 n)) ∧ l = ns.map fun n => UInt8.ofNat n.toNat
  | [], l, h => by simp only [bytesB] at h; cases h; exact ⟨[], rfl, rfl⟩
  | d :: cs, l, h => by
    unfold bytesB at h
    split at h
    · simp at *
    · rename_i n l' heq
      cases heq
      split at h
      · rename_i r hr
        cases h
        obtain ⟨ns, rfl, rfl⟩ := bytesB_map hr
        exact ⟨n :: ns, rfl, rfl⟩
      · cases h
    · cases h
theorem repL_vals {M : World} : ∀ {ns : List Int} {vs : List Value}, RepL K M ρ (ns.map (fun n => D.val (.int .u8 n))) vs → vs = ns.map (Value.int .u8)
  | [], vs, h => by simpa [RepL] using h
  | n :: ns, vs, h => by
    simp only [List.map_cons, RepL] at h
    obtain ⟨x, r, rfl, hx, h⟩ := h
    simp only [Rep] at hx
    rw [hx, repL_vals h]
    rfl
theorem push_bytes (ns : List Int) : ∀ (s : ByteArray), ns.foldl (fun r n => r.push (UInt8.ofNat n.toNat)) s = ⟨⟨s.data.toList ++ ns.map fun n => UInt8.ofNat n.toNat⟩⟩ := by
  induction ns with
  | nil => intro s; cases s; simp
  | cons n ns ih =>
    intro s
    rw [List.foldl_cons, ih]
    simp [ByteArray.push]
theorem s_b2s {s d e : TypeId} {x : Operand} (ho : o.op = .convert s d x) (h1 : P.underlying s = some (.slice e)) (h2 : P.underlying d = some .string) (h3 : isU8 P e = true) (hk : OK K w ρ hp)
    (hs : Slots K (mask K w ρ) ρ sl a.tmps) (h : c_b2s sl hp nid x = some out) : Does P o a w (Res K w ρ hp nid out) := by
  have hx := evO_rep hs x
  have he := isU8_some h3
  unfold c_b2s at h
  split at h
  · rename_i n cs hcs
    split at h
    · rename_i l hl
      obtain rfl := (Option.some.inj h).symm
      obtain ⟨q, c, ex, hnc, lA, hq0, vs, lvs, rA, fA⟩ := contents_run (P := P) hk hx hcs
      obtain ⟨ns, rfl, rfl⟩ := bytesB_map hl
      obtain rfl := repL_vals rA
      have hf := fA n (Nat.le_refl _) w rfl
      rw [List.take_of_length_le (by omega)] at hf
      refine quiet (v := .string ⟨⟨ns.map fun n => UInt8.ofNat n.toNat⟩⟩) ?_ (by simp [Rep])
      rw [ex] at hf
      simp only [execOp, ho, ex, Sem.run_bind]
      rw [run_convert_bytes_string w s d e q n c h1 he h2]
      cases q with
      | none =>
        have h0 := hq0 rfl
        subst h0
        have : ns = [] := by
          simp at lA
          exact lA
        subst this
        simp [Conv.bytesToString, Sem.run_pure]
        rfl
      | some q =>
        simp only [Builtin.firstCells, Nat.mul_one] at hf
        rw [run_bytesToString w q n c ns hf, push_bytes]
        simp
    · cases h
  · cases h
theorem s_mkI {t : TypeId} {x : Operand} {d : TypeDesc} (ho : o.op = .makeInterface t x) (hu : P.underlying t = some d) (hd : ∀ ms, d ≠ .interface ms)
    (hs : Slots K (mask K w ρ) ρ sl a.tmps) (h : c_mkI sl hp nid t x = some out) : Does P o a w (Res K w ρ hp nid out) := by
  have hx := evO_rep hs x
  obtain rfl := (Option.some.inj h).symm
  refine quiet (v := .iface t (a.eval x)) ?_ (by simp only [Rep]; exact ⟨_, rfl, hx⟩)
  simp only [execOp, ho, Instr.makeInterface, Sem.run_bind, run_under hu, Result.andThen_ok]
  cases d with
  | interface ms => exact absurd rfl (hd ms)
  | _ => simp
theorem ixb_find {fn : Func} (h : fn.name = "internal/bytealg.IndexByteString") : Extern.find fn = some Extern.BytealgIndexByte.indexByte := by
  unfold Extern.find
  rw [h]
  kernel_rfl
theorem find_congr {α : Type} {p q : α → Bool} : ∀ {l : List α}, (∀ i ∈ l, p i = q i) → l.find? p = l.find? q
  | [], _ => rfl
  | x :: l, h => by
    rw [List.find?_cons, List.find?_cons, h x (List.mem_cons_self ..), find_congr fun i hi => h i (List.mem_cons_of_mem _ hi)]
theorem s_ixb {c : Call} {f : FuncId} {x y : Operand} (ho : o.op = .call c) (hc : c.callee = .value (.func f)) (hca : c.args.toList = [x, y]) (hf : isIxb P f = true)
    (hs : Slots K (mask K w ρ) ρ sl a.tmps) (h : c_ixb sl hp nid x y = some out) : Does P o a w (Res K w ρ hp nid out) := by
  have hx := evO_rep hs x
  have hy := evO_rep hs y
  have hca' : c.args = #[x, y] := by apply Array.ext'; simpa using hca
  unfold isIxb at hf
  split at hf
  · rename_i fn hfn
    simp only [Bool.and_eq_true, beq_iff_eq, Bool.not_eq_true', Option.isNone_iff_eq_none] at hf
    obtain ⟨⟨⟨hb, hname⟩, hng⟩, hnext⟩ := hf
    unfold c_ixb at h
    split at h
    · rename_i s n hd1 hd2
      rw [hd1] at hx
      rw [hd2] at hy
      simp only [Rep] at hx hy
      have run : (execOp a.eval o).run P w = .ok (.value (.int .i64 (firstIdx s n.toNat.toUInt8))) w := by
        have h1 := run_callFunc_extern (P := P) hfn (by simpa using hng) (by simp [hb]) hnext (ixb_find hname) #[.string s, .int .u8 n] w
        rw [run_indexByte_string] at h1
        have e : (c.args.map a.eval) = #[.string s, .int .u8 n] := by rw [hca']; simp [hx, hy]
        simp [execOp, ho, resolve, hc, Act.eval, Deferred.ofValue, invoke]
        rw [e, h1]
        rfl
      have hfi : firstIdx s n.toNat.toUInt8 = match findB s n with | some i => (i : Int) | none => -1 := by
        unfold firstIdx findB
        have : (List.range s.size).find? (fun i => s[i]! == n.toNat.toUInt8) = (List.range (bytesOfS s).length).find? (fun i => (bytesOfS s).getD i 0 == UInt8.ofNat n.toNat) := by
          rw [bytesOfS_length]
          refine find_congr fun i hi => ?_
          have hi' : i < s.size := List.mem_range.1 hi
          have : s[i]! = (bytesOfS s).getD i 0 := by
            rw [getElem!_pos s i hi', List.getD_eq_getElem?_getD]
            have h2 : i < s.data.size := hi'
            have h3 : (bytesOfS s)[i]? = some s.data[i] := by simp [bytesOfS, h2]
            rw [h3]
            rfl
          rw [this]
        rw [this]
        generalize List.find? _ _ = r
        cases r <;> rfl
      rw [hfi] at run
      split at h
      · rename_i i hi
        obtain rfl := (Option.some.inj h).symm
        rw [hi] at run
        exact quiet run (by simp [Rep])
      · rename_i hi
        obtain rfl := (Option.some.inj h).symm
        rw [hi] at run
        exact quiet run (by simp [Rep])
    · cases h
  · cases hf
end
end Go.Ev
