import Derived.Test.YtmekepomgofiaaaEvL
import Derived.Laws.StructEq
set_option linter.all false
namespace Go.Ev
section
variable {K : Cust} {P : Program} {o : Oper} {a : Act} {w w' : World} {ρ : List Own} {hp : List Blk} {sl : List D} {nid : Nat} {out : Out}

theorem s_copy {c : Call} {x y : Operand} {t e : TypeId} {k : Nat} (ho : o.op = .call c) (hc : c.callee = .builtin .copy) (hca : c.args.toList = [x, y]) (ht : c.argTypes[0]? = some t)
    (he : elemT P t = some e) (hsz : sizT P e = some k) (hk : OK K w ρ hp)
    (hs : Slots K (mask K w ρ) ρ sl a.tmps) (h : c_copy sl hp nid k x y = some out) : Does P o a w (Res K w ρ hp nid out) := by
  have hx := evO_rep hs x
  have hy := evO_rep hs y
  have hca' : c.args = #[x, y] := by apply Array.ext'; simpa using hca
  unfold c_copy at h
  split at h
  · rename_i id off n k' cap m B hd hB
    rw [hd] at hx
    split at h
    · rename_i cs hcs
      split at h
      · rename_i hc3
        obtain ⟨rfl, hle, hall⟩ := hc3
        obtain rfl := (Option.some.inj h).symm
        obtain ⟨b, N, ho1, hb⟩ := cellsAt_own hk hcs
        simp only [Rep, ho1] at hx
        obtain ⟨c', hx, _⟩ := hx
        obtain ⟨vb, ty, g1, g2, g3⟩ := hb
        have g4 := readsL_size g3
        obtain ⟨qx, cx, ey, hmcx, lB, hqx0, vx, lvx, rB, fB⟩ := contents_run (P := P) hk hy hB
        have hmn : Nat.min m n ≤ m := Nat.min_le_left _ _
        have hmn2 : Nat.min m n ≤ n := Nat.min_le_right _ _
        have hf := fB (Nat.min m n) hmn w rfl
        have hlen : (B.take (Nat.min m n * k')).length = Nat.min m n * k' := by
          have : Nat.min m n * k' ≤ m * k' := Nat.mul_le_mul_right _ hmn
          simp
          omega
        have hmul : Nat.min m n * k' ≤ n * k' := Nat.mul_le_mul_right _ hmn2
        have hvl : (vx.take (Nat.min m n * k')).length ≤ Nat.min m n * k' := by simp; omega
        have hal : (B.take (Nat.min m n * k')).all okCell = true := by
          rw [List.all_eq_true] at hall ⊢
          exact fun d hd => hall d (List.mem_of_mem_take hd)
        have hrep := repL_take (Nat.min m n * k') rB
        refine wrote_row (v := .int .i64 (Nat.min m n)) (xs := vx.take (Nat.min m n * k')) hk hcs ho1 g1 (by omega) (nx := .value (.int .i64 (Nat.min m n))) ?_ (.inl rfl) (.inl rfl) (fun M ρ' => by simp [Rep]) hrep
        rw [ey] at hf
        simp only [execOp, ho, resolve, hc, invoke, Go.builtin, hca', Sem.run_bind, Sem.run_pure, Result.andThen_ok, List.map_toArray, List.map_cons, List.map_nil, hx, ey]
        simp only [Builtin.copy_, ht, List.getElem?_toArray, List.getElem?_cons_zero, List.getElem?_cons_succ, Sem.run_bind, run_under (elemT_some he), Result.andThen_ok, lenOf_slice, run_size hsz, hf]
        rw [run_storeCells _ w vb 0 g1 g2.2 (plains hrep hal) (by omega)]
        simp [goInt]
      · cases h
    · cases h
  · cases h
theorem s_clear {c : Call} {x : Operand} {t e : TypeId} {k : Nat} {z : List D} (ho : o.op = .call c) (hc : c.callee = .builtin .clear) (hca : c.args.toList = [x]) (ht : c.argTypes[0]? = some t)
    (he : elemT P t = some e) (hsz : sizT P e = some k) (hz : zeroT P e = some z) (hk0 : 0 < k) (hzl : z.length = k) (hk : OK K w ρ hp)
    (hs : Slots K (mask K w ρ) ρ sl a.tmps) (h : c_clear sl hp nid k z x = some out) : Does P o a w (Res K w ρ hp nid out) := by
  have hx := evO_rep hs x
  have hca' : c.args = #[x] := by apply Array.ext'; simpa using hca
  unfold c_clear at h
  split at h
  · rename_i id off n k' cap hd
    rw [hd] at hx
    split at h
    · rename_i cs hcs
      split at h
      · rename_i hc3
        obtain ⟨rfl, hle, hall⟩ := hc3
        obtain rfl := (Option.some.inj h).symm
        obtain ⟨b, N, ho1, hb⟩ := cellsAt_own hk hcs
        simp only [Rep, ho1] at hx
        obtain ⟨c', hx, _⟩ := hx
        obtain ⟨vb, ty, g1, g2, g3⟩ := hb
        have g4 := readsL_size g3
        obtain ⟨i, zv, z1, z2, z3⟩ := zeroT_some hz
        have hzr := cellsD_rep (ofV_rep K (mask K w ρ) ρ zv) z3
        have hrep := rep_zero hzr n (.inl (by omega))
        have hzs : zv.cells.size = k' := by
          have := repL_length hzr
          simp at this
          omega
        have hzc : ((Array.range (n * z.length)).map (zv.cells[· % zv.cells.size]!)) = Builtin.zeroCells zv.cells n := by
          unfold Builtin.zeroCells
          rw [hzl, hzs]
        rw [hzc] at hrep
        have hpl : ∀ v ∈ (Builtin.zeroCells zv.cells n).toList, plain v = true := by
          refine plains hrep ?_
          have : ∀ n, (rep n z).all okCell = true := fun n => by
            induction n with
            | zero => rfl
            | succ n ih => simp only [rep, List.all_append, hall, ih, Bool.and_self]
          exact this n
        have hlen : (rep n z).length = n * k' := by rw [rep_length, hzl]
        refine wrote_row (v := .tuple #[]) (xs := (Builtin.zeroCells zv.cells n).toList) hk hcs ho1 g1 (by omega) (nx := .value (.tuple #[])) ?_ (.inl rfl) (.inr rfl) (fun M ρ' => by simp only [Rep]; exact ⟨[], rfl, by simp [RepL]⟩) hrep
        have hsl : (Builtin.zeroCells zv.cells n).toList.length = n * k' := by simp [zeroCells_size, hzs]
        simp only [execOp, ho, resolve, hc, invoke, Go.builtin, hca', Sem.run_bind, Sem.run_pure, Result.andThen_ok, List.map_toArray, List.map_cons, List.map_nil, hx]
        cases n with
        | zero =>
          have e0 : Builtin.zeroCells zv.cells 0 = #[] := by simp [Builtin.zeroCells]
          rw [e0]
          simp only [storeA]
          rw [rowed_self g1]
          simp [Builtin.clear_, ht, run_under (elemT_some he)]
        | succ n =>
          have r := run_storeCells (P := P) (o := off) (Builtin.zeroCells zv.cells (n + 1)).toList w vb 0 g1 g2.2 hpl (by omega)
          rw [Nat.add_zero] at r
          simp [Builtin.clear_, ht, run_under (elemT_some he), run_zero z1 z2, r]
      · cases h
    · cases h
  · cases h

theorem scalarK_agg {t : TypeId} {k : Nat} (h : scalarK P t = some k) : aggT P t = some false ∧ ((k = 0 ∧ ∃ i, P.underlying t = some (.int i)) ∨ (k = 1 ∧ P.underlying t = some .bool) ∨ (k = 2 ∧ P.underlying t = some .string)) := by
  unfold scalarK at h
  unfold aggT
  split at h
  · rename_i i hu; cases h; rw [hu]; exact ⟨rfl, .inl ⟨rfl, i, rfl⟩⟩
  · rename_i hu; cases h; rw [hu]; exact ⟨rfl, .inr (.inl ⟨rfl, rfl⟩)⟩
  · rename_i hu; cases h; rw [hu]; exact ⟨rfl, .inr (.inr ⟨rfl, rfl⟩)⟩
  · cases h
theorem eqCells_cons {k : Nat} {ks : List Nat} {x y : List D} {t : Bool} (h : eqCells (k :: ks) x y = some t) : ∃ u v x' y' t1 t2, x = .val u :: x' ∧ y = .val v :: y' ∧ kindOk k u = true ∧ kindOk k v = true ∧ binV false .eql u v = some (none, .bool t1) ∧ eqCells ks x' y' = some t2 ∧ t = (t1 && t2) := by
  unfold eqCells at h
  split at h
  · simp at *
  · rename_i k' ks' u x' v y' h0
    cases h0
    split at h
    · rename_i hk
      split at h
      · rename_i t1 hb
        split at h
        · rename_i t2 hr
          simp only [Bool.and_eq_true] at hk
          exact ⟨u, v, x', y', t1, t2, rfl, rfl, hk.1, hk.2, hb, hr, (Option.some.inj h).symm⟩
        · cases h
      · cases h
    · cases h
  · cases h
theorem eqCells_run {M : World} {d : Nat} {xs ys : Array Value} : ∀ (fs : List Field) (i : Nat) (ks : List Nat) (x y : List D) (t : Bool), kindsT P fs i = some ks → eqCells ks x y = some t →
    RepL K M ρ x (xs.toList.drop i) → RepL K M ρ y (ys.toList.drop i) → (Op.eqFields (d + 1) xs ys fs).run P w = .ok t w
  | [], i, ks, x, y, t, hf, he, hx, hy => by
    simp only [kindsT] at hf
    obtain rfl := Option.some.inj hf
    cases x <;> cases y <;> simp [eqCells] at he
    subst he
    simp [Op.eqFields]
  | f :: fs, i, ks, x, y, t, hf, he, hx, hy => by
    simp only [kindsT] at hf
    split at hf
    · rename_i k r hk hr
      split at hf
      · rename_i hc
        obtain rfl := Option.some.inj hf
        simp only [Bool.and_eq_true, bne_iff_ne, beq_iff_eq] at hc
        obtain ⟨u, v, x', y', t1, t2, rfl, rfl, hku, hkv, hb, hrest, rfl⟩ := eqCells_cons he
        clear he
        simp only [RepL] at hx hy
        obtain ⟨u', rx, ex, hu, hx⟩ := hx
        obtain ⟨v', ry, ey, hv, hy⟩ := hy
        simp only [Rep] at hu hv
        subst hu hv
        have gx : xs[i]? = some u' := by
          have := congrArg (·[0]?) ex
          simpa using this
        have gy : ys[i]? = some v' := by
          have := congrArg (·[0]?) ey
          simpa using this
        have dx : xs.toList.drop (i + 1) = rx := by rw [← List.drop_drop, ex]; rfl
        have dy : ys.toList.drop (i + 1) = ry := by rw [← List.drop_drop, ey]; rfl
        have ih := eqCells_run (d := d) fs (i + 1) r x' y' t2 hr hrest (by rw [dx]; exact hx) (by rw [dy]; exact hy)
        obtain ⟨hag, hkind⟩ := scalarK_agg hk
        have heq : (Op.equalIn (d + 1) f.type u' v').run P w = .ok t1 w := by
          rcases hkind with ⟨rfl, ik, hu⟩ | ⟨rfl, hu⟩ | ⟨rfl, hu⟩
          · cases u' <;> simp [kindOk] at hku
            cases v' <;> simp [kindOk] at hkv
            simp only [binV, int2V] at hb
            split at hb
            · rename_i hsk
              simp only [intV, intF, boolV, Option.some.injEq, Prod.mk.injEq, Value.bool.injEq, true_and] at hb
              have hsk' := hsk
              simp [sameK, isSh] at hsk'
              subst hsk'
              simp [Op.equalIn, run_under hu, hb]
            · cases hb
          · cases u' <;> simp [kindOk] at hku
            cases v' <;> simp [kindOk] at hkv
            simp only [binV, boV, boolV, Option.some.injEq, Prod.mk.injEq, Value.bool.injEq, true_and] at hb
            simp [Op.equalIn, run_under hu, hb]
          · cases u' <;> simp [kindOk] at hku
            cases v' <;> simp [kindOk] at hkv
            simp only [binV, strX, justV, strD, Option.some.injEq, Prod.mk.injEq, Value.bool.injEq, true_and] at hb
            rw [run_equalIn_string w d f.type _ _ hu, ← bytesOfS_eq, ← bytesOfS_eq, hb]
        simp only [Op.eqFields, hc.1, ne_eq, not_false_eq_true, if_true, hc.2, Sem.run_bind]
        have px : ∀ zs : Array Value, ∀ z, zs[i]? = some z → (part f.type zs i).run P w = .ok z w := fun zs z hz => by
          simp [part, run_isAgg' hag, hz]
        rw [px xs u' gx]
        simp only [Result.andThen_ok]
        rw [px ys v' gy]
        simp only [Result.andThen_ok, heq]
        cases t1
        · simp
        · simp [ih]
      · cases hf
    · cases hf
theorem s_eqAgg {op : BinOp} {t t2 : TypeId} {x y : Operand} {fs : Array Field} {ks : List Nat} (ho : o.op = .binOp op t x y t2) (hu : P.underlying t = some (.struct fs)) (hks : kindsT P fs.toList 0 = some ks) (hst : P.stoodInHeld t = false) (heg : P.eqGuardType P.depth t = false)
    (hs : Slots K (mask K w ρ) ρ sl a.tmps) (h : c_eqAgg sl hp nid op ks x y = some out) : Does P o a w (Res K w ρ hp nid out) := by
  have hx := evO_rep hs x
  have hy := evO_rep hs y
  unfold c_eqAgg at h
  split at h
  · rename_i dx dy hdx hdy
    rw [hdx] at hx
    rw [hdy] at hy
    simp only [Rep] at hx hy
    obtain ⟨vx, hx, rx⟩ := hx
    obtain ⟨vy, hy, ry⟩ := hy
    split at h
    · rename_i r hr
      have hfo : P.fieldsOf t = fs := by simp [Program.fieldsOf, hu]
      have heq : (Op.equalIn 10000 t (.agg vx.toArray) (.agg vy.toArray)).run P w = .ok r w := by
        rw [run_equalIn_struct w 9999 t _ _ (by rw [hfo]; exact hu) hst, hfo]
        exact eqCells_run (d := 9998) fs.toList 0 ks dx dy r hks hr (by simpa using rx) (by simpa using ry)
      have hg := run_eqGuard_agg (P := P) w op t x y vx.toArray vy.toArray heg
      split at h
      · obtain rfl := (Option.some.inj h).symm
        refine quiet (v := .bool r) ?_ (by simp [Rep])
        simp only [execOp, ho, hx, hy, Sem.run_bind, hg, Result.andThen_ok, run_eql_struct, heq, Sem.run_pure]
      · obtain rfl := (Option.some.inj h).symm
        refine quiet (v := .bool (!r)) ?_ (by simp [Rep])
        simp only [execOp, ho, hx, hy, Sem.run_bind, hg, Result.andThen_ok, run_neq_struct, heq, Sem.run_pure]
      · cases h
    · cases h
  · cases h
end
end Go.Ev
