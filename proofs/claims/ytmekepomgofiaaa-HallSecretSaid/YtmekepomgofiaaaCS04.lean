import Derived.Test.YtmekepomgofiaaaCS03
import Derived.Laws.StructEq
import Derived.ChangeKeysEq
import Derived.Laws.BytesString
import Derived.Lib.ConvBytes
import Derived.Laws.Externs
import Derived.KernelRfl
set_option linter.all false
section
namespace Go.Ev
section
variable {K : Cust} {P : Program} {o : Oper} {a : Act} {w w' : World} {ρ : List Own} {hp : List Blk} {sl : List D} {nid : Nat} {out : Out}

theorem reads_append {M : World} {x y : List D} {b q : Nat} (h1 : Reads K w M ρ x b q) (h2 : Reads K w M ρ y b (q + x.length)) : Reads K w M ρ (x ++ y) b q := by
  intro j d hj
  by_cases hl : j < x.length
  · rw [List.getElem?_append_left hl] at hj
    exact h1 j d hj
  · rw [List.getElem?_append_right (by omega)] at hj
    have := h2 _ d hj
    rw [show q + x.length + (j - x.length) = q + j by omega] at this
    exact this
theorem reads_flat {M : World} {b q k : Nat} {f : Nat → List D} : ∀ n : Nat, (∀ i, i < n → (f i).length = k) → (∀ i, i < n → Reads K w M ρ (f i) b (q + i * k)) →
    Reads K w M ρ ((List.range n).flatMap f) b q ∧ ((List.range n).flatMap f).length = n * k
  | 0, _, _ => ⟨fun j d hj => by simp at hj, by simp⟩
  | n + 1, h1, h2 => by
    obtain ⟨g1, g2⟩ := reads_flat n (fun i hi => h1 i (by omega)) (fun i hi => h2 i (by omega))
    rw [List.range_succ, List.flatMap_append]
    have e : [n].flatMap f = f n := by simp
    rw [e]
    refine ⟨reads_append g1 (by rw [g2]; exact h2 n (by omega)), ?_⟩
    rw [List.length_append, g2, h1 n (by omega), Nat.add_mul, Nat.one_mul]
theorem reads_heap {M : World} {cs : List D} {b q : Nat} {w2 : World} (hw : w2.heap = w.heap) (h : Reads K w M ρ cs b q) : Reads K w2 M ρ cs b q := fun j d hj => by
  obtain ⟨x, h1, h2⟩ := h j d hj
  exact ⟨x, by unfold World.cell? at *; rw [hw]; exact h1, h2⟩
/-- the first elements of a slice -/
theorem contents_run {d : D} {v : Value} {k n : Nat} {cs : List D} (hk : OK K w ρ hp) (hd : Rep K (mask K w ρ) ρ d v) (hc : contents hp k d = some (n, cs)) :
    ∃ q c, v = .slice q n c ∧ n ≤ c ∧ cs.length = n * k ∧ (q = none → n = 0) ∧ ∃ vs : List Value, vs.length = n * k ∧ RepL K (mask K w ρ) ρ cs vs ∧
      ∀ m, m ≤ n → ∀ w2 : World, w2.heap = w.heap → (Builtin.firstCells k m v).run P w2 = .ok (vs.take (m * k)).toArray w2 := by
  have main : ∀ b q c, v = .slice (some ⟨b, q, none⟩) n c → n ≤ c → Reads K w (mask K w ρ) ρ cs b q → cs.length = n * k → ∃ q c, v = .slice q n c ∧ n ≤ c ∧ cs.length = n * k ∧ (q = none → n = 0) ∧ ∃ vs : List Value, vs.length = n * k ∧ RepL K (mask K w ρ) ρ cs vs ∧
      ∀ m, m ≤ n → ∀ w2 : World, w2.heap = w.heap → (Builtin.firstCells k m v).run P w2 = .ok (vs.take (m * k)).toArray w2 := by
    intro b q c hv hnc hr hl
    obtain ⟨vs, g1, g2, g3⟩ := reads_vals hr 0 (n * k) (by omega)
    refine ⟨_, c, hv, hnc, hl, by simp, vs, g1, ?_, fun m hm w2 hw2 => ?_⟩
    · rw [List.drop_zero, List.take_of_length_le (by omega)] at g3; exact g3
    · subst hv
      simp only [Builtin.firstCells]
      have hmk : m * k ≤ n * k := Nat.mul_le_mul_right _ hm
      have e : (vs.take (m * k)).length = m * k := by simp; omega
      have := run_loadCells (P := P) (w := w2) (b := b) (o := q) (vs.take (m * k)) (fun j u hj => by
        rw [List.getElem?_take] at hj
        split at hj
        · have := g2 j u hj
          rw [Nat.add_zero] at this
          unfold World.cell? at *
          rw [hw2]
          exact this
        · cases hj)
      rw [e] at this
      exact this
  unfold contents at hc
  split at hc
  · simp only [Rep] at hd
    obtain ⟨rfl, rfl⟩ := some_pair hc
    subst hd
    exact ⟨_, _, rfl, Nat.zero_le _, by simp, fun _ => rfl, [], by simp, by simp [RepL], fun m hm w2 _ => by simp [Builtin.firstCells]⟩
  · rename_i id off len k' cap
    split at hc
    · rename_i hkk
      subst hkk
      split at hc
      · rename_i cs' hcs
        split at hc
        · rename_i hle
          obtain ⟨rfl, rfl⟩ := some_pair hc
          obtain ⟨b, n', ho1, hb⟩ := cellsAt_own hk hcs
          simp only [Rep, ho1] at hd
          obtain ⟨c, hd, h1, _⟩ := hd
          have hr := own_reads hb
          refine main b off c hd h1 (fun j d hj => ?_) (by simp; omega)
          rw [List.getElem?_take] at hj
          split at hj
          · rw [List.getElem?_drop] at hj
            have := hr _ d hj
            rw [Nat.zero_add] at this
            exact this
          · cases hj
        · cases hc
      · cases hc
    · cases hc
  · rename_i k' len f
    split at hc
    · rename_i hkk
      obtain ⟨rfl, hall⟩ := hkk
      obtain ⟨rfl, rfl⟩ := some_pair hc
      simp only [Rep] at hd
      rcases hd with ⟨rfl, rfl⟩ | ⟨b, q, c, hd, h1, hcells⟩
      · exact ⟨_, _, rfl, Nat.zero_le _, by simp, fun _ => rfl, [], by simp, by simp [RepL], fun m hm w2 _ => by simp [Builtin.firstCells]⟩
      · have hall' : ∀ i, i < len → (f i).length = k' := fun i hi => by
          have := List.all_eq_true.1 hall i (List.mem_range.2 hi)
          exact eq_of_beq this
        obtain ⟨g1, g2⟩ := reads_flat len hall' (fun i hi => repC_reads (mask_sub K w ρ) (hcells i hi))
        exact main b q c hd h1 g1 g2
    · cases hc
  · rename_i z
    obtain ⟨rfl, rfl⟩ := some_pair hc
    simp only [Rep] at hd
    obtain ⟨q, q2, c, rfl, _⟩ := hd
    refine ⟨_, _, rfl, Nat.zero_le _, by simp, fun h => (by cases h), [], by simp, by simp [RepL], fun m hm w2 _ => ?_⟩
    obtain rfl : m = 0 := by omega
    simp [Builtin.firstCells, loadCells, loadCellsFrom]
  · cases hc

theorem growBy_le (n : Nat) : ∀ (r c : Nat), c ≤ 2 * n + 2000 → Builtin.growBy n r c ≤ 2 * n + 2000
  | 0, c, h => h
  | r + 1, c, h => by
    unfold Builtin.growBy
    split
    · exact h
    · exact growBy_le n r _ (by omega)
theorem nextcap_le {n c : Nat} (h : c < n) : Builtin.nextslicecap n c ≤ 2 * n + 2000 := by
  unfold Builtin.nextslicecap
  split
  · omega
  · split
    · omega
    · exact growBy_le n 4 c (by omega)
theorem lenOf_slice {q : Option Addr} {n c : Nat} : (Builtin.lenOf (.slice q n c)).run P w = .ok n w := rfl
/-- append into what is there -/
theorem append_in {c : Call} {x y : Operand} {t u e : TypeId} {ud : TypeDesc} {k n m cap : Nat} {q : Option Addr} {vx : List Value} (ho : o.op = .call c) (hc : c.callee = .builtin .append) (hca : c.args.toList = [x, y]) (ht : c.argTypes[0]? = some t) (hu : c.argTypes[1]? = some u)
    (he : elemT P t = some e) (hue : P.underlying u = some ud) (hud : ∀ k, ud ≠ .int k) (hsz : sizT P e = some k) (hx : a.eval x = .slice q n cap) (hly : ∀ w2 : World, (Builtin.lenOf (a.eval y)).run P w2 = .ok m w2) (hnew : (Builtin.firstCells k m (a.eval y)).run P w = .ok vx.toArray w) (hle : n + m ≤ cap) :
    (execOp a.eval o).run P w = (match q with | some b => (storeCells (b.add (n * k)) vx).run P w | none => .ok () w).andThen fun _ w' => .ok (.value (.slice q (n + m) cap)) w' := by
  have hca' : c.args = #[x, y] := by apply Array.ext'; simpa using hca
  have ht' : c.argTypes[0]? = some t := ht
  have hz : (ud matches .int _) = false := by
    cases ud <;> first | rfl | exact absurd rfl (hud _)
  generalize hvy : a.eval y = vy at hnew hly
  simp [execOp, ho, resolve, hc, invoke, Go.builtin, hca', Builtin.append_, ht', hu, run_under (elemT_some he), run_under hue, hx, hvy, run_size hsz, hly, hz, hle, hnew]
  cases q with
  | none => simp
  | some b =>
    simp
    cases (storeCells (b.add (n * k)) vx).run P w <;> rfl
/-- append into a new row -/
theorem append_new {c : Call} {x y : Operand} {t u e : TypeId} {ud : TypeDesc} {i : TypeInfo} {zv : Value} {n m cap : Nat} {q : Option Addr} {vs vx : List Value} (ho : o.op = .call c) (hc : c.callee = .builtin .append) (hca : c.args.toList = [x, y]) (ht : c.argTypes[0]? = some t) (hu : c.argTypes[1]? = some u)
    (he : elemT P t = some e) (hue : P.underlying u = some ud) (hud : ∀ k, ud ≠ .int k) (hi : P.info? e = some i) (hz : i.zero = some zv) (hbytes : i.bytes ≤ 65536) (hbound : n + m ≤ 1048576) (hx : a.eval x = .slice q n cap) (hly : ∀ w2 : World, (Builtin.lenOf (a.eval y)).run P w2 = .ok m w2)
    (hold : ∀ w2 : World, w2.heap = w.heap → (Builtin.firstCells i.size n (a.eval x)).run P w2 = .ok vs.toArray w2) (hnew : ∀ w2 : World, w2.heap = w.heap → (Builtin.firstCells i.size m (a.eval y)).run P w2 = .ok vx.toArray w2) (hgt : cap < n + m) :
    ∃ nc dr, n + m ≤ nc ∧ (execOp a.eval o).run P w = .ok (.value (.slice (some ⟨w.heap.size, 0, none⟩) (n + m) nc)) { w with heap := w.heap.push (Obj.cells ((vs ++ vx).toArray ++ Builtin.zeroCells zv.cells (nc - (n + m))) e (0, 0)), drawn := dr } := by
  have hca' : c.args = #[x, y] := by apply Array.ext'; simpa using hca
  have hsz : sizT P e = some i.size := by simp [sizT, hi]
  have hnle : ¬ (n + m ≤ cap) := by omega
  have hnc := nextcap_le hgt
  have hroom : ¬ (Builtin.nextslicecap (n + m) cap * i.bytes > 2 ^ 48) := by
    have : Builtin.nextslicecap (n + m) cap * i.bytes ≤ 2099152 * 65536 := Nat.mul_le_mul (by omega) hbytes
    omega
  have hmax : ¬ (((n + m : Nat) : Int) > IntKind.i64.max) := by
    simp only [IntKind.max, IntKind.signed, IntKind.bits]
    omega
  refine ⟨(Question.appendCap (n + m) cap e).cut (w.tape w.drawn (.appendCap (n + m) cap e)), w.drawn + 1, by simp [Question.cut], ?_⟩
  generalize hg : (Question.appendCap (n + m) cap e).cut (w.tape w.drawn (.appendCap (n + m) cap e)) = nc
  have hch : (choose (.appendCap (n + m) cap e)).run P w = .ok nc { w with drawn := w.drawn + 1 } := by
    simp [choose, Sem.run, Question.forced, hg]
  have hask : ∀ w2 : World, (askRoom (nc * i.bytes)).run P w2 = .ok () w2 := fun w2 => by
    unfold askRoom
    split <;> simp [mark, Sem.run]
  rw [hx] at hold
  have hzz : (ud matches .int _) = false := by
    cases ud <;> first | rfl | exact absurd rfl (hud _)
  generalize hvy : a.eval y = vy at hnew hly
  have h1 := hold w.drew rfl
  have h2 := hnew w.drew rfl
  simp only [execOp, ho, resolve, hc, invoke, Go.builtin, hca', Sem.run_bind, Sem.run_pure, Result.andThen_ok]
  simp only [Builtin.append_, ht, hu, List.map_toArray, List.map_cons, List.map_nil, hx, hvy]
  have hmax2 : ¬ ((9223372036854775807 : Int) < (n : Int) + (m : Int) ∧ i.bytes = 0) := by omega
  have hf : (Question.appendCap (n + m) cap e).forced = false := rfl
  simp [run_under (elemT_some he), run_under hue, run_size hsz, hly, hzz, hnle, hmax2, run_info hi, hroom, hf, hg, hask, h1, h2, run_zero hi hz, newRow, newObj, Sem.run]
  have e1 : vs.toArray ++ (vx.toArray ++ Builtin.zeroCells zv.cells (nc - (n + m))) = (vs ++ vx).toArray ++ Builtin.zeroCells zv.cells (nc - (n + m)) := by
    apply Array.ext'
    simp
  rw [e1]
  rfl
theorem zeroCells_size (z : Array Value) (n : Nat) : (Builtin.zeroCells z n).size = n * z.size := by simp [Builtin.zeroCells]
theorem s_appendG {c : Call} {x y : Operand} {t u e : TypeId} {ud : TypeDesc} {i : TypeInfo} {z : List D} {n m : Nat} {A B : List D} {vx : List Value} (ho : o.op = .call c) (hc : c.callee = .builtin .append) (hca : c.args.toList = [x, y]) (ht : c.argTypes[0]? = some t) (hu : c.argTypes[1]? = some u)
    (he : elemT P t = some e) (hue : P.underlying u = some ud) (hud : ∀ k, ud ≠ .int k) (hi : P.info? e = some i) (hz : zeroT P e = some z) (hzl : z.length = i.size) (hk0 : 0 < i.size) (hbytes : i.bytes ≤ 65536) (hk : OK K w ρ hp) (hn : ρ[nid]? = some .fresh)
    (hs : Slots K (mask K w ρ) ρ sl a.tmps) (hA : contents hp i.size (evO sl x) = some (n, A)) (lB : B.length = m * i.size) (hly : ∀ w2 : World, (Builtin.lenOf (a.eval y)).run P w2 = .ok m w2) (lvx : vx.length = m * i.size) (rB : RepL K (mask K w ρ) ρ B vx)
    (hnew : ∀ w2 : World, w2.heap = w.heap → (Builtin.firstCells i.size m (a.eval y)).run P w2 = .ok vx.toArray w2) (hnm : n + m ≤ 1048576) (hall : B.all okCell = true) (h : appendTo hp nid i.size n m A B (evO sl x) = some out) : Does P o a w (Res K w ρ hp nid out) := by
  have hx := evO_rep hs x
  have hsz : sizT P e = some i.size := by simp [sizT, hi]
  obtain ⟨i', zv, z1, z2, z3⟩ := zeroT_some hz
  rw [hi] at z1
  cases z1
  have hzr := cellsD_rep (ofV_rep K (mask K w ρ) ρ zv) z3
  have hzs : zv.cells.size = i.size := by
    have := repL_length hzr
    simp at this
    omega
  obtain ⟨q, cap, ex, hncap, lA, hq0, vs, lvs, rA, fA⟩ := contents_run (P := P) hk hx hA
  have hold : ∀ w2 : World, w2.heap = w.heap → (Builtin.firstCells i.size n (a.eval x)).run P w2 = .ok vs.toArray w2 := fun w2 hw2 => by
    have := fA n (Nat.le_refl _) w2 hw2
    rwa [List.take_of_length_le (by omega)] at this
  -- a new row
  have fresh : cap < n + m → ∀ p, Does P o a w (Res K w ρ hp nid ⟨p, .sl nid 0 (n + m) i.size none, [(nid, .cells (A ++ B))], []⟩) := fun hgt p => by
    obtain ⟨nc, dr, hnc, hrun⟩ := append_new ho hc hca ht hu he hue hud hi z2 hbytes hnm ex hly hold hnew hgt
    have hbs : ((vs ++ vx).toArray ++ Builtin.zeroCells zv.cells (nc - (n + m))).size = nc * i.size := by
      rw [Array.size_append, zeroCells_size, hzs]
      simp only [List.size_toArray, List.length_append, lvs, lvx]
      rw [← Nat.add_mul, ← Nat.add_mul, show n + m + (nc - (n + m)) = nc by omega]
    refine does_value hrun ⟨ρ.set nid (.live w.heap.size ((vs ++ vx).toArray ++ Builtin.zeroCells zv.cells (nc - (n + m))).size), ?_, ?_⟩
    · simp only [Rep, own_set_same hn]
      exact ⟨nc, rfl, hnc, by omega, by omega⟩
    · refine Eff.new_block rfl hn hk.lt fun hsub => ⟨_, (e, (0, 0)), by simp, ⟨rfl, .inl rfl⟩, ?_⟩
      intro j d hj
      have hab := repL_append rA rB
      obtain ⟨v, g1, g2⟩ := repL_get hab hj
      refine ⟨v, ?_, Rep.mono hsub (fresh_le hn) _ _ g2⟩
      have hjl : j < (vs ++ vx).length := (List.getElem?_eq_some_iff.1 g1).1
      rw [Array.getElem?_append_left (by simpa using hjl)]
      simpa using g1
  unfold appendTo at h
  split at h
  · rename_i hd
    rw [hd] at hx
    simp only [Rep] at hx
    rw [hx] at ex
    cases ex
    split at h
    · obtain rfl := (Option.some.inj h).symm
      exact fresh (by omega) none
    · obtain rfl := (Option.some.inj h).symm
      have hm0 : m = 0 := by omega
      subst hm0
      have r := append_in ho hc hca ht hu he hue hud hsz hx hly (hnew w rfl) (by omega)
      simp only [Result.andThen_ok] at r
      exact quiet r (by simp [Rep])
  · rename_i zf hd
    rw [hd] at hx
    simp only [Rep] at hx
    obtain ⟨q', o', c', hx, hz0⟩ := hx
    rw [hx] at ex
    cases ex
    split at h
    · split at h
      · have := hz0 rfl
        obtain rfl := (Option.some.inj h).symm
        exact fresh (by omega) none
      · cases h
    · obtain rfl := (Option.some.inj h).symm
      have hm0 : m = 0 := by omega
      subst hm0
      obtain rfl : vx = [] := by
        rw [Nat.zero_mul] at lvx
        exact List.eq_nil_of_length_eq_zero lvx
      have r := append_in ho hc hca ht hu he hue hud hsz hx hly (hnew w rfl) (by omega)
      simp only [storeCells, Sem.run_pure, Result.andThen_ok] at r
      exact quiet r (by simp only [Rep]; exact ⟨q', o', _, rfl, hz0⟩)
  · rename_i id off n' k' capo hd
    rw [hd] at hx hA
    split at h
    · split at h
      · rename_i cs hcs
        obtain ⟨b, N, ho1, hb⟩ := cellsAt_own hk hcs
        split at h
        · rename_i hc3
          obtain ⟨rfl, rfl, hlen⟩ := hc3
          obtain rfl := (Option.some.inj h).symm
          simp only [Rep, ho1] at hx
          obtain ⟨c', hx, h1, h2, h3⟩ := hx
          rw [hx] at ex
          cases ex
          have hAcs : A = cs := by
            unfold contents at hA
            simp only [if_true, hcs] at hA
            split at hA
            · obtain ⟨_, rfl⟩ := some_pair hA
              simp [hlen]
            · cases hA
          subst hAcs
          obtain ⟨vb, ty, g1, g2, g3⟩ := hb
          have hv : hp[id]? ≠ some .dead := fun e => by unfold cellsAt at hcs; rw [getG_eq, e] at hcs; cases hcs
          have hidne : id ≠ nid := fun e => by
            have := own_live ho1
            rw [e, hn] at this
            cases this
          rcases Nat.lt_or_ge cap (n + m) with hgt | hle
          · obtain ⟨nc, dr, hnc, hrun⟩ := append_new ho hc hca ht hu he hue hud hi z2 hbytes hnm hx hly hold hnew hgt
            have hbs : ((vs ++ vx).toArray ++ Builtin.zeroCells zv.cells (nc - (n + m))).size = nc * i.size := by
              rw [Array.size_append, zeroCells_size, hzs]
              simp only [List.size_toArray, List.length_append, lvs, lvx]
              rw [← Nat.add_mul, ← Nat.add_mul, show n + m + (nc - (n + m)) = nc by omega]
            refine does_value hrun ⟨(ρ.set id .dead).set nid (.live w.heap.size ((vs ++ vx).toArray ++ Builtin.zeroCells zv.cells (nc - (n + m))).size), ?_, ?_⟩
            · have hnl : nid < (ρ.set id Own.dead).length := by simpa using (List.getElem?_eq_some_iff.1 hn).1
              simp only [Rep, own_set hnl, if_true]
              exact ⟨nc, rfl, hnc, by omega, by omega⟩
            · refine Eff.shift (own_live ho1) hv hn hk (by simp) (fun c hcl _ => by rw [Array.getElem?_push_lt hcl, Array.getElem?_eq_getElem hcl]) (.inr rfl) (by simp) fun hsub hle => ⟨_, (e, (0, 0)), by simp, ⟨rfl, .inl rfl⟩, ?_⟩
              intro j d hj
              have hab := repL_append rA rB
              obtain ⟨v, q1, q2⟩ := repL_get hab hj
              refine ⟨v, ?_, Rep.mono hsub hle _ _ q2⟩
              have hjl : j < (vs ++ vx).length := (List.getElem?_eq_some_iff.1 q1).1
              rw [Array.getElem?_append_left (by simpa using hjl)]
              simpa using q1
          · have r := append_in ho hc hca ht hu he hue hud hsz hx hly (hnew w rfl) hle
            simp only [addr_add] at r
            have hin : 0 + n * i.size + 0 + vx.length ≤ vb.size := by
              rw [g2.1, lvx]
              have : (n + m) * i.size ≤ cap * i.size := Nat.mul_le_mul_right _ hle
              rw [Nat.add_mul] at this
              omega
            rw [run_storeCells vx w vb 0 g1 g2.2 (plains rB hall) hin] at r
            simp only [Result.andThen_ok] at r
            refine does_value r ⟨(ρ.set id .dead).set nid (.live b N), ?_, ?_⟩
            · have hnl : nid < (ρ.set id Own.dead).length := by simpa using (List.getElem?_eq_some_iff.1 hn).1
              simp only [Rep, own_set hnl, if_true]
              exact ⟨cap, rfl, hle, by omega, by omega⟩
            · have hbl := lt_of_cells g1
              refine Eff.shift (own_live ho1) hv hn hk (by simp [rowed]) (fun c hcl hcb => by
                simp only [rowed, Array.set!_eq_setIfInBounds]
                rw [Array.getElem?_setIfInBounds_ne (Ne.symm hcb)]) (.inl rfl) (by simp [rowed]; exact hbl) fun hsub hle' => ⟨_, ty, rowed_get hbl, by rw [storeA_size]; exact g2, ?_⟩
              intro j d hj
              refine (?_ : ∃ x, _ ∧ _)
              have fin : ∀ v, Rep K (mask K w ρ) ρ d v → Rep K _ _ d v := fun v q2 => Rep.mono hsub hle' _ _ q2
              rw [storeA_get _ _ _ _ (by omega)]
              have e0 : 0 + n * i.size + 0 = n * i.size := by omega
              by_cases hjl : j < A.length
              · rw [List.getElem?_append_left hjl] at hj
                rw [if_neg (by omega)]
                obtain ⟨v, q1, q2⟩ := g3 j d hj
                exact ⟨v, q1, fin v q2⟩
              · rw [List.getElem?_append_right (by omega)] at hj
                obtain ⟨v, q1, q2⟩ := repL_get rB hj
                have hjm := (List.getElem?_eq_some_iff.1 q1).1
                refine ⟨v, ?_, fin v q2⟩
                rw [if_pos (by omega), show j - (0 + n * i.size + 0) = j - A.length by omega]
                exact q1
        · cases h
      · cases h
    · rename_i c0
      split at h
      · cases h
      · obtain rfl := (Option.some.inj h).symm
        refine fresh ?_ none
        -- the capacity is known
        have : cap = c0 := by
          unfold contents at hA
          simp only at hA
          split at hA
          · split at hA
            · rename_i cs hcs
              obtain ⟨b, N, ho1, hb⟩ := cellsAt_own hk hcs
              simp only [Rep, ho1] at hx
              obtain ⟨c', hx, h1, h2, h3⟩ := hx
              rw [hx] at ex
              cases ex
              exact h3
            · cases hA
          · cases hA
        omega
  · cases h
theorem s_append {c : Call} {x y : Operand} {t u e e2 : TypeId} {i : TypeInfo} {z : List D} (ho : o.op = .call c) (hc : c.callee = .builtin .append) (hca : c.args.toList = [x, y]) (ht : c.argTypes[0]? = some t) (hu : c.argTypes[1]? = some u)
    (he : elemT P t = some e) (hue : P.underlying u = some (.slice e2)) (hi : P.info? e = some i) (hz : zeroT P e = some z) (hzl : z.length = i.size) (hk0 : 0 < i.size) (hbytes : i.bytes ≤ 65536) (hk : OK K w ρ hp) (hn : ρ[nid]? = some .fresh)
    (hs : Slots K (mask K w ρ) ρ sl a.tmps) (h : c_append sl hp nid i.size x y = some out) : Does P o a w (Res K w ρ hp nid out) := by
  have hy := evO_rep hs y
  unfold c_append at h
  split at h
  · rename_i n A m B hA hB
    split at h
    · rename_i hcond
      obtain ⟨hnm, hall⟩ := hcond
      obtain ⟨qx, cx, ey, hmcx, lB, hqx0, vx, lvx, rB, fB⟩ := contents_run (P := P) hk hy hB
      refine s_appendG ho hc hca ht hu he hue (by simp) hi hz hzl hk0 hbytes hk hn hs hA lB (fun w2 => by rw [ey]; rfl) lvx rB (fun w2 hw2 => ?_) hnm hall h
      have := fB m (Nat.le_refl _) w2 hw2
      rwa [List.take_of_length_le (by omega)] at this
    · cases h
  · cases h
theorem byteV_eq (b : UInt8) : byteV b = .val (.int .u8 b.toNat) := by simp [byteV]
theorem bytesD_length (s : ByteArray) : (bytesD s).length = s.size := by simp [bytesD, bytesOfS_length]
theorem bytesD_all (s : ByteArray) : (bytesD s).all okCell = true := by
  rw [List.all_eq_true]
  intro d hd
  unfold bytesD at hd
  obtain ⟨b, _, rfl⟩ := List.mem_map.1 hd
  rw [byteV_eq]
  rfl
def bytesVs (s : ByteArray) : List Value := (bytesOfS s).map fun b => .int .u8 b.toNat
theorem bytesVs_length (s : ByteArray) : (bytesVs s).length = s.size := by simp [bytesVs, bytesOfS_length]
theorem bytesD_rep (M : World) (s : ByteArray) : RepL K M ρ (bytesD s) (bytesVs s) := by
  unfold bytesD bytesVs
  generalize bytesOfS s = l
  induction l with
  | nil => simp [RepL]
  | cons b l ih =>
    simp only [List.map_cons, RepL]
    exact ⟨_, _, rfl, by rw [byteV_eq]; simp [Rep], ih⟩
theorem firstCells_string (s : ByteArray) (k n : Nat) (h : n ≤ s.size) : (Builtin.firstCells k n (.string s)).run P w = .ok ((bytesVs s).take n).toArray w := by
  simp only [Builtin.firstCells, Sem.run_pure]
  congr 1
  apply Array.ext'
  simp [bytesVs, bytesOfS]
theorem s_appS {c : Call} {x y : Operand} {t u e : TypeId} {i : TypeInfo} {z : List D} (ho : o.op = .call c) (hc : c.callee = .builtin .append) (hca : c.args.toList = [x, y]) (ht : c.argTypes[0]? = some t) (hu : c.argTypes[1]? = some u)
    (he : elemT P t = some e) (hue : P.underlying u = some .string) (hi : P.info? e = some i) (hz : zeroT P e = some z) (hzl : z.length = i.size) (hk0 : i.size = 1) (hbytes : i.bytes ≤ 65536) (hk : OK K w ρ hp) (hn : ρ[nid]? = some .fresh)
    (hs : Slots K (mask K w ρ) ρ sl a.tmps) (h : c_appS sl hp nid x y = some out) : Does P o a w (Res K w ρ hp nid out) := by
  have hy := evO_rep hs y
  unfold c_appS at h
  split at h
  · rename_i n A s hA hd
    rw [hd] at hy
    simp only [Rep] at hy
    split at h
    · rename_i hnm
      rw [← hk0] at hA h
      rw [bytesOfS_length] at hnm h
      refine s_appendG ho hc hca ht hu he hue (by simp) hi hz hzl (by omega) hbytes hk hn hs hA (by rw [bytesD_length, hk0, Nat.mul_one]) (fun w2 => by rw [hy]; rfl) (by rw [bytesVs_length, hk0, Nat.mul_one]) (bytesD_rep _ s) (fun w2 hw2 => ?_) hnm (bytesD_all s) h
      rw [hy, firstCells_string s _ _ (Nat.le_refl _), List.take_of_length_le (by rw [bytesVs_length]; exact Nat.le_refl _)]
    · cases h
  · cases h
end
end Go.Ev
end
section
namespace Go.Ev
section
variable {K : Cust} {P : Program} {o : Oper} {a : Act} {w w' : World} {ρ : List Own} {hp : List Blk} {sl : List D} {nid : Nat} {out : Out}

theorem s_copy {c : Call} {x y : Operand} {t e : TypeId} {k : Nat} (ho : o.op = .call c) (hc : c.callee = .builtin .copy) (hca : c.args.toList = [x, y]) (ht : c.argTypes[0]? = some t)
    (he : elemT P t = some e) (hsz : sizT P e = some k) (hk : OK K w ρ hp)
    (hs : Slots K (mask K w ρ) ρ sl a.tmps) (h : c_copy sl hp nid k x y = some out) : Does P o a w (Res K w ρ hp nid out) := by
  have hx := evO_rep hs x
  have hy := evO_rep hs y
  have hca' : c.args = #[x, y] := by apply Array.ext'; simpa using hca
  unfold c_copy at h
  split at h
  · rename_i id off n k' cap m B hd hB
    rw [hd] at hx
    split at h
    · rename_i cs hcs
      split at h
      · rename_i hc3
        obtain ⟨rfl, hle, hall⟩ := hc3
        obtain rfl := (Option.some.inj h).symm
        obtain ⟨b, N, ho1, hb⟩ := cellsAt_own hk hcs
        simp only [Rep, ho1] at hx
        obtain ⟨c', hx, _⟩ := hx
        obtain ⟨vb, ty, g1, g2, g3⟩ := hb
        have g4 := readsL_size g3
        obtain ⟨qx, cx, ey, hmcx, lB, hqx0, vx, lvx, rB, fB⟩ := contents_run (P := P) hk hy hB
        have hmn : Nat.min m n ≤ m := Nat.min_le_left _ _
        have hmn2 : Nat.min m n ≤ n := Nat.min_le_right _ _
        have hf := fB (Nat.min m n) hmn w rfl
        have hlen : (B.take (Nat.min m n * k')).length = Nat.min m n * k' := by
          have : Nat.min m n * k' ≤ m * k' := Nat.mul_le_mul_right _ hmn
          simp
          omega
        have hmul : Nat.min m n * k' ≤ n * k' := Nat.mul_le_mul_right _ hmn2
        have hvl : (vx.take (Nat.min m n * k')).length ≤ Nat.min m n * k' := by simp; omega
        have hal : (B.take (Nat.min m n * k')).all okCell = true := by
          rw [List.all_eq_true] at hall ⊢
          exact fun d hd => hall d (List.mem_of_mem_take hd)
        have hrep := repL_take (Nat.min m n * k') rB
        refine wrote_row (v := .int .i64 (Nat.min m n)) (xs := vx.take (Nat.min m n * k')) hk hcs ho1 g1 (by omega) (nx := .value (.int .i64 (Nat.min m n))) ?_ (.inl rfl) (.inl rfl) (fun M ρ' => by simp [Rep]) hrep
        rw [ey] at hf
        simp only [execOp, ho, resolve, hc, invoke, Go.builtin, hca', Sem.run_bind, Sem.run_pure, Result.andThen_ok, List.map_toArray, List.map_cons, List.map_nil, hx, ey]
        simp only [Builtin.copy_, ht, List.getElem?_toArray, List.getElem?_cons_zero, List.getElem?_cons_succ, Sem.run_bind, run_under (elemT_some he), Result.andThen_ok, lenOf_slice, run_size hsz, hf]
        rw [run_storeCells _ w vb 0 g1 g2.2 (plains hrep hal) (by omega)]
        simp [goInt]
      · cases h
    · cases h
  · cases h
theorem s_clear {c : Call} {x : Operand} {t e : TypeId} {k : Nat} {z : List D} (ho : o.op = .call c) (hc : c.callee = .builtin .clear) (hca : c.args.toList = [x]) (ht : c.argTypes[0]? = some t)
    (he : elemT P t = some e) (hsz : sizT P e = some k) (hz : zeroT P e = some z) (hk0 : 0 < k) (hzl : z.length = k) (hk : OK K w ρ hp)
    (hs : Slots K (mask K w ρ) ρ sl a.tmps) (h : c_clear sl hp nid k z x = some out) : Does P o a w (Res K w ρ hp nid out) := by
  have hx := evO_rep hs x
  have hca' : c.args = #[x] := by apply Array.ext'; simpa using hca
  unfold c_clear at h
  split at h
  · rename_i id off n k' cap hd
    rw [hd] at hx
    split at h
    · rename_i cs hcs
      split at h
      · rename_i hc3
        obtain ⟨rfl, hle, hall⟩ := hc3
        obtain rfl := (Option.some.inj h).symm
        obtain ⟨b, N, ho1, hb⟩ := cellsAt_own hk hcs
        simp only [Rep, ho1] at hx
        obtain ⟨c', hx, _⟩ := hx
        obtain ⟨vb, ty, g1, g2, g3⟩ := hb
        have g4 := readsL_size g3
        obtain ⟨i, zv, z1, z2, z3⟩ := zeroT_some hz
        have hzr := cellsD_rep (ofV_rep K (mask K w ρ) ρ zv) z3
        have hrep := rep_zero hzr n (.inl (by omega))
        have hzs : zv.cells.size = k' := by
          have := repL_length hzr
          simp at this
          omega
        have hzc : ((Array.range (n * z.length)).map (zv.cells[· % zv.cells.size]!)) = Builtin.zeroCells zv.cells n := by
          unfold Builtin.zeroCells
          rw [hzl, hzs]
        rw [hzc] at hrep
        have hpl : ∀ v ∈ (Builtin.zeroCells zv.cells n).toList, plain v = true := by
          refine plains hrep ?_
          have : ∀ n, (rep n z).all okCell = true := fun n => by
            induction n with
            | zero => rfl
            | succ n ih => simp only [rep, List.all_append, hall, ih, Bool.and_self]
          exact this n
        have hlen : (rep n z).length = n * k' := by rw [rep_length, hzl]
        refine wrote_row (v := .tuple #[]) (xs := (Builtin.zeroCells zv.cells n).toList) hk hcs ho1 g1 (by omega) (nx := .value (.tuple #[])) ?_ (.inl rfl) (.inr rfl) (fun M ρ' => by simp only [Rep]; exact ⟨[], rfl, by simp [RepL]⟩) hrep
        have hsl : (Builtin.zeroCells zv.cells n).toList.length = n * k' := by simp [zeroCells_size, hzs]
        simp only [execOp, ho, resolve, hc, invoke, Go.builtin, hca', Sem.run_bind, Sem.run_pure, Result.andThen_ok, List.map_toArray, List.map_cons, List.map_nil, hx]
        cases n with
        | zero =>
          have e0 : Builtin.zeroCells zv.cells 0 = #[] := by simp [Builtin.zeroCells]
          rw [e0]
          simp only [storeA]
          rw [rowed_self g1]
          simp [Builtin.clear_, ht, run_under (elemT_some he)]
        | succ n =>
          have r := run_storeCells (P := P) (o := off) (Builtin.zeroCells zv.cells (n + 1)).toList w vb 0 g1 g2.2 hpl (by omega)
          rw [Nat.add_zero] at r
          simp [Builtin.clear_, ht, run_under (elemT_some he), run_zero z1 z2, r]
      · cases h
    · cases h
  · cases h

theorem scalarK_agg {t : TypeId} {k : Nat} (h : scalarK P t = some k) : aggT P t = some false ∧ ((k = 0 ∧ ∃ i, P.underlying t = some (.int i)) ∨ (k = 1 ∧ P.underlying t = some .bool) ∨ (k = 2 ∧ P.underlying t = some .string)) := by
  unfold scalarK at h
  unfold aggT
  split at h
  · rename_i i hu; cases h; rw [hu]; exact ⟨rfl, .inl ⟨rfl, i, rfl⟩⟩
  · rename_i hu; cases h; rw [hu]; exact ⟨rfl, .inr (.inl ⟨rfl, rfl⟩)⟩
  · rename_i hu; cases h; rw [hu]; exact ⟨rfl, .inr (.inr ⟨rfl, rfl⟩)⟩
  · cases h
theorem eqCells_cons {k : Nat} {ks : List Nat} {x y : List D} {t : Bool} (h : eqCells (k :: ks) x y = some t) : ∃ u v x' y' t1 t2, x = .val u :: x' ∧ y = .val v :: y' ∧ kindOk k u = true ∧ kindOk k v = true ∧ binV false .eql u v = some (none, .bool t1) ∧ eqCells ks x' y' = some t2 ∧ t = (t1 && t2) := by
  unfold eqCells at h
  split at h
  · simp at *
  · rename_i k' ks' u x' v y' h0
    cases h0
    split at h
    · rename_i hk
      split at h
      · rename_i t1 hb
        split at h
        · rename_i t2 hr
          simp only [Bool.and_eq_true] at hk
          exact ⟨u, v, x', y', t1, t2, rfl, rfl, hk.1, hk.2, hb, hr, (Option.some.inj h).symm⟩
        · cases h
      · cases h
    · cases h
  · cases h
theorem eqCells_run {M : World} {d : Nat} {xs ys : Array Value} : ∀ (fs : List Field) (i : Nat) (ks : List Nat) (x y : List D) (t : Bool), kindsT P fs i = some ks → eqCells ks x y = some t →
    RepL K M ρ x (xs.toList.drop i) → RepL K M ρ y (ys.toList.drop i) → (Op.eqFields (d + 1) xs ys fs).run P w = .ok t w
  | [], i, ks, x, y, t, hf, he, hx, hy => by
    simp only [kindsT] at hf
    obtain rfl := Option.some.inj hf
    cases x <;> cases y <;> simp [eqCells] at he
    subst he
    simp [Op.eqFields]
  | f :: fs, i, ks, x, y, t, hf, he, hx, hy => by
    simp only [kindsT] at hf
    split at hf
    · rename_i k r hk hr
      split at hf
      · rename_i hc
        obtain rfl := Option.some.inj hf
        simp only [Bool.and_eq_true, bne_iff_ne, beq_iff_eq] at hc
        obtain ⟨u, v, x', y', t1, t2, rfl, rfl, hku, hkv, hb, hrest, rfl⟩ := eqCells_cons he
        clear he
        simp only [RepL] at hx hy
        obtain ⟨u', rx, ex, hu, hx⟩ := hx
        obtain ⟨v', ry, ey, hv, hy⟩ := hy
        simp only [Rep] at hu hv
        subst hu hv
        have gx : xs[i]? = some u' := by
          have := congrArg (·[0]?) ex
          simpa using this
        have gy : ys[i]? = some v' := by
          have := congrArg (·[0]?) ey
          simpa using this
        have dx : xs.toList.drop (i + 1) = rx := by rw [← List.drop_drop, ex]; rfl
        have dy : ys.toList.drop (i + 1) = ry := by rw [← List.drop_drop, ey]; rfl
        have ih := eqCells_run (d := d) fs (i + 1) r x' y' t2 hr hrest (by rw [dx]; exact hx) (by rw [dy]; exact hy)
        obtain ⟨hag, hkind⟩ := scalarK_agg hk
        have heq : (Op.equalIn (d + 1) f.type u' v').run P w = .ok t1 w := by
          rcases hkind with ⟨rfl, ik, hu⟩ | ⟨rfl, hu⟩ | ⟨rfl, hu⟩
          · cases u' <;> simp [kindOk] at hku
            cases v' <;> simp [kindOk] at hkv
            simp only [binV, int2V] at hb
            split at hb
            · rename_i hsk
              simp only [intV, intF, boolV, Option.some.injEq, Prod.mk.injEq, Value.bool.injEq, true_and] at hb
              have hsk' := hsk
              simp [sameK, isSh] at hsk'
              subst hsk'
              simp [Op.equalIn, run_under hu, hb]
            · cases hb
          · cases u' <;> simp [kindOk] at hku
            cases v' <;> simp [kindOk] at hkv
            simp only [binV, boV, boolV, Option.some.injEq, Prod.mk.injEq, Value.bool.injEq, true_and] at hb
            simp [Op.equalIn, run_under hu, hb]
          · cases u' <;> simp [kindOk] at hku
            cases v' <;> simp [kindOk] at hkv
            simp only [binV, strX, justV, strD, Option.some.injEq, Prod.mk.injEq, Value.bool.injEq, true_and] at hb
            rw [run_equalIn_string w d f.type _ _ hu, ← bytesOfS_eq, ← bytesOfS_eq, hb]
        simp only [Op.eqFields, hc.1, ne_eq, not_false_eq_true, if_true, hc.2, Sem.run_bind]
        have px : ∀ zs : Array Value, ∀ z, zs[i]? = some z → (part f.type zs i).run P w = .ok z w := fun zs z hz => by
          simp [part, run_isAgg' hag, hz]
        rw [px xs u' gx]
        simp only [Result.andThen_ok]
        rw [px ys v' gy]
        simp only [Result.andThen_ok, heq]
        cases t1
        · simp
        · simp [ih]
      · cases hf
    · cases hf
theorem s_eqAgg {op : BinOp} {t t2 : TypeId} {x y : Operand} {fs : Array Field} {ks : List Nat} (ho : o.op = .binOp op t x y t2) (hu : P.underlying t = some (.struct fs)) (hks : kindsT P fs.toList 0 = some ks) (hst : P.stoodInHeld t = false) (heg : P.eqGuardType P.depth t = false)
    (hs : Slots K (mask K w ρ) ρ sl a.tmps) (h : c_eqAgg sl hp nid op ks x y = some out) : Does P o a w (Res K w ρ hp nid out) := by
  have hx := evO_rep hs x
  have hy := evO_rep hs y
  unfold c_eqAgg at h
  split at h
  · rename_i dx dy hdx hdy
    rw [hdx] at hx
    rw [hdy] at hy
    simp only [Rep] at hx hy
    obtain ⟨vx, hx, rx⟩ := hx
    obtain ⟨vy, hy, ry⟩ := hy
    split at h
    · rename_i r hr
      have hfo : P.fieldsOf t = fs := by simp [Program.fieldsOf, hu]
      have heq : (Op.equalIn 10000 t (.agg vx.toArray) (.agg vy.toArray)).run P w = .ok r w := by
        rw [run_equalIn_struct w 9999 t _ _ (by rw [hfo]; exact hu) hst, hfo]
        exact eqCells_run (d := 9998) fs.toList 0 ks dx dy r hks hr (by simpa using rx) (by simpa using ry)
      have hg := run_eqGuard_agg (P := P) w op t x y vx.toArray vy.toArray heg
      split at h
      · obtain rfl := (Option.some.inj h).symm
        refine quiet (v := .bool r) ?_ (by simp [Rep])
        simp only [execOp, ho, hx, hy, Sem.run_bind, hg, Result.andThen_ok, run_eql_struct, heq, Sem.run_pure]
      · obtain rfl := (Option.some.inj h).symm
        refine quiet (v := .bool (!r)) ?_ (by simp [Rep])
        simp only [execOp, ho, hx, hy, Sem.run_bind, hg, Result.andThen_ok, run_neq_struct, heq, Sem.run_pure]
      · cases h
    · cases h
  · cases h
end
end Go.Ev
end
section
namespace Go.Ev
section
variable {K : Cust} {P : Program} {o : Oper} {a : Act} {w w' : World} {ρ : List Own} {hp : List Blk} {sl : List D} {nid : Nat} {out : Out}

/-- a part of an aggregate -/
theorem part_rep {M : World} {t : TypeId} {n : Option Nat} {cs : List D} {vs : List Value} {off : Nat} {d : D} (hc : RepL K M ρ cs vs) (hn : shapeT P t = some n) (hd : ofCells n cs off = some d) :
    ∃ v, (part t vs.toArray off).run P w = .ok v w ∧ Rep K M ρ d v := by
  cases n with
  | none =>
    simp only [ofCells, getG_eq] at hd
    obtain ⟨v, g1, g2⟩ := repL_get hc hd
    exact ⟨v, by simp [part, run_isAgg' (shape_one hn).1, g1], g2⟩
  | some n =>
    simp only [ofCells, lenG_eq, takeG_eq, dropG_eq] at hd
    split at hd
    · obtain rfl := Option.some.inj hd
      refine ⟨.agg (vs.toArray.extract off (off + n)), by simp [part, run_isAgg' (shape_many hn).1, run_size (shape_many hn).2], ?_⟩
      simp only [Rep]
      refine ⟨(vs.drop off).take n, ?_, repL_take n (repL_drop _ hc)⟩
      rw [← drop_take_extract]
    · cases hd
theorem s_aidx {t e : TypeId} {x i : Operand} {len k : Nat} {s : Option Nat} (ho : o.op = .index t x i) (hu : P.underlying t = some (.array len e)) (hsh : shapeT P e = some s) (hsz : sizT P e = some k)
    (hs : Slots K (mask K w ρ) ρ sl a.tmps) (h : c_aidx sl hp nid s len k x i = some out) : Does P o a w (Res K w ρ hp nid out) := by
  have hx := evO_rep hs x
  have hi := evO_rep hs i
  unfold c_aidx at h
  split at h
  · rename_i cs kk n hd1 hd2
    rw [hd1] at hx
    rw [hd2] at hi
    simp only [Rep] at hx hi
    obtain ⟨vs, hx, hc⟩ := hx
    split at h
    · rename_i hb
      split at h
      · rename_i d hd
        obtain rfl := (Option.some.inj h).symm
        obtain ⟨v, g1, g2⟩ := part_rep (P := P) (w := w) hc hsh hd
        exact quiet (v := v) (by simp [execOp, ho, Instr.index, run_under hu, hx, hi, asIntOf, hb.1, hb.2, run_size hsz, g1]) g2
      · cases h
    · cases h
  · cases h
theorem s_sidx {t : TypeId} {x i : Operand} (ho : o.op = .index t x i) (hu : P.underlying t = some .string)
    (hs : Slots K (mask K w ρ) ρ sl a.tmps) (h : c_sidx sl hp nid x i = some out) : Does P o a w (Res K w ρ hp nid out) := by
  have hx := evO_rep hs x
  have hi := evO_rep hs i
  unfold c_sidx at h
  split at h
  · rename_i s kk n hd1 hd2
    rw [hd1] at hx
    rw [hd2] at hi
    simp only [Rep] at hx hi
    split at h
    · rename_i h0
      rw [getG_eq] at h
      split at h
      · rename_i b hb
        obtain rfl := (Option.some.inj h).symm
        have hlt : n.toNat < s.size := by
          have := (List.getElem?_eq_some_iff.1 hb).1
          rwa [bytesOfS_length] at this
        have hg : s[n.toNat]? = some b := by
          rw [ByteArray.getElem?_lt' s _ hlt]
          have : (bytesOfS s)[n.toNat]? = s.data[n.toNat]? := by simp [bytesOfS]
          rw [this] at hb
          rw [Array.getElem?_eq_getElem hlt] at hb
          exact hb
        exact quiet (v := .int .u8 b.toNat) (by simp [execOp, ho, Instr.index, run_under hu, hx, hi, asIntOf, h0, hg]) (by simp [byteV_eq, Rep])
      · cases h
    · cases h
  · cases h
theorem s_sslice {t : TypeId} {x : Operand} {lo hi : Option Operand} (ho : o.op = .slice t x lo hi none) (hu : P.underlying t = some .string)
    (hs : Slots K (mask K w ρ) ρ sl a.tmps) (h : c_sslice sl hp nid x lo hi = some out) : Does P o a w (Res K w ρ hp nid out) := by
  have hx := evO_rep hs x
  unfold c_sslice at h
  split at h
  · rename_i s hd
    rw [hd] at hx
    simp only [Rep] at hx
    split at h
    · rename_i l hh h1 h2
      split at h
      · rename_i hc
        obtain rfl := (Option.some.inj h).symm
        rw [bytesOfS_length] at h2 hc
        have r2 := boundN_run (P := P) (y := s.size) (code := .sliceAlen) hs h2 hc.2
        have r1 := boundN_run (P := P) (y := hh) (code := .sliceB) hs h1 hc.1
        refine quiet (v := .string (s.extract l hh)) ?_ (by simp [subB_eq, Rep])
        simp only [execOp, ho, Instr.sliceAt, run_under hu, Sem.run_bind, Result.andThen_ok, Instr.slice, hx, Instr.sliceBounds, Option.map_none, Sem.run_pure, Option.isSome_none, Bool.false_eq_true, if_false]
        rcases r2 with ⟨v2, rfl, r2⟩ | ⟨rfl, rfl⟩ <;> rcases r1 with ⟨v1, rfl, r1⟩ | ⟨rfl, rfl⟩ <;> simp [*]
      · cases h
    · cases h
  · cases h
theorem s_buildA {t e : TypeId} {parts : Array (Nat × Operand)} {z : List D} {n k : Nat} (ho : o.op = .build t parts) (hu : P.underlying t = some (.array n e)) (hz : zeroT P t = some z) (hk : sizT P e = some k)
    (hs : Slots K (mask K w ρ) ρ sl a.tmps) (h : c_build sl hp nid z (parts.toList.map fun p => (p.1 * k, k, p.2)) = some out) : Does P o a w (Res K w ρ hp nid out) := by
  unfold c_build at h
  split at h
  · rename_i ps hps
    split at h
    · rename_i cs hcs
      obtain rfl := (Option.some.inj h).symm
      obtain ⟨i, zv, z1, z2, z3⟩ := zeroT_some hz
      obtain ⟨q1, q2⟩ := partsD_get hs _ _ hps
      obtain ⟨rs, f1, f2⟩ := fill_rep (K := K) (ρ := ρ) (M := mask K w ρ) (place := fun i => some (i * k, k)) (parts.toList.map fun p => (p.1, a.eval p.2)) ps zv.cells z cs (by simp [q1]) (fun j i v off ds h1 h2 => by
        rw [List.getElem?_map] at h1
        cases hj : parts.toList[j]? with
        | none => rw [hj] at h1; cases h1
        | some p =>
          rw [hj] at h1
          simp at h1
          obtain ⟨rfl, rfl⟩ := h1
          obtain ⟨ds', r1, r2, r3⟩ := q2 j (p.1 * k) k p.2 (by rw [List.getElem?_map, hj]; rfl)
          rw [h2] at r1
          simp at r1
          obtain ⟨rfl, rfl⟩ := r1
          exact ⟨by rw [r2], r3⟩) (cellsD_rep (ofV_rep K _ _ zv) z3) hcs
      refine quiet (v := .agg rs) ?_ (by simp only [Rep]; exact ⟨rs.toList, by simp, f2⟩)
      simp only [execOp, ho, Instr.build, Sem.run_bind, run_zero z1 z2, Result.andThen_ok, run_under hu, run_size hk]
      have e : (parts.map fun (x : Nat × Operand) => (x.1, a.eval x.2)).toList = parts.toList.map fun p => (p.1, a.eval p.2) := by simp
      rw [e, f1]
      simp
    · cases h
  · cases h
/-- arrays of scalars are compared -/
theorem eqItems_run {M : World} {d : Nat} {e : TypeId} {k : Nat} {xs ys : Array Value} (hk : scalarK P e = some k) : ∀ (n i : Nat) (x y : List D) (t : Bool), eqCells (List.replicate n k) x y = some t →
    RepL K M ρ x (xs.toList.drop i) → RepL K M ρ y (ys.toList.drop i) → (Op.eqItems (d + 1) e 1 xs ys (List.range' i n)).run P w = .ok t w
  | 0, i, x, y, t, he, hx, hy => by
    cases x <;> cases y <;> simp [eqCells] at he
    subst he
    simp [Op.eqItems]
  | n + 1, i, x, y, t, he, hx, hy => by
    obtain ⟨u, v, x', y', t1, t2, rfl, rfl, hku, hkv, hb, hrest, rfl⟩ := eqCells_cons he
    clear he
    simp only [RepL] at hx hy
    obtain ⟨u', rx, ex, hu, hx⟩ := hx
    obtain ⟨v', ry, ey, hv, hy⟩ := hy
    simp only [Rep] at hu hv
    subst hu hv
    have gx : xs[i]? = some u' := by
      have := congrArg (·[0]?) ex
      simpa using this
    have gy : ys[i]? = some v' := by
      have := congrArg (·[0]?) ey
      simpa using this
    have dx : xs.toList.drop (i + 1) = rx := by rw [← List.drop_drop, ex]; rfl
    have dy : ys.toList.drop (i + 1) = ry := by rw [← List.drop_drop, ey]; rfl
    have ih := eqItems_run (d := d) hk n (i + 1) x' y' t2 hrest (by rw [dx]; exact hx) (by rw [dy]; exact hy)
    obtain ⟨hag, hkind⟩ := scalarK_agg hk
    have heq : (Op.equalIn (d + 1) e u' v').run P w = .ok t1 w := by
      rcases hkind with ⟨rfl, ik, hu⟩ | ⟨rfl, hu⟩ | ⟨rfl, hu⟩
      · cases u' <;> simp [kindOk] at hku
        cases v' <;> simp [kindOk] at hkv
        simp only [binV, int2V] at hb
        split at hb
        · rename_i hsk
          simp only [intV, intF, boolV, Option.some.injEq, Prod.mk.injEq, Value.bool.injEq, true_and] at hb
          have hsk' := hsk
          simp [sameK, isSh] at hsk'
          subst hsk'
          simp [Op.equalIn, run_under hu, hb]
        · cases hb
      · cases u' <;> simp [kindOk] at hku
        cases v' <;> simp [kindOk] at hkv
        simp only [binV, boV, boolV, Option.some.injEq, Prod.mk.injEq, Value.bool.injEq, true_and] at hb
        simp [Op.equalIn, run_under hu, hb]
      · cases u' <;> simp [kindOk] at hku
        cases v' <;> simp [kindOk] at hkv
        simp only [binV, strX, justV, strD, Option.some.injEq, Prod.mk.injEq, Value.bool.injEq, true_and] at hb
        rw [run_equalIn_string w d e _ _ hu, ← bytesOfS_eq, ← bytesOfS_eq, hb]
    have px : ∀ zs : Array Value, ∀ z, zs[i]? = some z → (part e zs (i * 1)).run P w = .ok z w := fun zs z hz => by
      simp [part, run_isAgg' hag, hz]
    simp only [List.range'_succ, Op.eqItems, Sem.run_bind]
    rw [px xs u' gx]
    simp only [Result.andThen_ok]
    rw [px ys v' gy]
    simp only [Result.andThen_ok, heq]
    cases t1
    · simp
    · simp [ih]
theorem s_eqArr {op : BinOp} {t t2 e : TypeId} {x y : Operand} {n k : Nat} {i : TypeInfo} (ho : o.op = .binOp op t x y t2) (hu : P.underlying t = some (.array n e)) (hk : scalarK P e = some k) (hi : P.info? e = some i) (hi1 : i.size = 1) (heg : P.eqGuardType P.depth t = false)
    (hs : Slots K (mask K w ρ) ρ sl a.tmps) (h : c_eqAgg sl hp nid op (List.replicate n k) x y = some out) : Does P o a w (Res K w ρ hp nid out) := by
  have hx := evO_rep hs x
  have hy := evO_rep hs y
  unfold c_eqAgg at h
  split at h
  · rename_i dx dy hdx hdy
    rw [hdx] at hx
    rw [hdy] at hy
    simp only [Rep] at hx hy
    obtain ⟨vx, hx, rx⟩ := hx
    obtain ⟨vy, hy, ry⟩ := hy
    split at h
    · rename_i r hr
      have hco : P.cellsOf e = 1 := by simp [Program.cellsOf, hi, hi1]
      have heq : (Op.equalIn 10000 t (.agg vx.toArray) (.agg vy.toArray)).run P w = .ok r w := by
        rw [run_equalIn_array w 9999 _ _ hu hi, hco, List.range_eq_range']
        exact eqItems_run (d := 9998) hk n 0 dx dy r hr (by simpa using rx) (by simpa using ry)
      have hg := run_eqGuard_agg (P := P) w op t x y vx.toArray vy.toArray heg
      split at h
      · obtain rfl := (Option.some.inj h).symm
        refine quiet (v := .bool r) ?_ (by simp [Rep])
        simp only [execOp, ho, hx, hy, Sem.run_bind, hg, Result.andThen_ok, run_eql_struct, heq, Sem.run_pure]
      · obtain rfl := (Option.some.inj h).symm
        refine quiet (v := .bool (!r)) ?_ (by simp [Rep])
        simp only [execOp, ho, hx, hy, Sem.run_bind, hg, Result.andThen_ok, run_neq_struct, heq, Sem.run_pure]
      · cases h
    · cases h
  · cases h
/-- the world has grown, and nothing of it is one's own -/
theorem Eff.foreign (hsz : w.heap.size ≤ w'.heap.size) (hkeep : ∀ b : Nat, b < w.heap.size → w'.heap[b]? = w.heap[b]?) (he : Env w w') : Eff K w ρ hp nid w' ρ [] [] := by
  have hm : Sub (mask K w ρ) (mask K w' ρ) := fun b cs ty fr hb => by
    rw [mask_some] at *
    exact ⟨hb.1, by rw [hkeep b (lt_of_cells hb.2)]; exact hb.2⟩
  refine ⟨hsz, fun b hb _ => hkeep b hb, fun b hb => .inl hb, rfl, OwnLe.refl ρ, fun hp2 _ hk2 => ?_, fun i _ _ => ⟨fun x hx => (by cases hx), rfl⟩, fun i h _ => h, he⟩
  show OK K w' ρ (hp2 ++ [])
  rw [List.append_nil]
  exact ⟨hk2.len, fun i b n hi => Nat.lt_of_lt_of_le (hk2.lt i b n hi) hsz, hk2.inj, fun i x hx => (hk2.blk i x hx).mono hm (OwnLe.refl ρ) (fun b n ho => hkeep b (hk2.lt i b n (own_live ho))), fun b hb => Nat.lt_of_lt_of_le (hk2.hid b hb) hsz, hk2.apart⟩
theorem isU8_some {e : TypeId} (h : isU8 P e = true) : P.underlying e = some (.int .u8) := by
  unfold isU8 at h
  split at h
  · assumption
  · cases h
theorem bytesD_get {s : ByteArray} {i : Nat} {d : D} (h : (bytesD s)[i]? = some d) : i < s.size ∧ d = .val (.int .u8 (s.data.toList.getD i 0).toNat) := by
  unfold bytesD at h
  rw [List.getElem?_map] at h
  cases hb : (bytesOfS s)[i]? with
  | none => rw [hb] at h; cases h
  | some b =>
    rw [hb] at h
    simp only [Option.map_some, Option.some.injEq] at h
    have hl := (List.getElem?_eq_some_iff.1 hb).1
    refine ⟨hl, ?_⟩
    rw [← h, byteV_eq, List.getD_eq_getElem?_getD]
    unfold bytesOfS at hb
    rw [hb]
    rfl
theorem s_s2b {s d e : TypeId} {x : Operand} (ho : o.op = .convert s d x) (h1 : P.underlying s = some .string) (h2 : P.underlying d = some (.slice e)) (h3 : isU8 P e = true) (hk : OK K w ρ hp)
    (hs : Slots K (mask K w ρ) ρ sl a.tmps) (h : c_s2b sl hp nid x = some out) : Does P o a w (Res K w ρ hp nid out) := by
  have hx := evO_rep hs x
  have he := isU8_some h3
  unfold c_s2b at h
  split at h
  · rename_i u hu
    rw [hu] at hx
    simp only [Rep] at hx
    have run : (execOp a.eval o).run P w = .ok (.value (.slice (some ⟨w.heap.size, 0, none⟩) u.size (grownCap w u.size 0 e))) (Lib.bytesWorld w e u) := by
      simp [execOp, ho, hx, Lib.run_convert_string_bytes w s d e u h1 h2 he]
    have hE : Eff K w ρ hp nid (Lib.bytesWorld w e u) ρ [] [] :=
      Eff.foreign (by rw [Lib.bytesWorld_size]; omega) (fun b hb => Lib.bytesWorld_at_old w e u b hb) ⟨rfl, rfl, rfl⟩
    have hcap : u.size ≤ grownCap w u.size 0 e := by
      simp [grownCap, Question.cut]
    split at h
    · rename_i hnil
      obtain rfl := (Option.some.inj h).symm
      refine does_value run ⟨ρ, ?_, hE⟩
      simp only [Rep]
      have h0 : u.size = 0 := by rw [← bytesD_length, hnil]; rfl
      exact ⟨_, _, _, by rw [h0], by simp⟩
    · rename_i d l hl
      rw [forceL_eq] at h
      obtain rfl := (Option.some.inj h).symm
      refine does_value run ⟨ρ, ?_, hE⟩
      simp only [Rep]
      have hlen : l.length + 1 = u.size := by rw [← bytesD_length, hl]; rfl
      refine .inr ⟨w.heap.size, 0, _, by rw [hlen], by omega, fun i hi => ?_⟩
      have hget : ∃ d', (bytesD u)[i]? = some d' := ⟨_, List.getElem?_eq_getElem (by rw [bytesD_length]; omega)⟩
      obtain ⟨d', hd'⟩ := hget
      obtain ⟨hlt, rfl⟩ := bytesD_get hd'
      rw [hl] at hd'
      unfold byteAt
      rw [getG_eq, hd']
      simp only [RepC, and_true]
      refine ⟨.int .u8 (u.data.toList.getD i 0).toNat, ?_, by simp [Rep]⟩
      have hc := Lib.bytesWorld_cell w e u i hlt
      have hnl : ¬ isLive K ρ w.heap.size := by
        rintro (hh | ⟨j, m, hj⟩)
        · exact Nat.lt_irrefl _ (hk.hid _ hh)
        · exact Nat.lt_irrefl _ (hk.lt _ _ _ hj)
      have hm : (mask K (Lib.bytesWorld w e u) ρ).heap[w.heap.size]? = (Lib.bytesWorld w e u).heap[w.heap.size]? := by
        rw [Lib.bytesWorld_at_new]
        exact mask_some.2 ⟨hnl, Lib.bytesWorld_at_new w e u⟩
      unfold World.cell? at hc ⊢
      rw [show 0 + i * 1 = i by omega]
      simp only at hc ⊢
      rw [hm]
      exact hc
  · cases h
theorem bytesB_map : ∀ {cs : List D} {l : List UInt8}, bytesB cs = some l → ∃ ns : List Int, cs = ns.map (fun n => D.val (.int .u8 n)) ∧ l = ns.map fun n => UInt8.ofNat n.toNat
  | [], l, h => by simp only [bytesB] at h; cases h; exact ⟨[], rfl, rfl⟩
  | d :: cs, l, h => by
    unfold bytesB at h
    split at h
    · simp at *
    · rename_i n l' heq
      cases heq
      split at h
      · rename_i r hr
        cases h
        obtain ⟨ns, rfl, rfl⟩ := bytesB_map hr
        exact ⟨n :: ns, rfl, rfl⟩
      · cases h
    · cases h
theorem repL_vals {M : World} : ∀ {ns : List Int} {vs : List Value}, RepL K M ρ (ns.map (fun n => D.val (.int .u8 n))) vs → vs = ns.map (Value.int .u8)
  | [], vs, h => by simpa [RepL] using h
  | n :: ns, vs, h => by
    simp only [List.map_cons, RepL] at h
    obtain ⟨x, r, rfl, hx, h⟩ := h
    simp only [Rep] at hx
    rw [hx, repL_vals h]
    rfl
theorem push_bytes (ns : List Int) : ∀ (s : ByteArray), ns.foldl (fun r n => r.push (UInt8.ofNat n.toNat)) s = ⟨⟨s.data.toList ++ ns.map fun n => UInt8.ofNat n.toNat⟩⟩ := by
  induction ns with
  | nil => intro s; cases s; simp
  | cons n ns ih =>
    intro s
    rw [List.foldl_cons, ih]
    simp [ByteArray.push]
theorem s_b2s {s d e : TypeId} {x : Operand} (ho : o.op = .convert s d x) (h1 : P.underlying s = some (.slice e)) (h2 : P.underlying d = some .string) (h3 : isU8 P e = true) (hk : OK K w ρ hp)
    (hs : Slots K (mask K w ρ) ρ sl a.tmps) (h : c_b2s sl hp nid x = some out) : Does P o a w (Res K w ρ hp nid out) := by
  have hx := evO_rep hs x
  have he := isU8_some h3
  unfold c_b2s at h
  split at h
  · rename_i n cs hcs
    split at h
    · rename_i l hl
      obtain rfl := (Option.some.inj h).symm
      obtain ⟨q, c, ex, hnc, lA, hq0, vs, lvs, rA, fA⟩ := contents_run (P := P) hk hx hcs
      obtain ⟨ns, rfl, rfl⟩ := bytesB_map hl
      obtain rfl := repL_vals rA
      have hf := fA n (Nat.le_refl _) w rfl
      rw [List.take_of_length_le (by omega)] at hf
      refine quiet (v := .string ⟨⟨ns.map fun n => UInt8.ofNat n.toNat⟩⟩) ?_ (by simp [Rep])
      rw [ex] at hf
      simp only [execOp, ho, ex, Sem.run_bind]
      rw [run_convert_bytes_string w s d e q n c h1 he h2]
      cases q with
      | none =>
        have h0 := hq0 rfl
        subst h0
        have : ns = [] := by
          simp at lA
          exact lA
        subst this
        simp [Conv.bytesToString, Sem.run_pure]
        rfl
      | some q =>
        simp only [Builtin.firstCells, Nat.mul_one] at hf
        rw [run_bytesToString w q n c ns hf, push_bytes]
        simp
    · cases h
  · cases h
theorem s_mkI {t : TypeId} {x : Operand} {d : TypeDesc} (ho : o.op = .makeInterface t x) (hu : P.underlying t = some d) (hd : ∀ ms, d ≠ .interface ms)
    (hs : Slots K (mask K w ρ) ρ sl a.tmps) (h : c_mkI sl hp nid t x = some out) : Does P o a w (Res K w ρ hp nid out) := by
  have hx := evO_rep hs x
  obtain rfl := (Option.some.inj h).symm
  refine quiet (v := .iface t (a.eval x)) ?_ (by simp only [Rep]; exact ⟨_, rfl, hx⟩)
  simp only [execOp, ho, Instr.makeInterface, Sem.run_bind, run_under hu, Result.andThen_ok]
  cases d with
  | interface ms => exact absurd rfl (hd ms)
  | _ => simp
theorem ixb_find {fn : Func} (h : fn.name = "internal/bytealg.IndexByteString") : Extern.find fn = some Extern.BytealgIndexByte.indexByte := by
  unfold Extern.find
  rw [h]
  kernel_rfl
theorem find_congr {α : Type} {p q : α → Bool} : ∀ {l : List α}, (∀ i ∈ l, p i = q i) → l.find? p = l.find? q
  | [], _ => rfl
  | x :: l, h => by
    rw [List.find?_cons, List.find?_cons, h x (List.mem_cons_self ..), find_congr fun i hi => h i (List.mem_cons_of_mem _ hi)]
theorem s_ixb {c : Call} {f : FuncId} {x y : Operand} (ho : o.op = .call c) (hc : c.callee = .value (.func f)) (hca : c.args.toList = [x, y]) (hf : isIxb P f = true)
    (hs : Slots K (mask K w ρ) ρ sl a.tmps) (h : c_ixb sl hp nid x y = some out) : Does P o a w (Res K w ρ hp nid out) := by
  have hx := evO_rep hs x
  have hy := evO_rep hs y
  have hca' : c.args = #[x, y] := by apply Array.ext'; simpa using hca
  unfold isIxb at hf
  split at hf
  · rename_i fn hfn
    simp only [Bool.and_eq_true, beq_iff_eq, Bool.not_eq_true', Option.isNone_iff_eq_none] at hf
    obtain ⟨⟨⟨hb, hname⟩, hng⟩, hnext⟩ := hf
    unfold c_ixb at h
    split at h
    · rename_i s n hd1 hd2
      rw [hd1] at hx
      rw [hd2] at hy
      simp only [Rep] at hx hy
      have run : (execOp a.eval o).run P w = .ok (.value (.int .i64 (firstIdx s n.toNat.toUInt8))) w := by
        have h1 := run_callFunc_extern (P := P) hfn (by simpa using hng) (by simp [hb]) hnext (ixb_find hname) #[.string s, .int .u8 n] w
        rw [run_indexByte_string] at h1
        have e : (c.args.map a.eval) = #[.string s, .int .u8 n] := by rw [hca']; simp [hx, hy]
        simp [execOp, ho, resolve, hc, Act.eval, Deferred.ofValue, invoke]
        rw [e, h1]
        rfl
      have hfi : firstIdx s n.toNat.toUInt8 = match findB s n with | some i => (i : Int) | none => -1 := by
        unfold firstIdx findB
        have : (List.range s.size).find? (fun i => s[i]! == n.toNat.toUInt8) = (List.range (bytesOfS s).length).find? (fun i => (bytesOfS s).getD i 0 == UInt8.ofNat n.toNat) := by
          rw [bytesOfS_length]
          refine find_congr fun i hi => ?_
          have hi' : i < s.size := List.mem_range.1 hi
          have : s[i]! = (bytesOfS s).getD i 0 := by
            rw [getElem!_pos s i hi', List.getD_eq_getElem?_getD]
            have h2 : i < s.data.size := hi'
            have h3 : (bytesOfS s)[i]? = some s.data[i] := by simp [bytesOfS, h2]
            rw [h3]
            rfl
          rw [this]
        rw [this]
        generalize List.find? _ _ = r
        cases r <;> rfl
      rw [hfi] at run
      split at h
      · rename_i i hi
        obtain rfl := (Option.some.inj h).symm
        rw [hi] at run
        exact quiet run (by simp [Rep])
      · rename_i hi
        obtain rfl := (Option.some.inj h).symm
        rw [hi] at run
        exact quiet run (by simp [Rep])
    · cases h
  · cases hf
end
end Go.Ev
end
