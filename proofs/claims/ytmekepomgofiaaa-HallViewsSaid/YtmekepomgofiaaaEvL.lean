import Derived.Test.YtmekepomgofiaaaEvK
set_option linter.all false
namespace Go.Ev
section
variable {K : Cust} {P : Program} {o : Oper} {a : Act} {w w' : World} {ρ : List Own} {hp : List Blk} {sl : List D} {nid : Nat} {out : Out}

theorem reads_append {M : World} {x y : List D} {b q : Nat} (h1 : Reads K w M ρ x b q) (h2 : Reads K w M ρ y b (q + x.length)) : Reads K w M ρ (x ++ y) b q := by
  intro j d hj
  by_cases hl : j < x.length
  · rw [List.getElem?_append_left hl] at hj
    exact h1 j d hj
  · rw [List.getElem?_append_right (by omega)] at hj
    have := h2 _ d hj
    rw [show q + x.length + (j - x.length) = q + j by omega] at this
    exact this
theorem reads_flat {M : World} {b q k : Nat} {f : Nat → List D} : ∀ n : Nat, (∀ i, i < n → (f i).length = k) → (∀ i, i < n → Reads K w M ρ (f i) b (q + i * k)) →
    Reads K w M ρ ((List.range n).flatMap f) b q ∧ ((List.range n).flatMap f).length = n * k
  | 0, _, _ => ⟨fun j d hj => by simp at hj, by simp⟩
  | n + 1, h1, h2 => by
    obtain ⟨g1, g2⟩ := reads_flat n (fun i hi => h1 i (by omega)) (fun i hi => h2 i (by omega))
    rw [List.range_succ, List.flatMap_append]
    have e : [n].flatMap f = f n := by simp
    rw [e]
    refine ⟨reads_append g1 (by rw [g2]; exact h2 n (by omega)), ?_⟩
    rw [List.length_append, g2, h1 n (by omega), Nat.add_mul, Nat.one_mul]
theorem reads_heap {M : World} {cs : List D} {b q : Nat} {w2 : World} (hw : w2.heap = w.heap) (h : Reads K w M ρ cs b q) : Reads K w2 M ρ cs b q := fun j d hj => by
  obtain ⟨x, h1, h2⟩ := h j d hj
  exact ⟨x, by unfold World.cell? at *; rw [hw]; exact h1, h2⟩
/-- the first elements of a slice -/
theorem contents_run {d : D} {v : Value} {k n : Nat} {cs : List D} (hk : OK K w ρ hp) (hd : Rep K (mask K w ρ) ρ d v) (hc : contents hp k d = some (n, cs)) :
    ∃ q c, v = .slice q n c ∧ n ≤ c ∧ cs.length = n * k ∧ (q = none → n = 0) ∧ ∃ vs : List Value, vs.length = n * k ∧ RepL K (mask K w ρ) ρ cs vs ∧
      ∀ m, m ≤ n → ∀ w2 : World, w2.heap = w.heap → (Builtin.firstCells k m v).run P w2 = .ok (vs.take (m * k)).toArray w2 := by
  have main : ∀ b q c, v = .slice (some ⟨b, q, none⟩) n c → n ≤ c → Reads K w (mask K w ρ) ρ cs b q → cs.length = n * k → ∃ q c, v = .slice q n c ∧ n ≤ c ∧ cs.length = n * k ∧ (q = none → n = 0) ∧ ∃ vs : List Value, vs.length = n * k ∧ RepL K (mask K w ρ) ρ cs vs ∧
      ∀ m, m ≤ n → ∀ w2 : World, w2.heap = w.heap → (Builtin.firstCells k m v).run P w2 = .ok (vs.take (m * k)).toArray w2 := by
    intro b q c hv hnc hr hl
    obtain ⟨vs, g1, g2, g3⟩ := reads_vals hr 0 (n * k) (by omega)
    refine ⟨_, c, hv, hnc, hl, by simp, vs, g1, ?_, fun m hm w2 hw2 => ?_⟩
    · rw [List.drop_zero, List.take_of_length_le (by omega)] at g3; exact g3
    · subst hv
      simp only [Builtin.firstCells]
      have hmk : m * k ≤ n * k := Nat.mul_le_mul_right _ hm
      have e : (vs.take (m * k)).length = m * k := by simp; omega
      have := run_loadCells (P := P) (w := w2) (b := b) (o := q) (vs.take (m * k)) (fun j u hj => by
        rw [List.getElem?_take] at hj
        split at hj
        · have := g2 j u hj
          rw [Nat.add_zero] at this
          unfold World.cell? at *
          rw [hw2]
          exact this
        · cases hj)
      rw [e] at this
      exact this
  unfold contents at hc
  split at hc
  · simp only [Rep] at hd
    obtain ⟨rfl, rfl⟩ := some_pair hc
    subst hd
    exact ⟨_, _, rfl, Nat.zero_le _, by simp, fun _ => rfl, [], by simp, by simp [RepL], fun m hm w2 _ => by simp [Builtin.firstCells]⟩
  · rename_i id off len k' cap
    split at hc
    · rename_i hkk
      subst hkk
      split at hc
      · rename_i cs' hcs
        split at hc
        · rename_i hle
          obtain ⟨rfl, rfl⟩ := some_pair hc
          obtain ⟨b, n', ho1, hb⟩ := cellsAt_own hk hcs
          simp only [Rep, ho1] at hd
          obtain ⟨c, hd, h1, _⟩ := hd
          have hr := own_reads hb
          refine main b off c hd h1 (fun j d hj => ?_) (by simp; omega)
          rw [List.getElem?_take] at hj
          split at hj
          · rw [List.getElem?_drop] at hj
            have := hr _ d hj
            rw [Nat.zero_add] at this
            exact this
          · cases hj
        · cases hc
      · cases hc
    · cases hc
  · rename_i k' len f
    split at hc
    · rename_i hkk
      obtain ⟨rfl, hall⟩ := hkk
      obtain ⟨rfl, rfl⟩ := some_pair hc
      simp only [Rep] at hd
      rcases hd with ⟨rfl, rfl⟩ | ⟨b, q, c, hd, h1, hcells⟩
      · exact ⟨_, _, rfl, Nat.zero_le _, by simp, fun _ => rfl, [], by simp, by simp [RepL], fun m hm w2 _ => by simp [Builtin.firstCells]⟩
      · have hall' : ∀ i, i < len → (f i).length = k' := fun i hi => by
          have := List.all_eq_true.1 hall i (List.mem_range.2 hi)
          exact eq_of_beq this
        obtain ⟨g1, g2⟩ := reads_flat len hall' (fun i hi => repC_reads (mask_sub K w ρ) (hcells i hi))
        exact main b q c hd h1 g1 g2
    · cases hc
  · rename_i z
    obtain ⟨rfl, rfl⟩ := some_pair hc
    simp only [Rep] at hd
    obtain ⟨q, q2, c, rfl, _⟩ := hd
    refine ⟨_, _, rfl, Nat.zero_le _, by simp, fun h => (by cases h), [], by simp, by simp [RepL], fun m hm w2 _ => ?_⟩
    obtain rfl : m = 0 := by omega
    simp [Builtin.firstCells, loadCells, loadCellsFrom]
  · cases hc

theorem growBy_le (n : Nat) : ∀ (r c : Nat), c ≤ 2 * n + 2000 → Builtin.growBy n r c ≤ 2 * n + 2000
  | 0, c, h => h
  | r + 1, c, h => by
    unfold Builtin.growBy
    split
    · exact h
    · exact growBy_le n r _ (by omega)
theorem nextcap_le {n c : Nat} (h : c < n) : Builtin.nextslicecap n c ≤ 2 * n + 2000 := by
  unfold Builtin.nextslicecap
  split
  · omega
  · split
    · omega
    · exact growBy_le n 4 c (by omega)
theorem lenOf_slice {q : Option Addr} {n c : Nat} : (Builtin.lenOf (.slice q n c)).run P w = .ok n w := rfl
/-- append into what is there -/
theorem append_in {c : Call} {x y : Operand} {t u e : TypeId} {ud : TypeDesc} {k n m cap : Nat} {q : Option Addr} {vx : List Value} (ho : o.op = .call c) (hc : c.callee = .builtin .append) (hca : c.args.toList = [x, y]) (ht : c.argTypes[0]? = some t) (hu : c.argTypes[1]? = some u)
    (he : elemT P t = some e) (hue : P.underlying u = some ud) (hud : ∀ k, ud ≠ .int k) (hsz : sizT P e = some k) (hx : a.eval x = .slice q n cap) (hly : ∀ w2 : World, (Builtin.lenOf (a.eval y)).run P w2 = .ok m w2) (hnew : (Builtin.firstCells k m (a.eval y)).run P w = .ok vx.toArray w) (hle : n + m ≤ cap) :
    (execOp a.eval o).run P w = (match q with | some b => (storeCells (b.add (n * k)) vx).run P w | none => .ok () w).andThen fun _ w' => .ok (.value (.slice q (n + m) cap)) w' := by
  have hca' : c.args = #[x, y] := by apply Array.ext'; simpa using hca
  have ht' : c.argTypes[0]? = some t := ht
  have hz : (ud matches .int _) = false := by
    cases ud <;> first | rfl | exact absurd rfl (hud _)
  generalize hvy : a.eval y = vy at hnew hly
  simp [execOp, ho, resolve, hc, invoke, Go.builtin, hca', Builtin.append_, ht', hu, run_under (elemT_some he), run_under hue, hx, hvy, run_size hsz, hly, hz, hle, hnew]
  cases q with
  | none => simp
  | some b =>
    simp
    cases (storeCells (b.add (n * k)) vx).run P w <;> rfl
/-- append into a new row -/
theorem append_new {c : Call} {x y : Operand} {t u e : TypeId} {ud : TypeDesc} {i : TypeInfo} {zv : Value} {n m cap : Nat} {q : Option Addr} {vs vx : List Value} (ho : o.op = .call c) (hc : c.callee = .builtin .append) (hca : c.args.toList = [x, y]) (ht : c.argTypes[0]? = some t) (hu : c.argTypes[1]? = some u)
    (he : elemT P t = some e) (hue : P.underlying u = some ud) (hud : ∀ k, ud ≠ .int k) (hi : P.info? e = some i) (hz : i.zero = some zv) (hbytes : i.bytes ≤ 65536) (hbound : n + m ≤ 1048576) (hx : a.eval x = .slice q n cap) (hly : ∀ w2 : World, (Builtin.lenOf (a.eval y)).run P w2 = .ok m w2)
    (hold : ∀ w2 : World, w2.heap = w.heap → (Builtin.firstCells i.size n (a.eval x)).run P w2 = .ok vs.toArray w2) (hnew : ∀ w2 : World, w2.heap = w.heap → (Builtin.firstCells i.size m (a.eval y)).run P w2 = .ok vx.toArray w2) (hgt : cap < n + m) :
    ∃ nc dr, n + m ≤ nc ∧ (execOp a.eval o).run P w = .ok (.value (.slice (some ⟨w.heap.size, 0, none⟩) (n + m) nc)) { w with heap := w.heap.push (Obj.cells ((vs ++ vx).toArray ++ Builtin.zeroCells zv.cells (nc - (n + m))) e (0, 0)), drawn := dr } := by
  have hca' : c.args = #[x, y] := by apply Array.ext'; simpa using hca
  have hsz : sizT P e = some i.size := by simp [sizT, hi]
  have hnle : ¬ (n + m ≤ cap) := by omega
  have hnc := nextcap_le hgt
  have hroom : ¬ (Builtin.nextslicecap (n + m) cap * i.bytes > 2 ^ 48) := by
    have : Builtin.nextslicecap (n + m) cap * i.bytes ≤ 2099152 * 65536 := Nat.mul_le_mul (by omega) hbytes
    omega
  have hmax : ¬ (((n + m : Nat) : Int) > IntKind.i64.max) := by
    simp only [IntKind.max, IntKind.signed, IntKind.bits]
    omega
  refine ⟨(Question.appendCap (n + m) cap e).cut (w.tape w.drawn (.appendCap (n + m) cap e)), w.drawn + 1, by simp [Question.cut], ?_⟩
  generalize hg : (Question.appendCap (n + m) cap e).cut (w.tape w.drawn (.appendCap (n + m) cap e)) = nc
  have hch : (choose (.appendCap (n + m) cap e)).run P w = .ok nc { w with drawn := w.drawn + 1 } := by
    simp [choose, Sem.run, Question.forced, hg]
  have hask : ∀ w2 : World, (askRoom (nc * i.bytes)).run P w2 = .ok () w2 := fun w2 => by
    unfold askRoom
    split <;> simp [mark, Sem.run]
  rw [hx] at hold
  have hzz : (ud matches .int _) = false := by
    cases ud <;> first | rfl | exact absurd rfl (hud _)
  generalize hvy : a.eval y = vy at hnew hly
  have h1 := hold w.drew rfl
  have h2 := hnew w.drew rfl
  simp only [execOp, ho, resolve, hc, invoke, Go.builtin, hca', Sem.run_bind, Sem.run_pure, Result.andThen_ok]
  simp only [Builtin.append_, ht, hu, List.map_toArray, List.map_cons, List.map_nil, hx, hvy]
  have hmax2 : ¬ ((9223372036854775807 : Int) < (n : Int) + (m : Int) ∧ i.bytes = 0) := by omega
  have hf : (Question.appendCap (n + m) cap e).forced = false := rfl
  simp [run_under (elemT_some he), run_under hue, run_size hsz, hly, hzz, hnle, hmax2, run_info hi, hroom, hf, hg, hask, h1, h2, run_zero hi hz, newRow, newObj, Sem.run]
  have e1 : vs.toArray ++ (vx.toArray ++ Builtin.zeroCells zv.cells (nc - (n + m))) = (vs ++ vx).toArray ++ Builtin.zeroCells zv.cells (nc - (n + m)) := by
    apply Array.ext'
    simp
  rw [e1]
  rfl
theorem zeroCells_size (z : Array Value) (n : Nat) : (Builtin.zeroCells z n).size = n * z.size := by simp [Builtin.zeroCells]
theorem s_appendG {c : Call} {x y : Operand} {t u e : TypeId} {ud : TypeDesc} {i : TypeInfo} {z : List D} {n m : Nat} {A B : List D} {vx : List Value} (ho : o.op = .call c) (hc : c.callee = .builtin .append) (hca : c.args.toList = [x, y]) (ht : c.argTypes[0]? = some t) (hu : c.argTypes[1]? = some u)
    (he : elemT P t = some e) (hue : P.underlying u = some ud) (hud : ∀ k, ud ≠ .int k) (hi : P.info? e = some i) (hz : zeroT P e = some z) (hzl : z.length = i.size) (hk0 : 0 < i.size) (hbytes : i.bytes ≤ 65536) (hk : OK K w ρ hp) (hn : ρ[nid]? = some .fresh)
    (hs : Slots K (mask K w ρ) ρ sl a.tmps) (hA : contents hp i.size (evO sl x) = some (n, A)) (lB : B.length = m * i.size) (hly : ∀ w2 : World, (Builtin.lenOf (a.eval y)).run P w2 = .ok m w2) (lvx : vx.length = m * i.size) (rB : RepL K (mask K w ρ) ρ B vx)
    (hnew : ∀ w2 : World, w2.heap = w.heap → (Builtin.firstCells i.size m (a.eval y)).run P w2 = .ok vx.toArray w2) (hnm : n + m ≤ 1048576) (hall : B.all okCell = true) (h : appendTo hp nid i.size n m A B (evO sl x) = some out) : Does P o a w (Res K w ρ hp nid out) := by
  have hx := evO_rep hs x
  have hsz : sizT P e = some i.size := by simp [sizT, hi]
  obtain ⟨i', zv, z1, z2, z3⟩ := zeroT_some hz
  rw [hi] at z1
  cases z1
  have hzr := cellsD_rep (ofV_rep K (mask K w ρ) ρ zv) z3
  have hzs : zv.cells.size = i.size := by
    have := repL_length hzr
    simp at this
    omega
  obtain ⟨q, cap, ex, hncap, lA, hq0, vs, lvs, rA, fA⟩ := contents_run (P := P) hk hx hA
  have hold : ∀ w2 : World, w2.heap = w.heap → (Builtin.firstCells i.size n (a.eval x)).run P w2 = .ok vs.toArray w2 := fun w2 hw2 => by
    have := fA n (Nat.le_refl _) w2 hw2
    rwa [List.take_of_length_le (by omega)] at this
  -- a new row
  have fresh : cap < n + m → ∀ p, Does P o a w (Res K w ρ hp nid ⟨p, .sl nid 0 (n + m) i.size none, [(nid, .cells (A ++ B))], []⟩) := fun hgt p => by
    obtain ⟨nc, dr, hnc, hrun⟩ := append_new ho hc hca ht hu he hue hud hi z2 hbytes hnm ex hly hold hnew hgt
    have hbs : ((vs ++ vx).toArray ++ Builtin.zeroCells zv.cells (nc - (n + m))).size = nc * i.size := by
      rw [Array.size_append, zeroCells_size, hzs]
      simp only [List.size_toArray, List.length_append, lvs, lvx]
      rw [← Nat.add_mul, ← Nat.add_mul, show n + m + (nc - (n + m)) = nc by omega]
    refine does_value hrun ⟨ρ.set nid (.live w.heap.size ((vs ++ vx).toArray ++ Builtin.zeroCells zv.cells (nc - (n + m))).size), ?_, ?_⟩
    · simp only [Rep, own_set_same hn]
      exact ⟨nc, rfl, hnc, by omega, by omega⟩
    · refine Eff.new_block rfl hn hk.lt fun hsub => ⟨_, (e, (0, 0)), by simp, ⟨rfl, .inl rfl⟩, ?_⟩
      intro j d hj
      have hab := repL_append rA rB
      obtain ⟨v, g1, g2⟩ := repL_get hab hj
      refine ⟨v, ?_, Rep.mono hsub (fresh_le hn) _ _ g2⟩
      have hjl : j < (vs ++ vx).length := (List.getElem?_eq_some_iff.1 g1).1
      rw [Array.getElem?_append_left (by simpa using hjl)]
      simpa using g1
  unfold appendTo at h
  split at h
  · rename_i hd
    rw [hd] at hx
    simp only [Rep] at hx
    rw [hx] at ex
    cases ex
    split at h
    · obtain rfl := (Option.some.inj h).symm
      exact fresh (by omega) none
    · obtain rfl := (Option.some.inj h).symm
      have hm0 : m = 0 := by omega
      subst hm0
      have r := append_in ho hc hca ht hu he hue hud hsz hx hly (hnew w rfl) (by omega)
      simp only [Result.andThen_ok] at r
      exact quiet r (by simp [Rep])
  · rename_i zf hd
    rw [hd] at hx
    simp only [Rep] at hx
    obtain ⟨q', o', c', hx, hz0⟩ := hx
    rw [hx] at ex
    cases ex
    split at h
    · split at h
      · have := hz0 rfl
        obtain rfl := (Option.some.inj h).symm
        exact fresh (by omega) none
      · cases h
    · obtain rfl := (Option.some.inj h).symm
      have hm0 : m = 0 := by omega
      subst hm0
      obtain rfl : vx = [] := by
        rw [Nat.zero_mul] at lvx
        exact List.eq_nil_of_length_eq_zero lvx
      have r := append_in ho hc hca ht hu he hue hud hsz hx hly (hnew w rfl) (by omega)
      simp only [storeCells, Sem.run_pure, Result.andThen_ok] at r
      exact quiet r (by simp only [Rep]; exact ⟨q', o', _, rfl, hz0⟩)
  · rename_i id off n' k' capo hd
    rw [hd] at hx hA
    split at h
    · split at h
      · rename_i cs hcs
        obtain ⟨b, N, ho1, hb⟩ := cellsAt_own hk hcs
        split at h
        · rename_i hc3
          obtain ⟨rfl, rfl, hlen⟩ := hc3
          obtain rfl := (Option.some.inj h).symm
          simp only [Rep, ho1] at hx
          obtain ⟨c', hx, h1, h2, h3⟩ := hx
          rw [hx] at ex
          cases ex
          have hAcs : A = cs := by
            unfold contents at hA
            simp only [if_true, hcs] at hA
            split at hA
            · obtain ⟨_, rfl⟩ := some_pair hA
              simp [hlen]
            · cases hA
          subst hAcs
          obtain ⟨vb, ty, g1, g2, g3⟩ := hb
          have hv : hp[id]? ≠ some .dead := fun e => by unfold cellsAt at hcs; rw [getG_eq, e] at hcs; cases hcs
          have hidne : id ≠ nid := fun e => by
            have := own_live ho1
            rw [e, hn] at this
            cases this
          rcases Nat.lt_or_ge cap (n + m) with hgt | hle
          · obtain ⟨nc, dr, hnc, hrun⟩ := append_new ho hc hca ht hu he hue hud hi z2 hbytes hnm hx hly hold hnew hgt
            have hbs : ((vs ++ vx).toArray ++ Builtin.zeroCells zv.cells (nc - (n + m))).size = nc * i.size := by
              rw [Array.size_append, zeroCells_size, hzs]
              simp only [List.size_toArray, List.length_append, lvs, lvx]
              rw [← Nat.add_mul, ← Nat.add_mul, show n + m + (nc - (n + m)) = nc by omega]
            refine does_value hrun ⟨(ρ.set id .dead).set nid (.live w.heap.size ((vs ++ vx).toArray ++ Builtin.zeroCells zv.cells (nc - (n + m))).size), ?_, ?_⟩
            · have hnl : nid < (ρ.set id Own.dead).length := by simpa using (List.getElem?_eq_some_iff.1 hn).1
              simp only [Rep, own_set hnl, if_true]
              exact ⟨nc, rfl, hnc, by omega, by omega⟩
            · refine Eff.shift (own_live ho1) hv hn hk (by simp) (fun c hcl _ => by rw [Array.getElem?_push_lt hcl, Array.getElem?_eq_getElem hcl]) (.inr rfl) (by simp) fun hsub hle => ⟨_, (e, (0, 0)), by simp, ⟨rfl, .inl rfl⟩, ?_⟩
              intro j d hj
              have hab := repL_append rA rB
              obtain ⟨v, q1, q2⟩ := repL_get hab hj
              refine ⟨v, ?_, Rep.mono hsub hle _ _ q2⟩
              have hjl : j < (vs ++ vx).length := (List.getElem?_eq_some_iff.1 q1).1
              rw [Array.getElem?_append_left (by simpa using hjl)]
              simpa using q1
          · have r := append_in ho hc hca ht hu he hue hud hsz hx hly (hnew w rfl) hle
            simp only [addr_add] at r
            have hin : 0 + n * i.size + 0 + vx.length ≤ vb.size := by
              rw [g2.1, lvx]
              have : (n + m) * i.size ≤ cap * i.size := Nat.mul_le_mul_right _ hle
              rw [Nat.add_mul] at this
              omega
            rw [run_storeCells vx w vb 0 g1 g2.2 (plains rB hall) hin] at r
            simp only [Result.andThen_ok] at r
            refine does_value r ⟨(ρ.set id .dead).set nid (.live b N), ?_, ?_⟩
            · have hnl : nid < (ρ.set id Own.dead).length := by simpa using (List.getElem?_eq_some_iff.1 hn).1
              simp only [Rep, own_set hnl, if_true]
              exact ⟨cap, rfl, hle, by omega, by omega⟩
            · have hbl := lt_of_cells g1
              refine Eff.shift (own_live ho1) hv hn hk (by simp [rowed]) (fun c hcl hcb => by
                simp only [rowed, Array.set!_eq_setIfInBounds]
                rw [Array.getElem?_setIfInBounds_ne (Ne.symm hcb)]) (.inl rfl) (by simp [rowed]; exact hbl) fun hsub hle' => ⟨_, ty, rowed_get hbl, by rw [storeA_size]; exact g2, ?_⟩
              intro j d hj
              refine (?_ : ∃ x, _ ∧ _)
              have fin : ∀ v, Rep K (mask K w ρ) ρ d v → Rep K _ _ d v := fun v q2 => Rep.mono hsub hle' _ _ q2
              rw [storeA_get _ _ _ _ (by omega)]
              have e0 : 0 + n * i.size + 0 = n * i.size := by omega
              by_cases hjl : j < A.length
              · rw [List.getElem?_append_left hjl] at hj
                rw [if_neg (by omega)]
                obtain ⟨v, q1, q2⟩ := g3 j d hj
                exact ⟨v, q1, fin v q2⟩
              · rw [List.getElem?_append_right (by omega)] at hj
                obtain ⟨v, q1, q2⟩ := repL_get rB hj
                have hjm := (List.getElem?_eq_some_iff.1 q1).1
                refine ⟨v, ?_, fin v q2⟩
                rw [if_pos (by omega), show j - (0 + n * i.size + 0) = j - A.length by omega]
                exact q1
        · cases h
      · cases h
    · rename_i c0
      split at h
      · cases h
      · obtain rfl := (Option.some.inj h).symm
        refine fresh ?_ none
        -- the capacity is known
        have : cap = c0 := by
          unfold contents at hA
          simp only at hA
          split at hA
          · split at hA
            · rename_i cs hcs
              obtain ⟨b, N, ho1, hb⟩ := cellsAt_own hk hcs
              simp only [Rep, ho1] at hx
              obtain ⟨c', hx, h1, h2, h3⟩ := hx
              rw [hx] at ex
              cases ex
              exact h3
            · cases hA
          · cases hA
        omega
  · cases h
theorem s_append {c : Call} {x y : Operand} {t u e e2 : TypeId} {i : TypeInfo} {z : List D} (ho : o.op = .call c) (hc : c.callee = .builtin .append) (hca : c.args.toList = [x, y]) (ht : c.argTypes[0]? = some t) (hu : c.argTypes[1]? = some u)
    (he : elemT P t = some e) (hue : P.underlying u = some (.slice e2)) (hi : P.info? e = some i) (hz : zeroT P e = some z) (hzl : z.length = i.size) (hk0 : 0 < i.size) (hbytes : i.bytes ≤ 65536) (hk : OK K w ρ hp) (hn : ρ[nid]? = some .fresh)
    (hs : Slots K (mask K w ρ) ρ sl a.tmps) (h : c_append sl hp nid i.size x y = some out) : Does P o a w (Res K w ρ hp nid out) := by
  have hy := evO_rep hs y
  unfold c_append at h
  split at h
  · rename_i n A m B hA hB
    split at h
    · rename_i hcond
      obtain ⟨hnm, hall⟩ := hcond
      obtain ⟨qx, cx, ey, hmcx, lB, hqx0, vx, lvx, rB, fB⟩ := contents_run (P := P) hk hy hB
      refine s_appendG ho hc hca ht hu he hue (by simp) hi hz hzl hk0 hbytes hk hn hs hA lB (fun w2 => by rw [ey]; rfl) lvx rB (fun w2 hw2 => ?_) hnm hall h
      have := fB m (Nat.le_refl _) w2 hw2
      rwa [List.take_of_length_le (by omega)] at this
    · cases h
  · cases h
theorem byteV_eq (b : UInt8) : byteV b = .val (.int .u8 b.toNat) := by simp [byteV]
theorem bytesD_length (s : ByteArray) : (bytesD s).length = s.size := by simp [bytesD, bytesOfS_length]
theorem bytesD_all (s : ByteArray) : (bytesD s).all okCell = true := by
  rw [List.all_eq_true]
  intro d hd
  unfold bytesD at hd
  obtain ⟨b, _, rfl⟩ := List.mem_map.1 hd
  rw [byteV_eq]
  rfl
def bytesVs (s : ByteArray) : List Value := (bytesOfS s).map fun b => .int .u8 b.toNat
theorem bytesVs_length (s : ByteArray) : (bytesVs s).length = s.size := by simp [bytesVs, bytesOfS_length]
theorem bytesD_rep (M : World) (s : ByteArray) : RepL K M ρ (bytesD s) (bytesVs s) := by
  unfold bytesD bytesVs
  generalize bytesOfS s = l
  induction l with
  | nil => simp [RepL]
  | cons b l ih =>
    simp only [List.map_cons, RepL]
    exact ⟨_, _, rfl, by rw [byteV_eq]; simp [Rep], ih⟩
theorem firstCells_string (s : ByteArray) (k n : Nat) (h : n ≤ s.size) : (Builtin.firstCells k n (.string s)).run P w = .ok ((bytesVs s).take n).toArray w := by
  simp only [Builtin.firstCells, Sem.run_pure]
  congr 1
  apply Array.ext'
  simp [bytesVs, bytesOfS]
theorem s_appS {c : Call} {x y : Operand} {t u e : TypeId} {i : TypeInfo} {z : List D} (ho : o.op = .call c) (hc : c.callee = .builtin .append) (hca : c.args.toList = [x, y]) (ht : c.argTypes[0]? = some t) (hu : c.argTypes[1]? = some u)
    (he : elemT P t = some e) (hue : P.underlying u = some .string) (hi : P.info? e = some i) (hz : zeroT P e = some z) (hzl : z.length = i.size) (hk0 : i.size = 1) (hbytes : i.bytes ≤ 65536) (hk : OK K w ρ hp) (hn : ρ[nid]? = some .fresh)
    (hs : Slots K (mask K w ρ) ρ sl a.tmps) (h : c_appS sl hp nid x y = some out) : Does P o a w (Res K w ρ hp nid out) := by
  have hy := evO_rep hs y
  unfold c_appS at h
  split at h
  · rename_i n A s hA hd
    rw [hd] at hy
    simp only [Rep] at hy
    split at h
    · rename_i hnm
      rw [← hk0] at hA h
      rw [bytesOfS_length] at hnm h
      refine s_appendG ho hc hca ht hu he hue (by simp) hi hz hzl (by omega) hbytes hk hn hs hA (by rw [bytesD_length, hk0, Nat.mul_one]) (fun w2 => by rw [hy]; rfl) (by rw [bytesVs_length, hk0, Nat.mul_one]) (bytesD_rep _ s) (fun w2 hw2 => ?_) hnm (bytesD_all s) h
      rw [hy, firstCells_string s _ _ (Nat.le_refl _), List.take_of_length_le (by rw [bytesVs_length]; exact Nat.le_refl _)]
    · cases h
  · cases h
end
end Go.Ev
