/-
  Contracts of the functions that the law calls, for every input (BoxN FdP).
-/
import Derived.Test.YtpfnckhfklgoaaaGreatDoorJ26
import Derived.Test.YtpfnckhfklgoaaaGreatDoorJ28
import Derived.Test.YtpfnckhfklgoaaaGreatDoorJ27
set_option linter.all false
namespace Go.Proofs.YtpfnckhfklgoaaaGreatDoor
open Go.RowKit
open Vx

theorem over_q {w : World} {vx vy : Value} {x y q : Rat} (hq : x / y = q) (hx : IsNum w vx x) (hy : IsNum w vy y) (hs : siz x ≤ 34359738368) (ht : siz y ≤ 34359738368) :
    Calls Tryz.prog 81 #[vx, vy] w (NumRet w q) := by rw [← hq]; exact numOver_any hx hy hs ht
theorem floor_q {w : World} {vx : Value} {x q : Rat} (hq : flr x = q) (hx : IsNum w vx x) (hs : siz x ≤ 34359738368) :
    Calls Tryz.prog 22 #[vx] w (NumRet w q) := by rw [← hq]; exact numFloor_any hx hs
theorem ceil_q {w : World} {vx : Value} {x q : Rat} (hq : -flr (-x) = q) (hx : IsNum w vx x) (hs : siz x ≤ 34359738368) :
    Calls Tryz.prog 87 #[vx] w (NumRet w q) := by rw [← hq]; exact numCeil_any hx hs

set_option maxRecDepth 100000 in
set_option maxHeartbeats 2000000 in
theorem boxOut_any {w : World} {v vg : Value} {a b g : Rat} (hv : IsBox w v a b) (hg : IsNum w vg g) (sa : siz a ≤ 1073741824) (sb : siz b ≤ 1073741824) (sg : siz g ≤ 1073741824) (hpos : 0 < g.num) :
    Calls Tryz.prog 47 #[v, vg] w (BoxErrRet w (flr (a / g) * g) (-flr (-(b / g)) * g) 0) := by
  obtain ⟨A1, c1, A2, c2, A3, c3, A4, c4, rfl, ha, hb⟩ := hv.opened
  obtain ⟨A5, c5, A6, c6, rfl, -, -⟩ := id hg.opened
  obtain ⟨wB, hwB⟩ : ∃ u, u = ((w.alloc (.cells #[.bool (decide (a.num < 0)), .slice A1 (len a.num.natAbs) c1, .slice A2 (len (below a.den)) c2, .bool (decide (b.num < 0)), .slice A3 (len b.num.natAbs) c3, .slice A4 (len (below b.den)) c4] 53)).alloc (.cells #[.bool (decide (g.num < 0)), .slice A5 (len g.num.natAbs) c5, .slice A6 (len (below g.den)) c6] 27)).alloc (.cells #[.bool false, .slice none 0 0, .slice none 0 0, .bool false, .slice none 0 0, .slice none 0 0] 53) := ⟨_, rfl⟩
  obtain ⟨b0, g0, g1, g2⟩ := news3 w (.cells #[.bool (decide (a.num < 0)), .slice A1 (len a.num.natAbs) c1, .slice A2 (len (below a.den)) c2, .bool (decide (b.num < 0)), .slice A3 (len b.num.natAbs) c3, .slice A4 (len (below b.den)) c4] 53) (.cells #[.bool (decide (g.num < 0)), .slice A5 (len g.num.natAbs) c5, .slice A6 (len (below g.den)) c6] 27) (.cells #[.bool false, .slice none 0 0, .slice none 0 0, .bool false, .slice none 0 0, .slice none 0 0] 53)
  rw [← hwB] at b0 g0 g1 g2
  have k0 : wB.cell? ⟨w.heap.size, 0, none⟩ = some (.bool (decide (a.num < 0))) := cell_of_row _ _ _ _ _ _ g0
  have k1 : wB.cell? ⟨w.heap.size, 1, none⟩ = some (.slice A1 (len a.num.natAbs) c1) := cell_of_row _ _ _ _ _ _ g0
  have k2 : wB.cell? ⟨w.heap.size, 2, none⟩ = some (.slice A2 (len (below a.den)) c2) := cell_of_row _ _ _ _ _ _ g0
  have k3 : wB.cell? ⟨w.heap.size, 3, none⟩ = some (.bool (decide (b.num < 0))) := cell_of_row _ _ _ _ _ _ g0
  have k4 : wB.cell? ⟨w.heap.size, 4, none⟩ = some (.slice A3 (len b.num.natAbs) c3) := cell_of_row _ _ _ _ _ _ g0
  have k5 : wB.cell? ⟨w.heap.size, 5, none⟩ = some (.slice A4 (len (below b.den)) c4) := cell_of_row _ _ _ _ _ _ g0
  have k6 : wB.cell? ⟨w.heap.size + 1, 0, none⟩ = some (.bool (decide (g.num < 0))) := cell_of_row _ _ _ _ _ _ g1
  have k7 : wB.cell? ⟨w.heap.size + 1, 1, none⟩ = some (.slice A5 (len g.num.natAbs) c5) := cell_of_row _ _ _ _ _ _ g1
  have k8 : wB.cell? ⟨w.heap.size + 1, 2, none⟩ = some (.slice A6 (len (below g.den)) c6) := cell_of_row _ _ _ _ _ _ g1
  have HK0 := Lib.hid (Kept.start (T := 53) rfl plain6 g2)
  have HB0 := Lib.hid b0
  have hlt1 : w.heap.size < w.heap.size + 2 := by omega
  have hlt2 : w.heap.size + 1 < w.heap.size + 2 := by omega
  clear g0 g1 g2 b0
  have e0 : decide (g.num.sign ≤ 0) = false := decide_eq_false (by rw [Int.sign_eq_one_of_pos hpos]; omega)
  obtain ⟨y0, hy0⟩ : ∃ z : Int, z = g.num.sign := ⟨_, rfl⟩
  have HS := Lib.hid (numSign_any (hg.keep HB0.out))
  rw [← hy0] at e0 HS
  clear hy0 hpos
  obtain ⟨q1, e1⟩ : ∃ z : Rat, a / g = z := ⟨_, rfl⟩
  obtain ⟨q4, e4⟩ : ∃ z : Rat, b / g = z := ⟨_, rfl⟩
  rw [e1, e4]
  obtain ⟨q2, e2⟩ : ∃ z : Rat, flr q1 = z := ⟨_, rfl⟩
  obtain ⟨q5, e5⟩ : ∃ z : Rat, -flr (-q4) = z := ⟨_, rfl⟩
  rw [e2, e5]
  obtain ⟨q3, e3⟩ : ∃ z : Rat, q2 * g = z := ⟨_, rfl⟩
  obtain ⟨q6, e6⟩ : ∃ z : Rat, q5 * g = z := ⟨_, rfl⟩
  rw [e3, e6]
  have y1 : siz q1 ≤ 2147483648 := by rw [← e1]; exact Nat.le_trans (siz_div a g) (by omega)
  have y4 : siz q4 ≤ 2147483648 := by rw [← e4]; exact Nat.le_trans (siz_div b g) (by omega)
  have y2 : siz q2 ≤ 2147483648 := by rw [← e2]; exact Nat.le_trans (siz_flr q1) y1
  have y5 : siz q5 ≤ 2147483648 := by rw [← e5, siz_neg]; exact Nat.le_trans (siz_flr (-q4)) (by rw [siz_neg]; exact y4)
  have z1 : Hid (siz q1 ≤ 34359738368) := Nat.le_trans y1 (by omega)
  have z2 : Hid (siz q2 ≤ 34359738368) := Nat.le_trans y2 (by omega)
  have z4 : Hid (siz q4 ≤ 34359738368) := Nat.le_trans y4 (by omega)
  have z5 : Hid (siz q5 ≤ 34359738368) := Nat.le_trans y5 (by omega)
  have zg : Hid (siz g ≤ 34359738368) := Nat.le_trans sg (by omega)
  have za : Hid (siz a ≤ 34359738368) := Nat.le_trans sa (by omega)
  have zb : Hid (siz b ≤ 34359738368) := Nat.le_trans sb (by omega)
  replace e1 := Lib.hid e1
  replace e2 := Lib.hid e2
  replace e3 := Lib.hid e3
  replace e4 := Lib.hid e4
  replace e5 := Lib.hid e5
  replace e6 := Lib.hid e6
  replace ha := Lib.hid ha
  replace hb := Lib.hid hb
  replace hg := Lib.hid hg
  clear hv sa sb sg y1 y2 y4 y5
  go_enter Tryz.func47, Tryz.ntmps47
  go_upto_region 1 with fail
  rw [← hwB]
  clear hwB
  go_wp2_with fail
  refine (HS.out).mono ?_
  rintro e w0 ⟨rfl, b1⟩
  have HK1 := Lib.hid (HK0.out.call b1)
  have HB1 := below_to HB0.out (by omega) HK1.out.1
  have hgn := Lib.hid (hg.out.keep HB1)
  have H1 := fun (w' : World) (hk : Held6 wB (w.heap.size + 2) w0 w') => Lib.hid (over_q e1.out (hk.stay.num (ha.out.keep HB1)) (hk.stay.num hgn.out) za.out zg.out)
  have H4 := fun (w' : World) (hk : Held6 wB (w.heap.size + 2) w0 w') => Lib.hid (over_q e4.out (hk.stay.num (hb.out.keep HB1)) (hk.stay.num hgn.out) zb.out zg.out)
  have H0 := HK1.out.begin6
  have H0' := H0
  unfold Held6 at H0'
  clear HS b1 HB1
  go_wp2_with fail
  go_region_held3 (fun w' => (∀ b o, b < w.heap.size + 2 → w'.cell? ⟨b, o, none⟩ = wB.cell? ⟨b, o, none⟩) ∧ w'.cell? ⟨w.heap.size + 2, 0, none⟩ = some (cur w' ⟨w.heap.size + 2, 0, none⟩) ∧ w'.cell? ⟨w.heap.size + 2, 1, none⟩ = some (cur w' ⟨w.heap.size + 2, 1, none⟩) ∧ w'.cell? ⟨w.heap.size + 2, 2, none⟩ = some (cur w' ⟨w.heap.size + 2, 2, none⟩) ∧ w'.cell? ⟨w.heap.size + 2, 3, none⟩ = some (cur w' ⟨w.heap.size + 2, 3, none⟩) ∧ w'.cell? ⟨w.heap.size + 2, 4, none⟩ = some (cur w' ⟨w.heap.size + 2, 4, none⟩) ∧ w'.cell? ⟨w.heap.size + 2, 5, none⟩ = some (cur w' ⟨w.heap.size + 2, 5, none⟩) ∧ w'.frozen? ⟨w.heap.size + 2, 0, none⟩ = false ∧ w'.frozen? ⟨w.heap.size + 2, 1, none⟩ = false ∧ w'.frozen? ⟨w.heap.size + 2, 2, none⟩ = false ∧ w'.frozen? ⟨w.heap.size + 2, 3, none⟩ = false ∧ w'.frozen? ⟨w.heap.size + 2, 4, none⟩ = false ∧ w'.frozen? ⟨w.heap.size + 2, 5, none⟩ = false ∧ Kept 6 53 wB (w.heap.size + 2) w' ∧ Stay w0 w')
    (first | with_reducible exact H0' | with_reducible exact hk1' | with_reducible exact hk2' | with_reducible exact hk3' | with_reducible exact hk4' | with_reducible exact hk5' | with_reducible exact hk6' | exact hk6.store)
    (first | (go_at_call 15; refine (mul_q e6.out hv5 (hk5.stay.num hgn.out) z5.out zg.out).mono ?_; rintro e w6 ⟨v6, rfl, hv6, hbl6⟩; obtain ⟨C11, j11, C12, j12, rfl, -, -⟩ := id hv6.opened; have hk6 := hk5.call hbl6; have hk6' := hk6; unfold Held6 at hk6') | (go_at_call 87; refine (ceil_q e5.out hv4 z4.out).mono ?_; rintro e w5 ⟨v5, rfl, hv5, hbl5⟩; obtain ⟨C9, j9, C10, j10, rfl, -, -⟩ := id hv5.opened; have hk5 := hk4.call hbl5; have hk5' := hk5; unfold Held6 at hk5') | (go_at_call 81; refine ((H4 _ hk3).out).mono ?_; rintro e w4 ⟨v4, rfl, hv4, hbl4⟩; obtain ⟨C7, j7, C8, j8, rfl, -, -⟩ := id hv4.opened; have hk4 := hk3.call hbl4; have hk4' := hk4; unfold Held6 at hk4') | (go_at_call 15; refine (mul_q e3.out hv2 (hk2.stay.num hgn.out) z2.out zg.out).mono ?_; rintro e w3 ⟨v3, rfl, hv3, hbl3⟩; obtain ⟨C5, j5, C6, j6, rfl, -, -⟩ := id hv3.opened; have hk3 := hk2.call hbl3; have hk3' := hk3; unfold Held6 at hk3') | (go_at_call 22; refine (floor_q e2.out hv1 z1.out).mono ?_; rintro e w2 ⟨v2, rfl, hv2, hbl2⟩; obtain ⟨C3, j3, C4, j4, rfl, -, -⟩ := id hv2.opened; have hk2 := hk1.call hbl2; have hk2' := hk2; unfold Held6 at hk2') | (go_at_call 81; refine ((H1 _ H0).out).mono ?_; rintro e w1 ⟨v1, rfl, hv1, hbl1⟩; obtain ⟨C1, j1, C2, j2, rfl, -, -⟩ := id hv1.opened; have hk1 := H0.call hbl1; have hk1' := hk1; unfold Held6 at hk1'))
  rename_i hHl
  clear hHl
  have hv3' := ((hv3.keep hbl4).keep hbl5).keep hbl6
  have HD := hk6.done (p := q3) (q := q6) (s1 := decide (q3.num < 0)) (A1 := C5) (n1 := len q3.num.natAbs) (c1 := j5) (A2 := C6) (n2 := len (below q3.den)) (c2 := j6) (s2 := decide (q6.num < 0)) (A3 := C11) (n3 := len q6.num.natAbs) (c3 := j11) (A4 := C12) (n4 := len (below q6.den)) (c4 := j12) (hv3') (hv6)
  obtain ⟨d1, d2, d3⟩ := HD
  have r0 := cell_of_row _ _ 0 _ _ _ d3
  have r1 := cell_of_row _ _ 1 _ _ _ d3
  have r2 := cell_of_row _ _ 2 _ _ _ d3
  have r3 := cell_of_row _ _ 3 _ _ _ d3
  have r4 := cell_of_row _ _ 4 _ _ _ d3
  have r5 := cell_of_row _ _ 5 _ _ _ d3
  simp only [List.getElem?_toArray, List.getElem?_cons_zero, List.getElem?_cons_succ] at r0 r1 r2 r3 r4 r5
  have HD := Lib.hid (And.intro d1 d2)
  clear d1 d2 d3
  go_wp2_with fail
  refine bodyPost_ret (v := .tuple #[.agg #[.bool (decide (q3.num < 0)), .slice (C5) (len q3.num.natAbs) (j5), .slice (C6) (len (below q3.den)) (j6), .bool (decide (q6.num < 0)), .slice (C11) (len q6.num.natAbs) (j11), .slice (C12) (len (below q6.den)) (j12)], .int .i64 0]) ?_ rfl ⟨_, rfl, HD.out.1, below_to HB0.out (by omega) HD.out.2⟩
  simp [results, Tryz.results47, go_sem, r0, r1, r2, r3, r4, r5]
end Go.Proofs.YtpfnckhfklgoaaaGreatDoor
namespace Go.Proofs.YtpfnckhfklgoaaaGreatDoor
open Go.RowKit
open Vx

theorem parse_siz (s : ByteArray) : siz (parseV s).1 ≤ 4100 := by
  unfold parseV
  split
  · exact Nat.le_trans (show siz 0 ≤ 3 by decide +kernel) (by omega)
  · rename_i h0
    have hsz : s.data.toList.length ≤ 2000 := by
      rw [size_data]; omega
    split
    · exact Nat.le_trans (show siz 0 ≤ 3 by decide +kernel) (by omega)
    · rename_i q hq
      have ht := trim_len s.data.toList [45]
      have c1 := cut_len (Lib.trimPrefix s.data.toList [45]) [47]
      have c2 := cut_len (Lib.trimPrefix s.data.toList [45]) [46]
      unfold parseL at hq
      split at hq
      · split at hq
        · rename_i h1
          obtain rfl := Option.some.inj hq
          refine Nat.le_trans (siz_mk _ _) ?_
          have n1 := len_valL (dig_all (whole_dig h1.1))
          have n2 := len_valL (dig_all (whole_dig h1.2.1))
          rw [sgn_natAbs]
          omega
        · cases hq
      · split at hq
        · rename_i h1 h2
          obtain rfl := Option.some.inj hq
          refine Nat.le_trans (siz_mk _ _) ?_
          have hb : (Lib.cut (Lib.trimPrefix s.data.toList [45]) [46]).2.1.all digC = true := by
            rcases hf : (Lib.cut (Lib.trimPrefix s.data.toList [45]) [46]).2.2 with _ | _
            · rw [cut_none _ _ hf]; rfl
            · exact dig_all (h2.2 hf)
          have hab : ((Lib.cut (Lib.trimPrefix s.data.toList [45]) [46]).1 ++ (Lib.cut (Lib.trimPrefix s.data.toList [45]) [46]).2.1).all digC = true := by
            rw [List.all_append, hb, dig_all (whole_dig h2.1)]; rfl
          have n1 := len_valL hab
          rw [List.length_append] at n1
          have n2 := len_pow_le 10 (Lib.cut (Lib.trimPrefix s.data.toList [45]) [46]).2.1.length
          have n3 : len 10 = 1 := by decide +kernel
          rw [n3] at n2
          rw [sgn_natAbs]
          omega
        · cases hq
theorem add_val {w : World} {vx vy : Value} {x y q : Rat} (hq : x + y = q) (hx : IsNum w vx x) (hy : IsNum w vy y) (hs : siz x ≤ 536870912) (ht : siz y ≤ 536870912) :
    Calls Tryz.prog 14 #[vx, vy] w (NumRet w q) := by rw [← hq]; exact numAdd_any hx hy (Nat.le_trans hs (by omega)) (Nat.le_trans ht (by omega))
theorem sub_val {w : World} {vx vy : Value} {x y q : Rat} (hq : x - y = q) (hx : IsNum w vx x) (hy : IsNum w vy y) (hs : siz x ≤ 536870912) (ht : siz y ≤ 536870912) :
    Calls Tryz.prog 16 #[vx, vy] w (NumRet w q) := by rw [← hq]; exact numSub_any hx hy (Nat.le_trans hs (by omega)) (Nat.le_trans ht (by omega))
theorem mul_val' {w : World} {vx vy : Value} {x y q : Rat} (hq : x * y = q) (hx : IsNum w vx x) (hy : IsNum w vy y) (hs : siz x ≤ 536870912) (ht : siz y ≤ 536870912) :
    Calls Tryz.prog 15 #[vx, vy] w (NumRet w q) := by rw [← hq]; exact numMul_any hx hy (Nat.le_trans hs (by omega)) (Nat.le_trans ht (by omega))
theorem neg_val {w : World} {vx : Value} {x q : Rat} (hq : -x = q) (hx : IsNum w vx x) (hs : siz x ≤ 536870912) :
    Calls Tryz.prog 17 #[vx] w (NumRet w q) := by rw [← hq]; exact numNeg_any hx (Nat.le_trans hs (by omega))
theorem zero_at {q : Rat} (h : q = 0) (w : World) : IsNum w (.agg #[.bool false, .slice none 0 0, .slice none 0 0]) q := by rw [h]; exact zero_num w
theorem Held0.drew {wB wS w : World} {G : Nat} (h : Held0 wB G wS w) (hG : G ≤ wB.heap.size) : Held0 wB G wS w.drew := h.call hG ⟨rfl, rfl, rfl, Nat.le_refl _, fun _ _ => rfl⟩
theorem div_val {w : World} {vx vy : Value} {x y q : Rat} {c : Int} (hq : x / y = q) (hc : (if y = 0 then 10 else 0) = c) (hx : IsNum w vx x) (hy : IsNum w vy y) (hs : siz x ≤ 536870912) (ht : siz y ≤ 536870912) :
    Calls Tryz.prog 19 #[vx, vy] w (NumErrRet w q c) := by rw [← hq, ← hc]; exact numDiv_any hx hy (Nat.le_trans hs (by omega)) (Nat.le_trans ht (by omega))
theorem sign_val {w : World} {vx : Value} {x : Rat} {n : Int} (hn : x.num.sign = n) (hx : IsNum w vx x) : Calls Tryz.prog 20 #[vx] w (IntRet w n) := by rw [← hn]; exact numSign_any hx
theorem cell_keep {w w' : World} {b : Nat} {v : Value} (h : w.cell? ⟨b, 0, none⟩ = some v) (hb : Below w.heap.size w w') : w'.cell? ⟨b, 0, none⟩ = some v := (hb.cell (p := ⟨b, 0, none⟩) (World.block_lt_of_cell? w _ h)).trans h
theorem number_val {w : World} {s : ByteArray} {mx : Int} {q : Rat} (hM : w.cell? ⟨1, 0, none⟩ = some (.int .i64 mx)) (hq : (parseV s).1 = q) :
    Calls Tryz.prog 12 #[.string s] w (NumRet w q) := number_to hM hq

theorem long_three {w : World} {sa sb sc : ByteArray} {r : Bool} (h : [sa, sb, sc].any (fun s => decide (120 < s.size)) = r) :
    Calls Tryz.prog 10 #[.slice (some ⟨w.heap.size, 0, none⟩) 3 3] (w.alloc (.cells #[.string sa, .string sb, .string sc] 9)) (fun e w' => e = .returned (.bool r) ∧ w' = w.alloc (.cells #[.string sa, .string sb, .string sc] 9)) := by
  have hg : (w.alloc (.cells #[.string sa, .string sb, .string sc] 9)).heap[w.heap.size]? = some (.cells #[.string sa, .string sb, .string sc] 9 (0, 0)) := heap_alloc_new w _
  rw [← h]
  refine long_any (l := [sa, sb, sc]) (o := 0) ?_ (by simp)
  intro i s hi
  match i, hi with
  | 0, hi => obtain rfl := Option.some.inj hi; exact cell_of_row _ _ 0 _ _ _ hg
  | 1, hi => obtain rfl := Option.some.inj hi; exact cell_of_row _ _ 1 _ _ _ hg
  | 2, hi => obtain rfl := Option.some.inj hi; exact cell_of_row _ _ 2 _ _ _ hg
  | _ + 3, hi => exact absurd hi (by simp)
end Go.Proofs.YtpfnckhfklgoaaaGreatDoor
