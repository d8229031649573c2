/-
  Contracts of the functions that the law calls, for every input (Ve).
-/
import Derived.Test.YtfppimacnhcflaaGreatDoorS02
import Derived.Test.YtfppimacnhcflaaGreatDoorS01
set_option linter.all false
set_option maxRecDepth 100000
set_option maxHeartbeats 40000000
namespace Go.Proofs.YtfppimacnhcflaaGreatDoor.Rf
open Lib (hid)
open Go.RowKit
open Rx
open Vx (siz siz_num siz_den)
open List renaming getElem?_toArray → lg, getElem?_cons_zero → lz, getElem?_cons_succ → ls, setIfInBounds_toArray → lt, set_cons_zero → ly, set_cons_succ → lu
theorem out_sizes {a g : Rat} (sa : siz a ≤ 4100) (sg : siz g ≤ 4100) : siz (a / g) ≤ 8200 ∧ siz (flr (a / g)) ≤ 8200 ∧ siz (-flr (-(a / g))) ≤ 8200 := by
  have h1 := Vx.siz_div a g
  have h2 := siz_flr (a / g)
  have h3 := siz_ceil (a / g)
  omega
theorem outBoxR_any {w : World} {vx vy : Value} {a b g l h : Rat} (hg0 : g ≠ 0) (el : flr (a / g) * g = l) (eh : -flr (-(b / g)) * g = h) (hx : IsRBox w vx a b) (hy : IsRat w vy g) (sa : siz a ≤ 4100) (sb : siz b ≤ 4100) (sg : siz g ≤ 4100) :
    Calls Tryz.prog 82 #[vx, vy] w (RBoxRet w l h) := by
  obtain ⟨i1, i2, -⟩ := out_sizes sa sg
  obtain ⟨j1, -, j3⟩ := out_sizes sb sg
  obtain ⟨d1, e1⟩ : ∃ z : Rat, a / g = z := ⟨_, rfl⟩
  obtain ⟨d2, e2⟩ : ∃ z : Rat, b / g = z := ⟨_, rfl⟩
  rw [e1] at i1 i2 el
  rw [e2] at j1 j3 eh
  obtain ⟨f1, e3⟩ : ∃ z : Rat, flr d1 = z := ⟨_, rfl⟩
  obtain ⟨f2, e4⟩ : ∃ z : Rat, -flr (-d2) = z := ⟨_, rfl⟩
  rw [e3] at i2 el
  rw [e4] at j3 eh
  have ta := hid (Nat.le_trans sa (show _ ≤ 268435456 by omega))
  have tb := hid (Nat.le_trans sb (show _ ≤ 268435456 by omega))
  have tg := hid (Nat.le_trans sg (show _ ≤ 268435456 by omega))
  have td1 := hid (Nat.le_trans i1 (show _ ≤ 268435456 by omega))
  have td2 := hid (Nat.le_trans j1 (show _ ≤ 268435456 by omega))
  have tf1 := hid (Nat.le_trans i2 (show _ ≤ 268435456 by omega))
  have tf2 := hid (Nat.le_trans j3 (show _ ≤ 268435456 by omega))
  have m2 := hid (Nat.le_trans j1 (show _ ≤ 16777216 by omega))
  replace e1 := hid e1
  replace e2 := hid e2
  replace e3 := hid e3
  replace e4 := hid e4
  replace el := hid el
  replace eh := hid eh
  replace hg0 := hid hg0
  clear sa sb sg i1 i2 j1 j3
  obtain ⟨C1, j1, C2, j2, C3, j3, C4, j4, rfl, hxl, hxh⟩ := id hx.opened
  replace hx := hid hx
  replace hxl := hid hxl
  replace hxh := hid hxh
  obtain ⟨C5, j5, C6, j6, rfl, -, -⟩ := id hy.opened
  replace hy := hid hy
  obtain ⟨w1, hw1⟩ : ∃ u, u = (((w.alloc (.cells #[.bool (decide (a.num < 0)), .slice C1 (len a.num.natAbs) j1, .slice C2 (len a.den) j2, .bool (decide (b.num < 0)), .slice C3 (len b.num.natAbs) j3, .slice C4 (len b.den) j4] 76)).alloc (.cells #[.bool (decide (g.num < 0)), .slice C5 (len g.num.natAbs) j5, .slice C6 (len g.den) j6] 33)).alloc (.cells #[.bool false, .slice none 0 0, .slice none 0 0, .bool false, .slice none 0 0, .slice none 0 0] 76)) := ⟨_, rfl⟩
  obtain ⟨b1, g1, g2, g3⟩ := news3' hw1
  replace g1 := hid g1
  replace g2 := hid g2
  replace g3 := hid g3
  replace b1 := hid b1
  go_enter Tryz.func82, Tryz.ntmps82
  go_upto_region 1 with fail
  rw [← hw1]
  clear hw1
  go_wp2_with fail
  have HSZa : Hid ((w.heap.size + 2) ≤ w1.heap.size) := hid (by have := at_lt (at_keep g3.out (Below.refl _ w1)); omega)
  obtain ⟨z_x_0, z_x_1, z_x_2, z_x_3, z_x_4, z_x_5⟩ := cells6 g1.out
  have hlta_x : w.heap.size < (w.heap.size + 2) := by omega
  obtain ⟨z_y_0, z_y_1, z_y_2⟩ := cells3 g2.out
  have hlta_y : w.heap.size + 1 < (w.heap.size + 2) := by omega
  have H0 := Held0.start w1 (w.heap.size + 2)
  have H0' := H0
  unfold Held0 at H0'
  refine wp_region_held_drew (S := (fun w' => (∀ b o, b < (w.heap.size + 2) → w'.cell? ⟨b, o, none⟩ = w1.cell? ⟨b, o, none⟩) ∧ Below ((w.heap.size + 2)) w1 w' ∧ Stay w1 w')) (by kernel_rfl) ?_ (fun hHeld => ?_)
  · (try dsimp only)
    exact H0'
  obtain ⟨w2, hw2⟩ : ∃ u, u = w1.drew := ⟨_, rfl⟩
  have b2 : Hid (Below w1.heap.size w1 w2) := by rw [hw2]; exact ⟨rfl, rfl, rfl, Nat.le_refl _, fun _ _ => rfl⟩
  rw [← hw2] at hHeld H0 ⊢
  clear hw2 H0'
  refine tk (i := 0) (h := ?_)
  try simp only [Act.put, lt, ly, lu]
  refine tk (i := 1) (h := ?_)
  try simp only [Act.put, lt, ly, lu]
  refine tk (i := 2) (h := ?_)
  try simp only [Act.put, lt, ly, lu]
  refine tk (i := 5) (h := ?_)
  try simp only [Act.put, lt, ly, lu]
  refine tk (i := 7) (h := ?_)
  try simp only [Act.put, lt, ly, lu]
  refine tk (i := 8) (h := ?_)
  try simp only [Act.put, lt, ly, lu]
  refine tk (i := 9) (h := ?_)
  try simp only [Act.put, lt, ly, lu]
  refine tk (i := 12) (h := ?_)
  try simp only [Act.put, lt, ly, lu]
  have y0_2 := hid (Below.step b1.out b2.out)
  refine wpAnyH_ready (rs := [3]) (by kernel_rfl) (by simp) (AllReadyH.cons (o := ?oq9) ?eq9 ?kq9 AllReadyH.nil)
  case eq9 => simp only [lg, lz, ls]; rfl
  intro K hK; go_simp; go_at_call 34
  refine (divR_val hg0.out e1.out (hxl.out.keep y0_2.out) (hy.out.keep y0_2.out) ta.out tg.out).mono ?_
  rintro e w3 ⟨v3, rfl, hv3, b3⟩
  obtain ⟨C7, j7, C8, j8, rfl, -, -⟩ := id hv3.opened
  replace hv3 := hid hv3
  replace b3 := hid b3
  have hk3 := hcall_le H0 HSZa b3.out; have hk3' := hk3; unfold Held0 at hk3'; clear hHeld H0
  refine hK.out _ _ ?_ (fun hHeld => ?_)
  · (try dsimp only); with_reducible exact hk3'
  clear hK K hk3'; try simp only [Act.put, lt, ly, lu]
  refine wpAnyH_ready (rs := [4]) (by kernel_rfl) (by simp) (AllReadyH.cons (o := ?oq10) ?eq10 ?kq10 AllReadyH.nil)
  case eq10 => simp only [lg, lz, ls]; rfl
  intro K hK; go_simp; go_at_call 40
  refine (floorR_val e3.out hv3.out td1.out).mono ?_
  rintro e w4 ⟨v4, rfl, hv4, b4⟩
  obtain ⟨C9, j9, C10, j10, rfl, -, -⟩ := id hv4.opened
  replace hv4 := hid hv4
  replace b4 := hid b4
  have hk4 := hcall_le hk3 HSZa b4.out; have hk4' := hk4; unfold Held0 at hk4'; clear hHeld hk3
  refine hK.out _ _ ?_ (fun hHeld => ?_)
  · (try dsimp only); with_reducible exact hk4'
  clear hK K hk4'; try simp only [Act.put, lt, ly, lu]
  have y0_4 := hid (Below.step (Below.step y0_2.out b3.out) b4.out)
  refine wpAnyH_ready (rs := [6]) (by kernel_rfl) (by simp) (AllReadyH.cons (o := ?oq11) ?eq11 ?kq11 AllReadyH.nil)
  case eq11 => simp only [lg, lz, ls]; rfl
  intro K hK; go_simp; go_at_call 28
  refine (mulR_val el.out hv4.out (hy.out.keep y0_4.out) tf1.out tg.out).mono ?_
  rintro e w5 ⟨v5, rfl, hv5, b5⟩
  obtain ⟨C11, j11, C12, j12, rfl, -, -⟩ := id hv5.opened
  replace hv5 := hid hv5
  replace b5 := hid b5
  have hk5 := hcall_le hk4 HSZa b5.out; have hk5' := hk5; unfold Held0 at hk5'; clear hHeld hk4
  refine hK.out _ _ ?_ (fun hHeld => ?_)
  · (try dsimp only); with_reducible exact hk5'
  clear hK K hk5'; try simp only [Act.put, lt, ly, lu]
  have y0_5 := hid (Below.step y0_4.out b5.out)
  refine wpAnyH_ready (rs := [10]) (by kernel_rfl) (by simp) (AllReadyH.cons (o := ?oq12) ?eq12 ?kq12 AllReadyH.nil)
  case eq12 => simp only [lg, lz, ls]; rfl
  intro K hK; go_simp; go_at_call 34
  refine (divR_val hg0.out e2.out (hxh.out.keep y0_5.out) (hy.out.keep y0_5.out) tb.out tg.out).mono ?_
  rintro e w6 ⟨v6, rfl, hv6, b6⟩
  obtain ⟨C13, j13, C14, j14, rfl, -, -⟩ := id hv6.opened
  replace hv6 := hid hv6
  replace b6 := hid b6
  have hk6 := hcall_le hk5 HSZa b6.out; have hk6' := hk6; unfold Held0 at hk6'; clear hHeld hk5
  refine hK.out _ _ ?_ (fun hHeld => ?_)
  · (try dsimp only); with_reducible exact hk6'
  clear hK K hk6'; try simp only [Act.put, lt, ly, lu]
  refine wpAnyH_ready (rs := [11]) (by kernel_rfl) (by simp) (AllReadyH.cons (o := ?oq13) ?eq13 ?kq13 AllReadyH.nil)
  case eq13 => simp only [lg, lz, ls]; rfl
  intro K hK; go_simp; go_at_call 128
  refine (ceilR_any e4.out hv6.out m2.out).mono ?_
  rintro e w7 ⟨v7, rfl, hv7, b7⟩
  obtain ⟨C15, j15, C16, j16, rfl, -, -⟩ := id hv7.opened
  replace hv7 := hid hv7
  replace b7 := hid b7
  have hk7 := hcall_le hk6 HSZa b7.out; have hk7' := hk7; unfold Held0 at hk7'; clear hHeld hk6
  refine hK.out _ _ ?_ (fun hHeld => ?_)
  · (try dsimp only); with_reducible exact hk7'
  clear hK K hk7'; try simp only [Act.put, lt, ly, lu]
  have y0_7 := hid (Below.step (Below.step y0_5.out b6.out) b7.out)
  refine wpAnyH_ready (rs := [13]) (by kernel_rfl) (by simp) (AllReadyH.cons (o := ?oq14) ?eq14 ?kq14 AllReadyH.nil)
  case eq14 => simp only [lg, lz, ls]; rfl
  intro K hK; go_simp; go_at_call 28
  refine (mulR_val eh.out hv7.out (hy.out.keep y0_7.out) tf2.out tg.out).mono ?_
  rintro e w8 ⟨v8, rfl, hv8, b8⟩
  obtain ⟨C17, j17, C18, j18, rfl, -, -⟩ := id hv8.opened
  replace hv8 := hid hv8
  replace b8 := hid b8
  have hk8 := hcall_le hk7 HSZa b8.out; have hk8' := hk8; unfold Held0 at hk8'; clear hHeld hk7
  refine hK.out _ _ ?_ (fun hHeld => ?_)
  · (try dsimp only); with_reducible exact hk8'
  clear hK K hk8'; try simp only [Act.put, lt, ly, lu]
  refine tk (i := 14) (h := ?_)
  try simp only [Act.put, lt, ly, lu]
  have y5_8 := hid (Below.step (Below.step b6.out b7.out) b8.out)
  have y1_8 := hid (Below.step (Below.step (Below.step (Below.step (Below.step (Below.step b2.out b3.out) b4.out) b5.out) b6.out) b7.out) b8.out)
  have Dq16 := (at_keep g3.out y1_8.out)
  refine wpAnyH_ready (rs := [15]) (by kernel_rfl) (by simp) (AllReadyH.cons (o := ?oq16) ?eq16 ?kq16 AllReadyH.nil)
  case eq16 => simp only [lg, lz, ls]; rfl
  intro K hK
  have q0 : w8.cell? ⟨w.heap.size + 2, 0, none⟩ = some (.bool false) := cell_of_row _ _ _ _ _ _ Dq16
  have F0 : w8.frozen? ⟨w.heap.size + 2, 0, none⟩ = false := frozen_of_row w8 (w.heap.size + 2) 0 _ _ Dq16
  have q1 : w8.cell? ⟨w.heap.size + 2, 1, none⟩ = some (.slice none 0 0) := cell_of_row _ _ _ _ _ _ Dq16
  have F1 : w8.frozen? ⟨w.heap.size + 2, 1, none⟩ = false := frozen_of_row w8 (w.heap.size + 2) 1 _ _ Dq16
  have q2 : w8.cell? ⟨w.heap.size + 2, 2, none⟩ = some (.slice none 0 0) := cell_of_row _ _ _ _ _ _ Dq16
  have F2 : w8.frozen? ⟨w.heap.size + 2, 2, none⟩ = false := frozen_of_row w8 (w.heap.size + 2) 2 _ _ Dq16
  have q3 : w8.cell? ⟨w.heap.size + 2, 3, none⟩ = some (.bool false) := cell_of_row _ _ _ _ _ _ Dq16
  have F3 : w8.frozen? ⟨w.heap.size + 2, 3, none⟩ = false := frozen_of_row w8 (w.heap.size + 2) 3 _ _ Dq16
  have q4 : w8.cell? ⟨w.heap.size + 2, 4, none⟩ = some (.slice none 0 0) := cell_of_row _ _ _ _ _ _ Dq16
  have F4 : w8.frozen? ⟨w.heap.size + 2, 4, none⟩ = false := frozen_of_row w8 (w.heap.size + 2) 4 _ _ Dq16
  have q5 : w8.cell? ⟨w.heap.size + 2, 5, none⟩ = some (.slice none 0 0) := cell_of_row _ _ _ _ _ _ Dq16
  have F5 : w8.frozen? ⟨w.heap.size + 2, 5, none⟩ = false := frozen_of_row w8 (w.heap.size + 2) 5 _ _ Dq16
  replace Dq16 := hid Dq16
  go_simp
  clear q0 F0 q1 F1 q2 F2 q3 F3 q4 F4 q5 F5
  have y0_8 := hid (Below.step y0_7.out b8.out)
  have FB := hid y0_8.out
  have FV := hid (IsRat.pair (hv5.out.keep y5_8.out) hv8.out)
  obtain ⟨ue, hw⟩ : ∃ z, z = ((((((w8.setCell ⟨w.heap.size + 2, 0, none⟩ (.bool (decide (l.num < 0)))).setCell ⟨w.heap.size + 2, 1, none⟩ (.slice C11 (len l.num.natAbs) j11)).setCell ⟨w.heap.size + 2, 2, none⟩ (.slice C12 (len l.den) j12)).setCell ⟨w.heap.size + 2, 3, none⟩ (.bool (decide (h.num < 0)))).setCell ⟨w.heap.size + 2, 4, none⟩ (.slice C17 (len h.num.natAbs) j17)).setCell ⟨w.heap.size + 2, 5, none⟩ (.slice C18 (len h.den) j18)) := ⟨_, rfl⟩
  obtain ⟨E_ue, OT, LV, BL⟩ := stored6 Dq16.out hw
  rw [← hw]
  clear hw
  replace E_ue := hid E_ue
  have FE := hid (LV.rbox FV.out)
  replace FB := hid (BL _ _ (by omega) FB.out)
  have HKE := hk8
  refine hK.out _ _ ?_ (fun hHeld2 => ?_)
  · (try dsimp only)
    exact ⟨fun b o hb => (below_cell (BL (w.heap.size + 2) _ (by omega) hk8.2.1)) b o hb, BL (w.heap.size + 2) _ (by omega) hk8.2.1, stay_trans hk8.2.2 LV⟩
  clear hK K hHeld OT LV BL HKE
  try simp only [Act.put, lt, ly, lu]
  have hHeld := hHeld2
  clear hHeld2
  refine wpAnyH_done (by kernel_rfl) ?_ _
  clear hHeld
  obtain ⟨r0, r1, r2, r3, r4, r5⟩ := cells6 E_ue.out
  go_wp2_with fail
  refine bodyPost_ret (v := .agg #[.bool (decide (l.num < 0)), .slice C11 (len l.num.natAbs) j11, .slice C12 (len l.den) j12, .bool (decide (h.num < 0)), .slice C17 (len h.num.natAbs) j17, .slice C18 (len h.den) j18]) ?_ rfl ⟨_, rfl, FE.out, FB.out⟩
  simp [results, Tryz.results82, go_sem, r0, r1, r2, r3, r4, r5]
theorem rootBoxR_any {w : World} {vx vy : Value} {a b g l h : Rat} (el : lowRt a g = l) (eh : highRt b g = h) (ha0 : 0 ≤ a) (hab : a ≤ b) (hg0 : 0 < g) (hx : IsRBox w vx a b) (hy : IsRat w vy g) (sa : siz a ≤ 4100) (sb : siz b ≤ 4100) (sg : siz g ≤ 4100) :
    Calls Tryz.prog 83 #[vx, vy] w (RBoxRet w l h) := by
  obtain ⟨m, em⟩ : ∃ z : Rat, lowRt b g = z := ⟨_, rfl⟩
  have hb0 : 0 ≤ b := Rat.le_trans ha0 hab
  have hhl := high_low hg0 hb0
  rw [eh, em] at hhl
  have zm : siz m ≤ 16401 := by rw [← em]; have := siz_low (a := b) (g := g) sb sg; omega
  obtain ⟨s, es⟩ : ∃ z : Rat, m * m = z := ⟨_, rfl⟩
  rw [es] at hhl
  have zs : siz s ≤ 268435456 := by rw [← es]; have := Vx.siz_mul m m; omega
  have tm : siz m ≤ 268435456 := by omega
  have tb : siz b ≤ 268435456 := by omega
  have tg : siz g ≤ 268435456 := by omega
  obtain ⟨c, ec⟩ : ∃ z : Int, cmpQ s b = z := ⟨_, rfl⟩
  clear zm eh
  replace em := hid em
  replace es := hid es
  replace zs := hid zs
  replace tm := hid tm
  replace tb := hid tb
  replace tg := hid tg
  replace ec := hid ec
  replace hb0 := hid hb0
  replace ha0 := hid ha0
  replace hg0 := hid hg0
  replace sa := hid sa
  replace sb := hid sb
  replace sg := hid sg
  replace el := hid el
  clear hab
  rcases Decidable.em (s < b) with hlt | hlt
  · rw [if_pos hlt] at hhl
    have d1 : decide (c < 0) = true := decide_eq_true (by rw [← ec.out]; exact cmpQ_lt0.2 hlt)
    clear hlt
    replace hhl := hid hhl.symm
    obtain ⟨C1, j1, C2, j2, C3, j3, C4, j4, rfl, hxl, hxh⟩ := id hx.opened
    replace hx := hid hx
    replace hxl := hid hxl
    replace hxh := hid hxh
    obtain ⟨C5, j5, C6, j6, rfl, -, -⟩ := id hy.opened
    replace hy := hid hy
    obtain ⟨w1, hw1⟩ : ∃ u, u = (((w.alloc (.cells #[.bool (decide (a.num < 0)), .slice C1 (len a.num.natAbs) j1, .slice C2 (len a.den) j2, .bool (decide (b.num < 0)), .slice C3 (len b.num.natAbs) j3, .slice C4 (len b.den) j4] 76)).alloc (.cells #[.bool (decide (g.num < 0)), .slice C5 (len g.num.natAbs) j5, .slice C6 (len g.den) j6] 33)).alloc (.cells #[.bool false, .slice none 0 0, .slice none 0 0, .bool false, .slice none 0 0, .slice none 0 0] 76)) := ⟨_, rfl⟩
    obtain ⟨b1, g1, g2, g3⟩ := news3' hw1
    replace g1 := hid g1
    replace g2 := hid g2
    replace g3 := hid g3
    replace b1 := hid b1
    go_enter Tryz.func83, Tryz.ntmps83
    go_upto_region 1 with fail
    rw [← hw1]
    clear hw1
    obtain ⟨z_x_0, z_x_1, z_x_2, z_x_3, z_x_4, z_x_5⟩ := cells6 g1.out
    obtain ⟨z_y_0, z_y_1, z_y_2⟩ := cells3 g2.out
    have HX := hid (belowR_any em.out hb0.out hg0.out (hxh.out.keep b1.out) (hy.out.keep b1.out) sb.out sg.out)
    go_wp2_with fail
    refine (HX.out).mono ?_
    rintro e w2 ⟨v2, rfl, hv2, b2⟩
    obtain ⟨C7, j7, C8, j8, rfl, -, -⟩ := id hv2.opened
    replace hv2 := hid hv2
    replace b2 := hid b2
    clear HX
    clear z_x_0 z_x_1 z_x_2 z_x_3 z_x_4 z_x_5 z_y_0 z_y_1 z_y_2
    go_upto_region 2 with fail
    obtain ⟨w3, hw3⟩ : ∃ u, u = w2.alloc (.cells #[.bool (decide (m.num < 0)), .slice C7 (len m.num.natAbs) j7, .slice C8 (len m.den) j8] 33) := ⟨_, rfl⟩
    have b3 := hid (newb1 hw3)
    have L3 := hid (newz1 hw3)
    rw [← hw3]
    clear hw3
    go_wp2_with fail
    obtain ⟨z_m_0, z_m_1, z_m_2⟩ := cells3 L3.out
    have hqa_m : w2.heap.size < w3.heap.size := World.block_lt_of_cell? _ _ z_m_0
    have y1_3 := hid (Below.step b2.out b3.out)
    obtain ⟨z_x_0, z_x_1, z_x_2, z_x_3, z_x_4, z_x_5⟩ := cells6 (at_keep g1.out y1_3.out)
    have hqa_x : w.heap.size < w3.heap.size := World.block_lt_of_cell? _ _ z_x_0
    refine wp_region_held_drew (S := (fun w' => (w'.cell? ⟨w2.heap.size, 0, none⟩ = w3.cell? ⟨w2.heap.size, 0, none⟩ ∧ w'.cell? ⟨w2.heap.size, 1, none⟩ = w3.cell? ⟨w2.heap.size, 1, none⟩ ∧ w'.cell? ⟨w2.heap.size, 2, none⟩ = w3.cell? ⟨w2.heap.size, 2, none⟩ ∧ w'.cell? ⟨w.heap.size, 0, none⟩ = w3.cell? ⟨w.heap.size, 0, none⟩ ∧ w'.cell? ⟨w.heap.size, 1, none⟩ = w3.cell? ⟨w.heap.size, 1, none⟩ ∧ w'.cell? ⟨w.heap.size, 2, none⟩ = w3.cell? ⟨w.heap.size, 2, none⟩ ∧ w'.cell? ⟨w.heap.size, 3, none⟩ = w3.cell? ⟨w.heap.size, 3, none⟩ ∧ w'.cell? ⟨w.heap.size, 4, none⟩ = w3.cell? ⟨w.heap.size, 4, none⟩ ∧ w'.cell? ⟨w.heap.size, 5, none⟩ = w3.cell? ⟨w.heap.size, 5, none⟩))) (by kernel_rfl) ?_ (fun hHeld => ?_)
    · (try dsimp only)
      exact ⟨rfl, rfl, rfl, rfl, rfl, rfl, rfl, rfl, rfl⟩
    obtain ⟨w4, hw4⟩ : ∃ u, u = w3.drew := ⟨_, rfl⟩
    have b4 : Hid (Below w3.heap.size w3 w4) := by rw [hw4]; exact ⟨rfl, rfl, rfl, Nat.le_refl _, fun _ _ => rfl⟩
    rw [← hw4] at hHeld ⊢
    clear hw4
    refine tk (i := 0) (h := ?_)
    try simp only [Act.put, lt, ly, lu]
    refine tk (i := 1) (h := ?_)
    try simp only [Act.put, lt, ly, lu]
    refine tk (i := 3) (h := ?_)
    try simp only [Act.put, lt, ly, lu]
    refine tk (i := 4) (h := ?_)
    try simp only [Act.put, lt, ly, lu]
    have y2_4 := hid (Below.step b3.out b4.out)
    refine wpAnyH_ready (rs := [2]) (by kernel_rfl) (by simp) (AllReadyH.cons (o := ?oq21) ?eq21 ?kq21 AllReadyH.nil)
    case eq21 => simp only [lg, lz, ls]; rfl
    intro K hK; go_simp; go_at_call 28
    refine (mulR_val es.out (hv2.out.keep y2_4.out) (hv2.out.keep y2_4.out) tm.out tm.out).mono ?_
    rintro e w5 ⟨v5, rfl, hv5, b5⟩
    obtain ⟨C9, j9, C10, j10, rfl, -, -⟩ := id hv5.opened
    replace hv5 := hid hv5
    replace b5 := hid b5
    have y3_5 := hid (Below.step b4.out b5.out)
    have hS := y3_5.out
    clear hHeld
    refine hK.out _ _ ?_ (fun hHeld => ?_)
    · (try dsimp only)
      exact ⟨hS.cell (p := ⟨w2.heap.size, 0, none⟩) hqa_m, hS.cell (p := ⟨w2.heap.size, 1, none⟩) hqa_m, hS.cell (p := ⟨w2.heap.size, 2, none⟩) hqa_m, hS.cell (p := ⟨w.heap.size, 0, none⟩) hqa_x, hS.cell (p := ⟨w.heap.size, 1, none⟩) hqa_x, hS.cell (p := ⟨w.heap.size, 2, none⟩) hqa_x, hS.cell (p := ⟨w.heap.size, 3, none⟩) hqa_x, hS.cell (p := ⟨w.heap.size, 4, none⟩) hqa_x, hS.cell (p := ⟨w.heap.size, 5, none⟩) hqa_x⟩
    clear hK K hS; try simp only [Act.put, lt, ly, lu]
    have y0_5 := hid (Below.step (Below.step (Below.step (Below.step b1.out b2.out) b3.out) b4.out) b5.out)
    refine wpAnyH_ready (rs := [5]) (by kernel_rfl) (by simp) (AllReadyH.cons (o := ?oq22) ?eq22 ?kq22 AllReadyH.nil)
    case eq22 => simp only [lg, lz, ls]; rfl
    intro K hK; go_simp; go_at_call 30
    refine (cmpR_val ec.out hv5.out (hxh.out.keep y0_5.out) zs.out tb.out).mono ?_
    rintro e w6 ⟨rfl, b6⟩
    replace b6 := hid b6
    have y3_6 := hid (Below.step y3_5.out b6.out)
    have hS := y3_6.out
    clear hHeld
    refine hK.out _ _ ?_ (fun hHeld => ?_)
    · (try dsimp only)
      exact ⟨hS.cell (p := ⟨w2.heap.size, 0, none⟩) hqa_m, hS.cell (p := ⟨w2.heap.size, 1, none⟩) hqa_m, hS.cell (p := ⟨w2.heap.size, 2, none⟩) hqa_m, hS.cell (p := ⟨w.heap.size, 0, none⟩) hqa_x, hS.cell (p := ⟨w.heap.size, 1, none⟩) hqa_x, hS.cell (p := ⟨w.heap.size, 2, none⟩) hqa_x, hS.cell (p := ⟨w.heap.size, 3, none⟩) hqa_x, hS.cell (p := ⟨w.heap.size, 4, none⟩) hqa_x, hS.cell (p := ⟨w.heap.size, 5, none⟩) hqa_x⟩
    clear hK K hS; try simp only [Act.put, lt, ly, lu]
    refine tk (i := 6) (h := ?_)
    try simp only [Act.put, lt, ly, lu]
    refine wpAnyH_done (by kernel_rfl) ?_ _
    clear hHeld
    clear z_m_0 z_m_1 z_m_2 z_x_0 z_x_1 z_x_2 z_x_3 z_x_4 z_x_5 hqa_m hqa_x
    obtain ⟨z_m_0, z_m_1, z_m_2⟩ := cells3 (at_keep L3.out y3_6.out)
    have y1_6 := hid (Below.step (Below.step (Below.step y1_3.out b4.out) b5.out) b6.out)
    obtain ⟨z_y_0, z_y_1, z_y_2⟩ := cells3 (at_keep g2.out y1_6.out)
    have y2_6 := hid (Below.step (Below.step y2_4.out b5.out) b6.out)
    have y0_6 := hid (Below.step y0_5.out b6.out)
    have HX := hid (addR_val hhl.out (hv2.out.keep y2_6.out) (hy.out.keep y0_6.out) tm.out tg.out)
    go_wp2_with fail
    refine (HX.out).mono ?_
    rintro e w7 ⟨v7, rfl, hv7, b7⟩
    obtain ⟨C11, j11, C12, j12, rfl, -, -⟩ := id hv7.opened
    replace hv7 := hid hv7
    replace b7 := hid b7
    clear HX
    clear z_m_0 z_m_1 z_m_2 z_y_0 z_y_1 z_y_2
    have y3_7 := hid (Below.step y3_6.out b7.out)
    have DM := at_keep L3.out y3_7.out
    have q0 := cell_of_row _ _ 0 _ _ _ DM
    have q1 := cell_of_row _ _ 1 _ _ _ DM
    have q2 := cell_of_row _ _ 2 _ _ _ DM
    have F0 := frozen_of_row w7 (w2.heap.size) 0 _ _ DM
    have F1 := frozen_of_row w7 (w2.heap.size) 1 _ _ DM
    have F2 := frozen_of_row w7 (w2.heap.size) 2 _ _ DM
    simp only [lg, lz, ls] at q0 q1 q2
    have lm : w.heap.size + 2 < w2.heap.size := at_lt (at_keep g3.out b2.out)
    have y1_7 := hid (Below.step y1_6.out b7.out)
    have y0_7 := hid (Below.step y0_6.out b7.out)
    obtain ⟨um, hum⟩ : ∃ z, z = (((w7.setCell ⟨w2.heap.size, 0, none⟩ (.bool (decide (h.num < 0)))).setCell ⟨w2.heap.size, 1, none⟩ (.slice C11 (len h.num.natAbs) j11)).setCell ⟨w2.heap.size, 2, none⟩ (.slice C12 (len h.den) j12)) := ⟨_, rfl⟩
    obtain ⟨EM, OT, LV, BL⟩ := stored3 DM hum
    have gx := hid (OT _ _ (by omega) (at_keep g1.out y1_7.out))
    have gy := hid (OT _ _ (by omega) (at_keep g2.out y1_7.out))
    have gr := hid (OT _ _ (by omega) (at_keep g3.out y1_7.out))
    have hxm := hid (LV.rbox (hx.out.keep y0_7.out))
    have hym := hid (LV.rat (hy.out.keep y0_7.out))
    have hlm := hid (LV.rat (hxl.out.keep y0_7.out))
    have hhm := hid (LV.rat hv7.out)
    have hbm := hid (BL w.heap.size w (by omega) y0_7.out)
    replace EM := hid EM
    replace hum := hid hum
    clear DM OT LV BL b1 b2 b3 b4 b5 b6 b7 g1 g2 g3
    go_upto_region 4 with fail
    rw [← hum.out]
    clear hum q0 q1 q2 F0 F1 F2
    obtain ⟨w8, hwj⟩ : ∃ z, z = um := ⟨_, rfl⟩
    rw [← hwj] at gx gy gr hxm hym hlm hhm hbm EM ⊢
    clear hwj
    go_wp2_with fail
    obtain ⟨z_m_0, z_m_1, z_m_2⟩ := cells3 EM.out
    have hqb_m : w2.heap.size < w8.heap.size := World.block_lt_of_cell? _ _ z_m_0
    obtain ⟨z_x_0, z_x_1, z_x_2, z_x_3, z_x_4, z_x_5⟩ := cells6 gx.out
    have hqb_x : w.heap.size < w8.heap.size := World.block_lt_of_cell? _ _ z_x_0
    obtain ⟨z_y_0, z_y_1, z_y_2⟩ := cells3 gy.out
    have hqb_y : w.heap.size + 1 < w8.heap.size := World.block_lt_of_cell? _ _ z_y_0
    refine wp_region_held_drew (S := (fun w' => (w'.cell? ⟨w2.heap.size, 0, none⟩ = w8.cell? ⟨w2.heap.size, 0, none⟩ ∧ w'.cell? ⟨w2.heap.size, 1, none⟩ = w8.cell? ⟨w2.heap.size, 1, none⟩ ∧ w'.cell? ⟨w2.heap.size, 2, none⟩ = w8.cell? ⟨w2.heap.size, 2, none⟩ ∧ w'.cell? ⟨w.heap.size, 0, none⟩ = w8.cell? ⟨w.heap.size, 0, none⟩ ∧ w'.cell? ⟨w.heap.size, 1, none⟩ = w8.cell? ⟨w.heap.size, 1, none⟩ ∧ w'.cell? ⟨w.heap.size, 2, none⟩ = w8.cell? ⟨w.heap.size, 2, none⟩ ∧ w'.cell? ⟨w.heap.size, 3, none⟩ = w8.cell? ⟨w.heap.size, 3, none⟩ ∧ w'.cell? ⟨w.heap.size, 4, none⟩ = w8.cell? ⟨w.heap.size, 4, none⟩ ∧ w'.cell? ⟨w.heap.size, 5, none⟩ = w8.cell? ⟨w.heap.size, 5, none⟩ ∧ w'.cell? ⟨w.heap.size + 1, 0, none⟩ = w8.cell? ⟨w.heap.size + 1, 0, none⟩ ∧ w'.cell? ⟨w.heap.size + 1, 1, none⟩ = w8.cell? ⟨w.heap.size + 1, 1, none⟩ ∧ w'.cell? ⟨w.heap.size + 1, 2, none⟩ = w8.cell? ⟨w.heap.size + 1, 2, none⟩))) (by kernel_rfl) ?_ (fun hHeld => ?_)
    · (try dsimp only)
      exact ⟨rfl, rfl, rfl, rfl, rfl, rfl, rfl, rfl, rfl, rfl, rfl, rfl⟩
    obtain ⟨w9, hw9⟩ : ∃ u, u = w8.drew := ⟨_, rfl⟩
    have b9 : Hid (Below w8.heap.size w8 w9) := by rw [hw9]; exact ⟨rfl, rfl, rfl, Nat.le_refl _, fun _ _ => rfl⟩
    rw [← hw9] at hHeld ⊢
    clear hw9
    refine tk (i := 0) (h := ?_)
    try simp only [Act.put, lt, ly, lu]
    refine tk (i := 1) (h := ?_)
    try simp only [Act.put, lt, ly, lu]
    refine tk (i := 2) (h := ?_)
    try simp only [Act.put, lt, ly, lu]
    refine tk (i := 4) (h := ?_)
    try simp only [Act.put, lt, ly, lu]
    refine wpAnyH_ready (rs := [3]) (by kernel_rfl) (by simp) (AllReadyH.cons (o := ?oq28) ?eq28 ?kq28 AllReadyH.nil)
    case eq28 => simp only [lg, lz, ls]; rfl
    intro K hK; go_simp; go_at_call 129
    refine (belowR_any el.out ha0.out hg0.out (hlm.out.keep b9.out) (hym.out.keep b9.out) sa.out sg.out).mono ?_
    rintro e w10 ⟨v10, rfl, hv10, b10⟩
    obtain ⟨C13, j13, C14, j14, rfl, -, -⟩ := id hv10.opened
    replace hv10 := hid hv10
    replace b10 := hid b10
    have y8_10 := hid (Below.step b9.out b10.out)
    have hS := y8_10.out
    clear hHeld
    refine hK.out _ _ ?_ (fun hHeld => ?_)
    · (try dsimp only)
      exact ⟨hS.cell (p := ⟨w2.heap.size, 0, none⟩) hqb_m, hS.cell (p := ⟨w2.heap.size, 1, none⟩) hqb_m, hS.cell (p := ⟨w2.heap.size, 2, none⟩) hqb_m, hS.cell (p := ⟨w.heap.size, 0, none⟩) hqb_x, hS.cell (p := ⟨w.heap.size, 1, none⟩) hqb_x, hS.cell (p := ⟨w.heap.size, 2, none⟩) hqb_x, hS.cell (p := ⟨w.heap.size, 3, none⟩) hqb_x, hS.cell (p := ⟨w.heap.size, 4, none⟩) hqb_x, hS.cell (p := ⟨w.heap.size, 5, none⟩) hqb_x, hS.cell (p := ⟨w.heap.size + 1, 0, none⟩) hqb_y, hS.cell (p := ⟨w.heap.size + 1, 1, none⟩) hqb_y, hS.cell (p := ⟨w.heap.size + 1, 2, none⟩) hqb_y⟩
    clear hK K hS; try simp only [Act.put, lt, ly, lu]
    refine tk (i := 5) (h := ?_)
    try simp only [Act.put, lt, ly, lu]
    have Dq30 := (at_keep gr.out y8_10.out)
    refine wpAnyH_ready (rs := [6]) (by kernel_rfl) (by simp) (AllReadyH.cons (o := ?oq30) ?eq30 ?kq30 AllReadyH.nil)
    case eq30 => simp only [lg, lz, ls]; rfl
    intro K hK
    have q0 : w10.cell? ⟨w.heap.size + 2, 0, none⟩ = some (.bool false) := cell_of_row _ _ _ _ _ _ Dq30
    have F0 : w10.frozen? ⟨w.heap.size + 2, 0, none⟩ = false := frozen_of_row w10 (w.heap.size + 2) 0 _ _ Dq30
    have q1 : w10.cell? ⟨w.heap.size + 2, 1, none⟩ = some (.slice none 0 0) := cell_of_row _ _ _ _ _ _ Dq30
    have F1 : w10.frozen? ⟨w.heap.size + 2, 1, none⟩ = false := frozen_of_row w10 (w.heap.size + 2) 1 _ _ Dq30
    have q2 : w10.cell? ⟨w.heap.size + 2, 2, none⟩ = some (.slice none 0 0) := cell_of_row _ _ _ _ _ _ Dq30
    have F2 : w10.frozen? ⟨w.heap.size + 2, 2, none⟩ = false := frozen_of_row w10 (w.heap.size + 2) 2 _ _ Dq30
    have q3 : w10.cell? ⟨w.heap.size + 2, 3, none⟩ = some (.bool false) := cell_of_row _ _ _ _ _ _ Dq30
    have F3 : w10.frozen? ⟨w.heap.size + 2, 3, none⟩ = false := frozen_of_row w10 (w.heap.size + 2) 3 _ _ Dq30
    have q4 : w10.cell? ⟨w.heap.size + 2, 4, none⟩ = some (.slice none 0 0) := cell_of_row _ _ _ _ _ _ Dq30
    have F4 : w10.frozen? ⟨w.heap.size + 2, 4, none⟩ = false := frozen_of_row w10 (w.heap.size + 2) 4 _ _ Dq30
    have q5 : w10.cell? ⟨w.heap.size + 2, 5, none⟩ = some (.slice none 0 0) := cell_of_row _ _ _ _ _ _ Dq30
    have F5 : w10.frozen? ⟨w.heap.size + 2, 5, none⟩ = false := frozen_of_row w10 (w.heap.size + 2) 5 _ _ Dq30
    replace Dq30 := hid Dq30
    go_simp
    clear q0 F0 q1 F1 q2 F2 q3 F3 q4 F4 q5 F5
    have FB := hid (chain hbm.out y8_10.out)
    have FV := hid (IsRat.pair hv10.out (hhm.out.keep y8_10.out))
    have hS := y8_10.out
    obtain ⟨ue, hw⟩ : ∃ z, z = ((((((w10.setCell ⟨w.heap.size + 2, 0, none⟩ (.bool (decide (l.num < 0)))).setCell ⟨w.heap.size + 2, 1, none⟩ (.slice C13 (len l.num.natAbs) j13)).setCell ⟨w.heap.size + 2, 2, none⟩ (.slice C14 (len l.den) j14)).setCell ⟨w.heap.size + 2, 3, none⟩ (.bool (decide (h.num < 0)))).setCell ⟨w.heap.size + 2, 4, none⟩ (.slice C11 (len h.num.natAbs) j11)).setCell ⟨w.heap.size + 2, 5, none⟩ (.slice C12 (len h.den) j12)) := ⟨_, rfl⟩
    obtain ⟨E_ue, OT, LV, BL⟩ := stored6 Dq30.out hw
    rw [← hw]
    clear hw
    replace E_ue := hid E_ue
    have FE := hid (LV.rbox FV.out)
    replace FB := hid (BL _ _ (by omega) FB.out)
    have hO_m := cells3 (OT _ _ (by omega) (at_keep EM.out y8_10.out))
    have hO_x := cells6 (OT _ _ (by omega) (at_keep gx.out y8_10.out))
    have hO_y := cells3 (OT _ _ (by omega) (at_keep gy.out y8_10.out))
    refine hK.out _ _ ?_ (fun hHeld2 => ?_)
    · (try dsimp only)
      exact ⟨hO_m.1.trans z_m_0.symm, hO_m.2.1.trans z_m_1.symm, hO_m.2.2.trans z_m_2.symm, hO_x.1.trans z_x_0.symm, hO_x.2.1.trans z_x_1.symm, hO_x.2.2.1.trans z_x_2.symm, hO_x.2.2.2.1.trans z_x_3.symm, hO_x.2.2.2.2.1.trans z_x_4.symm, hO_x.2.2.2.2.2.trans z_x_5.symm, hO_y.1.trans z_y_0.symm, hO_y.2.1.trans z_y_1.symm, hO_y.2.2.trans z_y_2.symm⟩
    clear hK K hHeld OT LV BL hS hO_m hO_x hO_y
    try simp only [Act.put, lt, ly, lu]
    have hHeld := hHeld2
    clear hHeld2
    refine wpAnyH_done (by kernel_rfl) ?_ _
    clear hHeld
    obtain ⟨r0, r1, r2, r3, r4, r5⟩ := cells6 E_ue.out
    go_wp2_with fail
    refine bodyPost_ret (v := .agg #[.bool (decide (l.num < 0)), .slice C13 (len l.num.natAbs) j13, .slice C14 (len l.den) j14, .bool (decide (h.num < 0)), .slice C11 (len h.num.natAbs) j11, .slice C12 (len h.den) j12]) ?_ rfl ⟨_, rfl, FE.out, FB.out⟩
    simp [results, Tryz.results83, go_sem, r0, r1, r2, r3, r4, r5]
  · rw [if_neg hlt] at hhl
    have d1 : decide (c < 0) = false := decide_eq_false (by rw [← ec.out]; exact fun k => hlt (cmpQ_lt0.1 k))
    clear hlt
    subst hhl
    obtain ⟨C15, j15, C16, j16, C17, j17, C18, j18, rfl, hxl, hxh⟩ := id hx.opened
    replace hx := hid hx
    replace hxl := hid hxl
    replace hxh := hid hxh
    obtain ⟨C19, j19, C20, j20, rfl, -, -⟩ := id hy.opened
    replace hy := hid hy
    obtain ⟨w1, hw1⟩ : ∃ u, u = (((w.alloc (.cells #[.bool (decide (a.num < 0)), .slice C15 (len a.num.natAbs) j15, .slice C16 (len a.den) j16, .bool (decide (b.num < 0)), .slice C17 (len b.num.natAbs) j17, .slice C18 (len b.den) j18] 76)).alloc (.cells #[.bool (decide (g.num < 0)), .slice C19 (len g.num.natAbs) j19, .slice C20 (len g.den) j20] 33)).alloc (.cells #[.bool false, .slice none 0 0, .slice none 0 0, .bool false, .slice none 0 0, .slice none 0 0] 76)) := ⟨_, rfl⟩
    obtain ⟨b1, g1, g2, g3⟩ := news3' hw1
    replace g1 := hid g1
    replace g2 := hid g2
    replace g3 := hid g3
    replace b1 := hid b1
    go_enter Tryz.func83, Tryz.ntmps83
    go_upto_region 1 with fail
    rw [← hw1]
    clear hw1
    obtain ⟨z_x_0, z_x_1, z_x_2, z_x_3, z_x_4, z_x_5⟩ := cells6 g1.out
    obtain ⟨z_y_0, z_y_1, z_y_2⟩ := cells3 g2.out
    have HX := hid (belowR_any em.out hb0.out hg0.out (hxh.out.keep b1.out) (hy.out.keep b1.out) sb.out sg.out)
    go_wp2_with fail
    refine (HX.out).mono ?_
    rintro e w2 ⟨v2, rfl, hv2, b2⟩
    obtain ⟨C21, j21, C22, j22, rfl, -, -⟩ := id hv2.opened
    replace hv2 := hid hv2
    replace b2 := hid b2
    clear HX
    clear z_x_0 z_x_1 z_x_2 z_x_3 z_x_4 z_x_5 z_y_0 z_y_1 z_y_2
    go_upto_region 2 with fail
    obtain ⟨w3, hw3⟩ : ∃ u, u = w2.alloc (.cells #[.bool (decide (h.num < 0)), .slice C21 (len h.num.natAbs) j21, .slice C22 (len h.den) j22] 33) := ⟨_, rfl⟩
    have b3 := hid (newb1 hw3)
    have L3 := hid (newz1 hw3)
    rw [← hw3]
    clear hw3
    go_wp2_with fail
    obtain ⟨z_m_0, z_m_1, z_m_2⟩ := cells3 L3.out
    have hqa_m : w2.heap.size < w3.heap.size := World.block_lt_of_cell? _ _ z_m_0
    have y1_3 := hid (Below.step b2.out b3.out)
    obtain ⟨z_x_0, z_x_1, z_x_2, z_x_3, z_x_4, z_x_5⟩ := cells6 (at_keep g1.out y1_3.out)
    have hqa_x : w.heap.size < w3.heap.size := World.block_lt_of_cell? _ _ z_x_0
    refine wp_region_held_drew (S := (fun w' => (w'.cell? ⟨w2.heap.size, 0, none⟩ = w3.cell? ⟨w2.heap.size, 0, none⟩ ∧ w'.cell? ⟨w2.heap.size, 1, none⟩ = w3.cell? ⟨w2.heap.size, 1, none⟩ ∧ w'.cell? ⟨w2.heap.size, 2, none⟩ = w3.cell? ⟨w2.heap.size, 2, none⟩ ∧ w'.cell? ⟨w.heap.size, 0, none⟩ = w3.cell? ⟨w.heap.size, 0, none⟩ ∧ w'.cell? ⟨w.heap.size, 1, none⟩ = w3.cell? ⟨w.heap.size, 1, none⟩ ∧ w'.cell? ⟨w.heap.size, 2, none⟩ = w3.cell? ⟨w.heap.size, 2, none⟩ ∧ w'.cell? ⟨w.heap.size, 3, none⟩ = w3.cell? ⟨w.heap.size, 3, none⟩ ∧ w'.cell? ⟨w.heap.size, 4, none⟩ = w3.cell? ⟨w.heap.size, 4, none⟩ ∧ w'.cell? ⟨w.heap.size, 5, none⟩ = w3.cell? ⟨w.heap.size, 5, none⟩))) (by kernel_rfl) ?_ (fun hHeld => ?_)
    · (try dsimp only)
      exact ⟨rfl, rfl, rfl, rfl, rfl, rfl, rfl, rfl, rfl⟩
    obtain ⟨w4, hw4⟩ : ∃ u, u = w3.drew := ⟨_, rfl⟩
    have b4 : Hid (Below w3.heap.size w3 w4) := by rw [hw4]; exact ⟨rfl, rfl, rfl, Nat.le_refl _, fun _ _ => rfl⟩
    rw [← hw4] at hHeld ⊢
    clear hw4
    refine tk (i := 0) (h := ?_)
    try simp only [Act.put, lt, ly, lu]
    refine tk (i := 1) (h := ?_)
    try simp only [Act.put, lt, ly, lu]
    refine tk (i := 3) (h := ?_)
    try simp only [Act.put, lt, ly, lu]
    refine tk (i := 4) (h := ?_)
    try simp only [Act.put, lt, ly, lu]
    have y2_4 := hid (Below.step b3.out b4.out)
    refine wpAnyH_ready (rs := [2]) (by kernel_rfl) (by simp) (AllReadyH.cons (o := ?oq35) ?eq35 ?kq35 AllReadyH.nil)
    case eq35 => simp only [lg, lz, ls]; rfl
    intro K hK; go_simp; go_at_call 28
    refine (mulR_val es.out (hv2.out.keep y2_4.out) (hv2.out.keep y2_4.out) tm.out tm.out).mono ?_
    rintro e w5 ⟨v5, rfl, hv5, b5⟩
    obtain ⟨C23, j23, C24, j24, rfl, -, -⟩ := id hv5.opened
    replace hv5 := hid hv5
    replace b5 := hid b5
    have y3_5 := hid (Below.step b4.out b5.out)
    have hS := y3_5.out
    clear hHeld
    refine hK.out _ _ ?_ (fun hHeld => ?_)
    · (try dsimp only)
      exact ⟨hS.cell (p := ⟨w2.heap.size, 0, none⟩) hqa_m, hS.cell (p := ⟨w2.heap.size, 1, none⟩) hqa_m, hS.cell (p := ⟨w2.heap.size, 2, none⟩) hqa_m, hS.cell (p := ⟨w.heap.size, 0, none⟩) hqa_x, hS.cell (p := ⟨w.heap.size, 1, none⟩) hqa_x, hS.cell (p := ⟨w.heap.size, 2, none⟩) hqa_x, hS.cell (p := ⟨w.heap.size, 3, none⟩) hqa_x, hS.cell (p := ⟨w.heap.size, 4, none⟩) hqa_x, hS.cell (p := ⟨w.heap.size, 5, none⟩) hqa_x⟩
    clear hK K hS; try simp only [Act.put, lt, ly, lu]
    have y0_5 := hid (Below.step (Below.step (Below.step (Below.step b1.out b2.out) b3.out) b4.out) b5.out)
    refine wpAnyH_ready (rs := [5]) (by kernel_rfl) (by simp) (AllReadyH.cons (o := ?oq36) ?eq36 ?kq36 AllReadyH.nil)
    case eq36 => simp only [lg, lz, ls]; rfl
    intro K hK; go_simp; go_at_call 30
    refine (cmpR_val ec.out hv5.out (hxh.out.keep y0_5.out) zs.out tb.out).mono ?_
    rintro e w6 ⟨rfl, b6⟩
    replace b6 := hid b6
    have y3_6 := hid (Below.step y3_5.out b6.out)
    have hS := y3_6.out
    clear hHeld
    refine hK.out _ _ ?_ (fun hHeld => ?_)
    · (try dsimp only)
      exact ⟨hS.cell (p := ⟨w2.heap.size, 0, none⟩) hqa_m, hS.cell (p := ⟨w2.heap.size, 1, none⟩) hqa_m, hS.cell (p := ⟨w2.heap.size, 2, none⟩) hqa_m, hS.cell (p := ⟨w.heap.size, 0, none⟩) hqa_x, hS.cell (p := ⟨w.heap.size, 1, none⟩) hqa_x, hS.cell (p := ⟨w.heap.size, 2, none⟩) hqa_x, hS.cell (p := ⟨w.heap.size, 3, none⟩) hqa_x, hS.cell (p := ⟨w.heap.size, 4, none⟩) hqa_x, hS.cell (p := ⟨w.heap.size, 5, none⟩) hqa_x⟩
    clear hK K hS; try simp only [Act.put, lt, ly, lu]
    refine tk (i := 6) (h := ?_)
    try simp only [Act.put, lt, ly, lu]
    refine wpAnyH_done (by kernel_rfl) ?_ _
    clear hHeld
    clear z_m_0 z_m_1 z_m_2 z_x_0 z_x_1 z_x_2 z_x_3 z_x_4 z_x_5 hqa_m hqa_x
    have lm : w.heap.size + 2 < w2.heap.size := at_lt (at_keep g3.out b2.out)
    go_upto_region 4 with fail
    go_wp2_with fail
    obtain ⟨z_m_0, z_m_1, z_m_2⟩ := cells3 (at_keep L3.out y3_6.out)
    have hqb_m : w2.heap.size < w6.heap.size := World.block_lt_of_cell? _ _ z_m_0
    have y1_6 := hid (Below.step (Below.step (Below.step y1_3.out b4.out) b5.out) b6.out)
    obtain ⟨z_x_0, z_x_1, z_x_2, z_x_3, z_x_4, z_x_5⟩ := cells6 (at_keep g1.out y1_6.out)
    have hqb_x : w.heap.size < w6.heap.size := World.block_lt_of_cell? _ _ z_x_0
    obtain ⟨z_y_0, z_y_1, z_y_2⟩ := cells3 (at_keep g2.out y1_6.out)
    have hqb_y : w.heap.size + 1 < w6.heap.size := World.block_lt_of_cell? _ _ z_y_0
    refine wp_region_held_drew (S := (fun w' => (w'.cell? ⟨w2.heap.size, 0, none⟩ = w6.cell? ⟨w2.heap.size, 0, none⟩ ∧ w'.cell? ⟨w2.heap.size, 1, none⟩ = w6.cell? ⟨w2.heap.size, 1, none⟩ ∧ w'.cell? ⟨w2.heap.size, 2, none⟩ = w6.cell? ⟨w2.heap.size, 2, none⟩ ∧ w'.cell? ⟨w.heap.size, 0, none⟩ = w6.cell? ⟨w.heap.size, 0, none⟩ ∧ w'.cell? ⟨w.heap.size, 1, none⟩ = w6.cell? ⟨w.heap.size, 1, none⟩ ∧ w'.cell? ⟨w.heap.size, 2, none⟩ = w6.cell? ⟨w.heap.size, 2, none⟩ ∧ w'.cell? ⟨w.heap.size, 3, none⟩ = w6.cell? ⟨w.heap.size, 3, none⟩ ∧ w'.cell? ⟨w.heap.size, 4, none⟩ = w6.cell? ⟨w.heap.size, 4, none⟩ ∧ w'.cell? ⟨w.heap.size, 5, none⟩ = w6.cell? ⟨w.heap.size, 5, none⟩ ∧ w'.cell? ⟨w.heap.size + 1, 0, none⟩ = w6.cell? ⟨w.heap.size + 1, 0, none⟩ ∧ w'.cell? ⟨w.heap.size + 1, 1, none⟩ = w6.cell? ⟨w.heap.size + 1, 1, none⟩ ∧ w'.cell? ⟨w.heap.size + 1, 2, none⟩ = w6.cell? ⟨w.heap.size + 1, 2, none⟩))) (by kernel_rfl) ?_ (fun hHeld => ?_)
    · (try dsimp only)
      exact ⟨rfl, rfl, rfl, rfl, rfl, rfl, rfl, rfl, rfl, rfl, rfl, rfl⟩
    obtain ⟨w7, hw7⟩ : ∃ u, u = w6.drew := ⟨_, rfl⟩
    have b7 : Hid (Below w6.heap.size w6 w7) := by rw [hw7]; exact ⟨rfl, rfl, rfl, Nat.le_refl _, fun _ _ => rfl⟩
    rw [← hw7] at hHeld ⊢
    clear hw7
    refine tk (i := 0) (h := ?_)
    try simp only [Act.put, lt, ly, lu]
    refine tk (i := 1) (h := ?_)
    try simp only [Act.put, lt, ly, lu]
    refine tk (i := 2) (h := ?_)
    try simp only [Act.put, lt, ly, lu]
    refine tk (i := 4) (h := ?_)
    try simp only [Act.put, lt, ly, lu]
    have y0_7 := hid (Below.step (Below.step y0_5.out b6.out) b7.out)
    refine wpAnyH_ready (rs := [3]) (by kernel_rfl) (by simp) (AllReadyH.cons (o := ?oq42) ?eq42 ?kq42 AllReadyH.nil)
    case eq42 => simp only [lg, lz, ls]; rfl
    intro K hK; go_simp; go_at_call 129
    refine (belowR_any el.out ha0.out hg0.out (hxl.out.keep y0_7.out) (hy.out.keep y0_7.out) sa.out sg.out).mono ?_
    rintro e w8 ⟨v8, rfl, hv8, b8⟩
    obtain ⟨C25, j25, C26, j26, rfl, -, -⟩ := id hv8.opened
    replace hv8 := hid hv8
    replace b8 := hid b8
    have y6_8 := hid (Below.step b7.out b8.out)
    have hS := y6_8.out
    clear hHeld
    refine hK.out _ _ ?_ (fun hHeld => ?_)
    · (try dsimp only)
      exact ⟨hS.cell (p := ⟨w2.heap.size, 0, none⟩) hqb_m, hS.cell (p := ⟨w2.heap.size, 1, none⟩) hqb_m, hS.cell (p := ⟨w2.heap.size, 2, none⟩) hqb_m, hS.cell (p := ⟨w.heap.size, 0, none⟩) hqb_x, hS.cell (p := ⟨w.heap.size, 1, none⟩) hqb_x, hS.cell (p := ⟨w.heap.size, 2, none⟩) hqb_x, hS.cell (p := ⟨w.heap.size, 3, none⟩) hqb_x, hS.cell (p := ⟨w.heap.size, 4, none⟩) hqb_x, hS.cell (p := ⟨w.heap.size, 5, none⟩) hqb_x, hS.cell (p := ⟨w.heap.size + 1, 0, none⟩) hqb_y, hS.cell (p := ⟨w.heap.size + 1, 1, none⟩) hqb_y, hS.cell (p := ⟨w.heap.size + 1, 2, none⟩) hqb_y⟩
    clear hK K hS; try simp only [Act.put, lt, ly, lu]
    refine tk (i := 5) (h := ?_)
    try simp only [Act.put, lt, ly, lu]
    have y1_8 := hid (Below.step (Below.step y1_6.out b7.out) b8.out)
    have y2_8 := hid (Below.step (Below.step (Below.step (Below.step y2_4.out b5.out) b6.out) b7.out) b8.out)
    have Dq44 := (at_keep g3.out y1_8.out)
    refine wpAnyH_ready (rs := [6]) (by kernel_rfl) (by simp) (AllReadyH.cons (o := ?oq44) ?eq44 ?kq44 AllReadyH.nil)
    case eq44 => simp only [lg, lz, ls]; rfl
    intro K hK
    have q0 : w8.cell? ⟨w.heap.size + 2, 0, none⟩ = some (.bool false) := cell_of_row _ _ _ _ _ _ Dq44
    have F0 : w8.frozen? ⟨w.heap.size + 2, 0, none⟩ = false := frozen_of_row w8 (w.heap.size + 2) 0 _ _ Dq44
    have q1 : w8.cell? ⟨w.heap.size + 2, 1, none⟩ = some (.slice none 0 0) := cell_of_row _ _ _ _ _ _ Dq44
    have F1 : w8.frozen? ⟨w.heap.size + 2, 1, none⟩ = false := frozen_of_row w8 (w.heap.size + 2) 1 _ _ Dq44
    have q2 : w8.cell? ⟨w.heap.size + 2, 2, none⟩ = some (.slice none 0 0) := cell_of_row _ _ _ _ _ _ Dq44
    have F2 : w8.frozen? ⟨w.heap.size + 2, 2, none⟩ = false := frozen_of_row w8 (w.heap.size + 2) 2 _ _ Dq44
    have q3 : w8.cell? ⟨w.heap.size + 2, 3, none⟩ = some (.bool false) := cell_of_row _ _ _ _ _ _ Dq44
    have F3 : w8.frozen? ⟨w.heap.size + 2, 3, none⟩ = false := frozen_of_row w8 (w.heap.size + 2) 3 _ _ Dq44
    have q4 : w8.cell? ⟨w.heap.size + 2, 4, none⟩ = some (.slice none 0 0) := cell_of_row _ _ _ _ _ _ Dq44
    have F4 : w8.frozen? ⟨w.heap.size + 2, 4, none⟩ = false := frozen_of_row w8 (w.heap.size + 2) 4 _ _ Dq44
    have q5 : w8.cell? ⟨w.heap.size + 2, 5, none⟩ = some (.slice none 0 0) := cell_of_row _ _ _ _ _ _ Dq44
    have F5 : w8.frozen? ⟨w.heap.size + 2, 5, none⟩ = false := frozen_of_row w8 (w.heap.size + 2) 5 _ _ Dq44
    replace Dq44 := hid Dq44
    go_simp
    clear q0 F0 q1 F1 q2 F2 q3 F3 q4 F4 q5 F5
    have y0_8 := hid (Below.step y0_7.out b8.out)
    have FB := hid y0_8.out
    have FV := hid (IsRat.pair hv8.out (hv2.out.keep y2_8.out))
    have hS := y6_8.out
    obtain ⟨ue, hw⟩ : ∃ z, z = ((((((w8.setCell ⟨w.heap.size + 2, 0, none⟩ (.bool (decide (l.num < 0)))).setCell ⟨w.heap.size + 2, 1, none⟩ (.slice C25 (len l.num.natAbs) j25)).setCell ⟨w.heap.size + 2, 2, none⟩ (.slice C26 (len l.den) j26)).setCell ⟨w.heap.size + 2, 3, none⟩ (.bool (decide (h.num < 0)))).setCell ⟨w.heap.size + 2, 4, none⟩ (.slice C21 (len h.num.natAbs) j21)).setCell ⟨w.heap.size + 2, 5, none⟩ (.slice C22 (len h.den) j22)) := ⟨_, rfl⟩
    obtain ⟨E_ue, OT, LV, BL⟩ := stored6 Dq44.out hw
    rw [← hw]
    clear hw
    replace E_ue := hid E_ue
    have FE := hid (LV.rbox FV.out)
    replace FB := hid (BL _ _ (by omega) FB.out)
    have y3_8 := hid (Below.step (Below.step y3_6.out b7.out) b8.out)
    have hO_m := cells3 (OT _ _ (by omega) (at_keep L3.out y3_8.out))
    have hO_x := cells6 (OT _ _ (by omega) (at_keep g1.out y1_8.out))
    have hO_y := cells3 (OT _ _ (by omega) (at_keep g2.out y1_8.out))
    refine hK.out _ _ ?_ (fun hHeld2 => ?_)
    · (try dsimp only)
      exact ⟨hO_m.1.trans z_m_0.symm, hO_m.2.1.trans z_m_1.symm, hO_m.2.2.trans z_m_2.symm, hO_x.1.trans z_x_0.symm, hO_x.2.1.trans z_x_1.symm, hO_x.2.2.1.trans z_x_2.symm, hO_x.2.2.2.1.trans z_x_3.symm, hO_x.2.2.2.2.1.trans z_x_4.symm, hO_x.2.2.2.2.2.trans z_x_5.symm, hO_y.1.trans z_y_0.symm, hO_y.2.1.trans z_y_1.symm, hO_y.2.2.trans z_y_2.symm⟩
    clear hK K hHeld OT LV BL hS hO_m hO_x hO_y
    try simp only [Act.put, lt, ly, lu]
    have hHeld := hHeld2
    clear hHeld2
    refine wpAnyH_done (by kernel_rfl) ?_ _
    clear hHeld
    obtain ⟨r0, r1, r2, r3, r4, r5⟩ := cells6 E_ue.out
    go_wp2_with fail
    refine bodyPost_ret (v := .agg #[.bool (decide (l.num < 0)), .slice C25 (len l.num.natAbs) j25, .slice C26 (len l.den) j26, .bool (decide (h.num < 0)), .slice C21 (len h.num.natAbs) j21, .slice C22 (len h.den) j22]) ?_ rfl ⟨_, rfl, FE.out, FB.out⟩
    simp [results, Tryz.results83, go_sem, r0, r1, r2, r3, r4, r5]
end Go.Proofs.YtfppimacnhcflaaGreatDoor.Rf
