/-
  Contracts of the functions that the law calls, for every input (NumE NumF).
-/
import Derived.Test.YtfppimacnhcflaaGreatDoorB17
set_option linter.all false
namespace Go.Proofs.YtfppimacnhcflaaGreatDoor
open Go.RowKit
open Vx

set_option maxRecDepth 100000 in
set_option maxHeartbeats 2000000 in
theorem mul_int {w : World} {vx vy : Value} {x y : Rat} (hx : IsNum w vx x) (hy : IsNum w vy y) (hs : siz x ≤ 34359738368) (ht : siz y ≤ 34359738368) (hdx : x.den = 1) (hdy : y.den = 1) :
    Calls Tryz.prog 27 #[vx, vy] w (NumRet w (x * y)) := by
  obtain ⟨A1, c1, A2, c2, rfl, hx1, hx2⟩ := hx.opened
  obtain ⟨A3, c3, A4, c4, rfl, hy1, hy2⟩ := hy.opened
  obtain ⟨wB, hwB⟩ : ∃ u, u = ((w.alloc (.cells #[.bool (decide (x.num < 0)), .slice A1 (len x.num.natAbs) c1, .slice A2 (len (below x.den)) c2] 25)).alloc (.cells #[.bool (decide (y.num < 0)), .slice A3 (len y.num.natAbs) c3, .slice A4 (len (below y.den)) c4] 25)).alloc (.cells #[.bool false, .slice none 0 0, .slice none 0 0] 25) := ⟨_, rfl⟩
  obtain ⟨b0, gA, gA2, gB⟩ := news3 w (.cells #[.bool (decide (x.num < 0)), .slice A1 (len x.num.natAbs) c1, .slice A2 (len (below x.den)) c2] 25) (.cells #[.bool (decide (y.num < 0)), .slice A3 (len y.num.natAbs) c3, .slice A4 (len (below y.den)) c4] 25) (.cells #[.bool false, .slice none 0 0, .slice none 0 0] 25)
  rw [← hwB] at b0 gA gA2 gB
  have k0 : wB.cell? ⟨w.heap.size, 0, none⟩ = some (.bool (decide (x.num < 0))) := cell_of_row _ _ _ _ _ _ gA
  have k1 : wB.cell? ⟨w.heap.size, 1, none⟩ = some (.slice A1 (len x.num.natAbs) c1) := cell_of_row _ _ _ _ _ _ gA
  have k2 : wB.cell? ⟨w.heap.size, 2, none⟩ = some (.slice A2 (len (below x.den)) c2) := cell_of_row _ _ _ _ _ _ gA
  have k3 : wB.cell? ⟨w.heap.size + 1, 0, none⟩ = some (.bool (decide (y.num < 0))) := cell_of_row _ _ _ _ _ _ gA2
  have k4 : wB.cell? ⟨w.heap.size + 1, 1, none⟩ = some (.slice A3 (len y.num.natAbs) c3) := cell_of_row _ _ _ _ _ _ gA2
  have k5 : wB.cell? ⟨w.heap.size + 1, 2, none⟩ = some (.slice A4 (len (below y.den)) c4) := cell_of_row _ _ _ _ _ _ gA2
  have HK0 := Lib.hid (Kept.start (T := 25) rfl (plain3 _ _ _ _ _ _ _) gB)
  have HB0 := Lib.hid b0
  have hlt1 : w.heap.size < w.heap.size + 2 := by omega
  have hlt2 : w.heap.size + 1 < w.heap.size + 2 := by omega
  clear gA gA2 gB b0
  have t1 := len_below_zero hdx
  have t2 := len_below_zero hdy
  have hl1 := siz_num x
  have hl2 := siz_num y
  have HX := fun (w' : World) (hk : Below w.heap.size w w') => Lib.hid (mul_any (hx1.keep hk) (hy1.keep hk) (Nat.le_trans hl1 (Nat.le_trans hs (by decide))) (Nat.le_trans hl2 (Nat.le_trans ht (by decide))))
  have HE := Lib.hid (mul_ints hdx hdy)
  clear hdx hdy hl1 hl2
  go_enter Tryz.func27, Tryz.ntmps27
  go_wp2_with fail
  rw [← hwB]
  clear hwB
  refine ((HX _ HB0.out).out).mono ?_
  rintro e w1 ⟨v, rfl, hv, b1⟩
  have HF := Lib.hid (fraction_int (neg := decide (x.num < 0) != decide (y.num < 0)) (q := x * y) hv (by rw [sgn_mul, sgn_self, sgn_self]; exact HE.out))
  have HK1 := Lib.hid (HK0.out.call b1)
  go_wp2_with fail
  refine (HF.out).mono ?_
  rintro e w2 ⟨v2, rfl, hv2, b2⟩
  obtain ⟨B1, e1, B2, e2, rfl, -, -⟩ := hv2.opened
  have hk := (HK1.out.call b2).held (Stay.refl _)
  obtain ⟨-, c0, c1, c2, f0, f1, f2, -⟩ := id hk
  have HD := hk.done (q := x * y) (b := decide ((x * y).num < 0)) (A1 := B1) (n1 := len (x * y).num.natAbs) (c1 := e1) (A2 := B2) (n2 := len (below (x * y).den)) (c2 := e2) (hv2)
  obtain ⟨d1, d2, d3⟩ := HD
  have r0 := cell_of_row _ _ 0 _ _ _ d3
  have r1 := cell_of_row _ _ 1 _ _ _ d3
  have r2 := cell_of_row _ _ 2 _ _ _ d3
  simp only [List.getElem?_toArray, List.getElem?_cons_zero, List.getElem?_cons_succ] at r0 r1 r2
  have HD := Lib.hid (And.intro d1 d2)
  clear d1 d2 d3
  go_wp2_with fail
  refine bodyPost_ret (v := .agg #[.bool (decide ((x * y).num < 0)), .slice (B1) (len (x * y).num.natAbs) (e1), .slice (B2) (len (below (x * y).den)) (e2)]) ?_ rfl ⟨_, rfl, HD.out.1, below_to HB0.out (by omega) HD.out.2⟩
  simp [results, Tryz.results27, go_sem, r0, r1, r2]
theorem mul_sizes {x y : Rat} {g h : Nat} (hs : siz x ≤ 34359738368) (ht : siz y ≤ 34359738368) :
    len x.num.natAbs ≤ 34359738368 ∧ len y.num.natAbs ≤ 34359738368 ∧ len x.den ≤ 34359738368 ∧ len y.den ≤ 34359738368 ∧ len (x.num.natAbs / g) ≤ 34359738368 ∧ len (y.num.natAbs / h) ≤ 34359738368 ∧ len (x.den / h) ≤ 34359738368 ∧ len (y.den / g) ≤ 34359738368 := by
  have := siz_num x; have := siz_num y; have := siz_den x; have := siz_den y
  have := len_mono (Nat.div_le_self x.den h); have := len_mono (Nat.div_le_self y.den g)
  have := len_mono (Nat.div_le_self x.num.natAbs g); have := len_mono (Nat.div_le_self y.num.natAbs h)
  omega

set_option maxRecDepth 100000 in
set_option maxHeartbeats 4000000 in
theorem mul_frac_a {w : World} {vx vy : Value} {x y : Rat} (hx : IsNum w vx x) (hy : IsNum w vy y) (hs : siz x ≤ 34359738368) (ht : siz y ≤ 34359738368) (hd : x.den ≠ 1) :
    Calls Tryz.prog 27 #[vx, vy] w (NumRet w (x * y)) := by
  obtain ⟨A1, c1, A2, c2, rfl, hx1, hx2⟩ := hx.opened
  obtain ⟨A3, c3, A4, c4, rfl, hy1, hy2⟩ := hy.opened
  obtain ⟨wB, hwB⟩ : ∃ u, u = ((w.alloc (.cells #[.bool (decide (x.num < 0)), .slice A1 (len x.num.natAbs) c1, .slice A2 (len (below x.den)) c2] 25)).alloc (.cells #[.bool (decide (y.num < 0)), .slice A3 (len y.num.natAbs) c3, .slice A4 (len (below y.den)) c4] 25)).alloc (.cells #[.bool false, .slice none 0 0, .slice none 0 0] 25) := ⟨_, rfl⟩
  obtain ⟨b0, gA, gA2, gB⟩ := news3 w (.cells #[.bool (decide (x.num < 0)), .slice A1 (len x.num.natAbs) c1, .slice A2 (len (below x.den)) c2] 25) (.cells #[.bool (decide (y.num < 0)), .slice A3 (len y.num.natAbs) c3, .slice A4 (len (below y.den)) c4] 25) (.cells #[.bool false, .slice none 0 0, .slice none 0 0] 25)
  rw [← hwB] at b0 gA gA2 gB
  have k0 : wB.cell? ⟨w.heap.size, 0, none⟩ = some (.bool (decide (x.num < 0))) := cell_of_row _ _ _ _ _ _ gA
  have k1 : wB.cell? ⟨w.heap.size, 1, none⟩ = some (.slice A1 (len x.num.natAbs) c1) := cell_of_row _ _ _ _ _ _ gA
  have k2 : wB.cell? ⟨w.heap.size, 2, none⟩ = some (.slice A2 (len (below x.den)) c2) := cell_of_row _ _ _ _ _ _ gA
  have k3 : wB.cell? ⟨w.heap.size + 1, 0, none⟩ = some (.bool (decide (y.num < 0))) := cell_of_row _ _ _ _ _ _ gA2
  have k4 : wB.cell? ⟨w.heap.size + 1, 1, none⟩ = some (.slice A3 (len y.num.natAbs) c3) := cell_of_row _ _ _ _ _ _ gA2
  have k5 : wB.cell? ⟨w.heap.size + 1, 2, none⟩ = some (.slice A4 (len (below y.den)) c4) := cell_of_row _ _ _ _ _ _ gA2
  have HK0 := Lib.hid (Kept.start (T := 25) rfl (plain3 _ _ _ _ _ _ _) gB)
  have HB0 := Lib.hid b0
  have hlt1 : w.heap.size < w.heap.size + 2 := by omega
  have hlt2 : w.heap.size + 1 < w.heap.size + 2 := by omega
  clear gA gA2 gB b0
  have t1 := len_below_pos x.den_pos hd
  clear hd
  have HX := fun (w' : World) (hk : Held3 wB (w.heap.size + 2) wB w') => Lib.hid (bottom_any (hx.keep (below_to HB0.out (by omega) hk.kept.1)))
  have HY := fun (w' : World) (hk : Held3 wB (w.heap.size + 2) wB w') => Lib.hid (bottom_any (hy.keep (below_to HB0.out (by omega) hk.kept.1)))
  have H0 := HK0.out.begin
  obtain ⟨g, hg⟩ : ∃ g, g = Nat.gcd x.num.natAbs y.den := ⟨_, rfl⟩
  obtain ⟨h, hh⟩ : ∃ h, h = Nat.gcd y.num.natAbs x.den := ⟨_, rfl⟩
  have HG := Lib.hid hg
  have HH := Lib.hid hh
  have HP := Lib.hid (mul_parts hg hh)
  have HS := Lib.hid (mul_sizes (g := g) (h := h) hs ht)
  have g0 : 0 < g := HP.out.2.2.1
  have h0 : 0 < h := HP.out.2.2.2
  have gx : 0 < x.den := x.den_pos
  have gy : 0 < y.den := y.den_pos
  clear hg hh hs ht
  go_enter Tryz.func27, Tryz.ntmps27
  go_wp2_with fail
  rw [← hwB]
  clear hwB
  go_region_held3 (fun w' => (∀ b o, b < w.heap.size + 2 → w'.cell? ⟨b, o, none⟩ = wB.cell? ⟨b, o, none⟩) ∧ w'.cell? ⟨w.heap.size + 2, 0, none⟩ = some (cur w' ⟨w.heap.size + 2, 0, none⟩) ∧ w'.cell? ⟨w.heap.size + 2, 1, none⟩ = some (cur w' ⟨w.heap.size + 2, 1, none⟩) ∧ w'.cell? ⟨w.heap.size + 2, 2, none⟩ = some (cur w' ⟨w.heap.size + 2, 2, none⟩) ∧ w'.frozen? ⟨w.heap.size + 2, 0, none⟩ = false ∧ w'.frozen? ⟨w.heap.size + 2, 1, none⟩ = false ∧ w'.frozen? ⟨w.heap.size + 2, 2, none⟩ = false ∧ Kept 3 25 wB (w.heap.size + 2) w' ∧ Stay wB w')
    (first | exact H0 | exact hk2 | exact hk1)
    (first | (go_at_call_of 100 (Value.agg #[.bool (decide (x.num < 0)), .slice A1 (len x.num.natAbs) c1, .slice A2 (len (below x.den)) c2]); refine ((HX _ ?_).out).mono ?_; assumption; rintro e w1 ⟨vb, rfl, hvb, hbl1⟩; have hk1 := Held3.call (by assumption) hbl1) | (go_at_call_of 100 (Value.agg #[.bool (decide (y.num < 0)), .slice A3 (len y.num.natAbs) c3, .slice A4 (len (below y.den)) c4]); refine ((HY _ ?_).out).mono ?_; assumption; rintro e w2 ⟨vd, rfl, hvd, hbl2⟩; have hk2 := Held3.call (by assumption) hbl2))
  rename_i hHl
  clear hHl
  have hb2 := hvb.keep hbl2
  have HK2 := Lib.hid hk2.kept
  have H2 := HK2.out.begin
  have hx2' := hx1.keep (below_to HB0.out (by omega) HK2.out.1)
  have hy2' := hy1.keep (below_to HB0.out (by omega) HK2.out.1)
  have HC1 := fun (w' : World) (hk : Held3 wB (w.heap.size + 2) w2 w') => Lib.hid (gcd_any (hk.stay _ _ hx2') (hk.stay _ _ hvd) (Nat.le_trans HS.out.1 (by decide)) (Nat.le_trans HS.out.2.2.2.1 (by decide)) (.inr gy))
  have HC2 := fun (w' : World) (hk : Held3 wB (w.heap.size + 2) w2 w') => Lib.hid (gcd_any (hk.stay _ _ hy2') (hk.stay _ _ hb2) (Nat.le_trans HS.out.2.1 (by decide)) (Nat.le_trans HS.out.2.2.1 (by decide)) (.inr gx))
  clear hk1 hk2 H0 HX HY hbl1 hbl2 hvb
  go_wp2_with fail
  go_region_held3 (fun w' => (∀ b o, b < w.heap.size + 2 → w'.cell? ⟨b, o, none⟩ = wB.cell? ⟨b, o, none⟩) ∧ w'.cell? ⟨w.heap.size + 2, 0, none⟩ = some (cur w' ⟨w.heap.size + 2, 0, none⟩) ∧ w'.cell? ⟨w.heap.size + 2, 1, none⟩ = some (cur w' ⟨w.heap.size + 2, 1, none⟩) ∧ w'.cell? ⟨w.heap.size + 2, 2, none⟩ = some (cur w' ⟨w.heap.size + 2, 2, none⟩) ∧ w'.frozen? ⟨w.heap.size + 2, 0, none⟩ = false ∧ w'.frozen? ⟨w.heap.size + 2, 1, none⟩ = false ∧ w'.frozen? ⟨w.heap.size + 2, 2, none⟩ = false ∧ Kept 3 25 wB (w.heap.size + 2) w' ∧ Stay w2 w')
    (first | exact H2 | exact hk4 | exact hk3)
    (first | (go_at_call_of 103 (Value.slice A1 (len x.num.natAbs) c1); refine ((HC1 _ ?_).out).mono ?_; assumption; rintro e w3 ⟨vg, rfl, hvg, hbl3⟩; have hk3 := Held3.call (by assumption) hbl3) | (go_at_call_of 103 (Value.slice A3 (len y.num.natAbs) c3); refine ((HC2 _ ?_).out).mono ?_; assumption; rintro e w4 ⟨vh, rfl, hvh, hbl4⟩; have hk4 := Held3.call (by assumption) hbl4))
  rename_i hHl
  clear hHl
  have hg4 := hvg.keep hbl4
  rw [← HG.out] at hg4
  rw [← HH.out] at hvh
  have hb4 := hk4.stay _ _ hb2
  have hd4 := hk4.stay _ _ hvd
  have hx4 := hk4.stay _ _ hx2'
  have hy4 := hk4.stay _ _ hy2'
  have HK4 := Lib.hid hk4.kept
  have H4 := HK4.out.begin
  clear hk3 hk4 hbl3 hbl4 hvg hb2 hvd hx2' hy2' H2 HC1 HC2 HK2
  have HC1 := fun (w' : World) (hk : Held3 wB (w.heap.size + 2) w4 w') => Lib.hid (over_any (hk.stay _ _ hx4) (hk.stay _ _ hg4) (Nat.le_trans HS.out.1 (by decide)) g0)
  have HC2 := fun (w' : World) (hk : Held3 wB (w.heap.size + 2) w4 w') => Lib.hid (over_any (hk.stay _ _ hy4) (hk.stay _ _ hvh) (Nat.le_trans HS.out.2.1 (by decide)) h0)
  have HC4 := fun (w' : World) (hk : Held3 wB (w.heap.size + 2) w4 w') => Lib.hid (over_any (hk.stay _ _ hb4) (hk.stay _ _ hvh) (Nat.le_trans HS.out.2.2.1 (by decide)) h0)
  have HC5 := fun (w' : World) (hk : Held3 wB (w.heap.size + 2) w4 w') => Lib.hid (over_any (hk.stay _ _ hd4) (hk.stay _ _ hg4) (Nat.le_trans HS.out.2.2.2.1 (by decide)) g0)
  have hdpos : 0 < x.den / h * (y.den / g) := by
    apply Nat.mul_pos
    · exact Nat.div_pos (Nat.le_of_dvd gx (HH.out ▸ Nat.gcd_dvd_right _ _)) h0
    · exact Nat.div_pos (Nat.le_of_dvd gy (HG.out ▸ Nat.gcd_dvd_right _ _)) g0
  go_wp2_with fail
  go_region_held3 (fun w' => (∀ b o, b < w.heap.size + 2 → w'.cell? ⟨b, o, none⟩ = wB.cell? ⟨b, o, none⟩) ∧ w'.cell? ⟨w.heap.size + 2, 0, none⟩ = some (cur w' ⟨w.heap.size + 2, 0, none⟩) ∧ w'.cell? ⟨w.heap.size + 2, 1, none⟩ = some (cur w' ⟨w.heap.size + 2, 1, none⟩) ∧ w'.cell? ⟨w.heap.size + 2, 2, none⟩ = some (cur w' ⟨w.heap.size + 2, 2, none⟩) ∧ w'.frozen? ⟨w.heap.size + 2, 0, none⟩ = false ∧ w'.frozen? ⟨w.heap.size + 2, 1, none⟩ = false ∧ w'.frozen? ⟨w.heap.size + 2, 2, none⟩ = false ∧ Kept 3 25 wB (w.heap.size + 2) w' ∧ Stay w4 w')
    (first | exact H4 | exact hk11.store | exact hk11 | exact hk10 | exact hk9 | exact hk8 | exact hk7 | exact hk6 | exact hk5)
    (first | (go_at_call_of 104 (Value.slice A1 (len x.num.natAbs) c1); refine ((HC1 _ ?_).out).mono ?_; assumption; rintro e w5 ⟨v5, rfl, hv5, hbl5⟩; obtain ⟨B5, e5, rfl, -⟩ := id hv5; have hk5 := Held3.call (by assumption) hbl5) | (go_at_call_of 104 (Value.slice A3 (len y.num.natAbs) c3); refine ((HC2 _ ?_).out).mono ?_; assumption; rintro e w6 ⟨v6, rfl, hv6, hbl6⟩; obtain ⟨B6, e6, rfl, -⟩ := id hv6; have hk6 := Held3.call (by assumption) hbl6) | (go_at_call_of 105 (Value.slice B5 (len (x.num.natAbs / g)) e5); refine (mul_any (hv5.keep hbl6) hv6 (Nat.le_trans HS.out.2.2.2.2.1 (by decide)) (Nat.le_trans HS.out.2.2.2.2.2.1 (by decide))).mono ?_; rintro e w7 ⟨v7, rfl, hv7, hbl7⟩; obtain ⟨B7, e7, rfl, -⟩ := id hv7; have hk7 := Held3.call (by assumption) hbl7) | (go_at_call_of 104 vb; refine ((HC4 _ ?_).out).mono ?_; assumption; rintro e w8 ⟨v8, rfl, hv8, hbl8⟩; obtain ⟨B8, e8, rfl, -⟩ := id hv8; have hk8 := Held3.call (by assumption) hbl8) | (go_at_call_of 104 vd; refine ((HC5 _ ?_).out).mono ?_; assumption; rintro e w9 ⟨v9, rfl, hv9, hbl9⟩; obtain ⟨B9, e9, rfl, -⟩ := id hv9; have hk9 := Held3.call (by assumption) hbl9) | (go_at_call_of 105 (Value.slice B8 (len (x.den / h)) e8); refine (mul_any (hv8.keep hbl9) hv9 (Nat.le_trans HS.out.2.2.2.2.2.2.1 (by decide)) (Nat.le_trans HS.out.2.2.2.2.2.2.2 (by decide))).mono ?_; rintro e w10 ⟨v10, rfl, hv10, hbl10⟩; obtain ⟨B10, e10, rfl, -⟩ := id hv10; have hk10 := Held3.call (by assumption) hbl10) | (go_at_call 98; refine (fraction_to ((((hv7.keep hbl8).keep hbl9).keep hbl10)) hv10 hdpos HP.out.1 HP.out.2.1).mono ?_; rintro e w11 ⟨v11, rfl, hv11, hbl11⟩; obtain ⟨C1, j1, C2, j2, rfl, -, -⟩ := hv11.opened; have hk11 := Held3.call (by assumption) hbl11))
  rename_i hHl
  clear hHl
  have HD := hk11.done (q := x * y) (b := decide ((x * y).num < 0)) (A1 := C1) (n1 := len (x * y).num.natAbs) (c1 := j1) (A2 := C2) (n2 := len (below (x * y).den)) (c2 := j2) (hv11)
  obtain ⟨d1, d2, d3⟩ := HD
  have r0 := cell_of_row _ _ 0 _ _ _ d3
  have r1 := cell_of_row _ _ 1 _ _ _ d3
  have r2 := cell_of_row _ _ 2 _ _ _ d3
  simp only [List.getElem?_toArray, List.getElem?_cons_zero, List.getElem?_cons_succ] at r0 r1 r2
  have HD := Lib.hid (And.intro d1 d2)
  clear d1 d2 d3
  go_wp2_with fail
  refine bodyPost_ret (v := .agg #[.bool (decide ((x * y).num < 0)), .slice (C1) (len (x * y).num.natAbs) (j1), .slice (C2) (len (below (x * y).den)) (j2)]) ?_ rfl ⟨_, rfl, HD.out.1, below_to HB0.out (by omega) HD.out.2⟩
  simp [results, Tryz.results27, go_sem, r0, r1, r2]

set_option maxRecDepth 100000 in
set_option maxHeartbeats 4000000 in
theorem mul_frac_b {w : World} {vx vy : Value} {x y : Rat} (hx : IsNum w vx x) (hy : IsNum w vy y) (hs : siz x ≤ 34359738368) (ht : siz y ≤ 34359738368) (hd1 : x.den = 1) (hd : y.den ≠ 1) :
    Calls Tryz.prog 27 #[vx, vy] w (NumRet w (x * y)) := by
  obtain ⟨A1, c1, A2, c2, rfl, hx1, hx2⟩ := hx.opened
  obtain ⟨A3, c3, A4, c4, rfl, hy1, hy2⟩ := hy.opened
  obtain ⟨wB, hwB⟩ : ∃ u, u = ((w.alloc (.cells #[.bool (decide (x.num < 0)), .slice A1 (len x.num.natAbs) c1, .slice A2 (len (below x.den)) c2] 25)).alloc (.cells #[.bool (decide (y.num < 0)), .slice A3 (len y.num.natAbs) c3, .slice A4 (len (below y.den)) c4] 25)).alloc (.cells #[.bool false, .slice none 0 0, .slice none 0 0] 25) := ⟨_, rfl⟩
  obtain ⟨b0, gA, gA2, gB⟩ := news3 w (.cells #[.bool (decide (x.num < 0)), .slice A1 (len x.num.natAbs) c1, .slice A2 (len (below x.den)) c2] 25) (.cells #[.bool (decide (y.num < 0)), .slice A3 (len y.num.natAbs) c3, .slice A4 (len (below y.den)) c4] 25) (.cells #[.bool false, .slice none 0 0, .slice none 0 0] 25)
  rw [← hwB] at b0 gA gA2 gB
  have k0 : wB.cell? ⟨w.heap.size, 0, none⟩ = some (.bool (decide (x.num < 0))) := cell_of_row _ _ _ _ _ _ gA
  have k1 : wB.cell? ⟨w.heap.size, 1, none⟩ = some (.slice A1 (len x.num.natAbs) c1) := cell_of_row _ _ _ _ _ _ gA
  have k2 : wB.cell? ⟨w.heap.size, 2, none⟩ = some (.slice A2 (len (below x.den)) c2) := cell_of_row _ _ _ _ _ _ gA
  have k3 : wB.cell? ⟨w.heap.size + 1, 0, none⟩ = some (.bool (decide (y.num < 0))) := cell_of_row _ _ _ _ _ _ gA2
  have k4 : wB.cell? ⟨w.heap.size + 1, 1, none⟩ = some (.slice A3 (len y.num.natAbs) c3) := cell_of_row _ _ _ _ _ _ gA2
  have k5 : wB.cell? ⟨w.heap.size + 1, 2, none⟩ = some (.slice A4 (len (below y.den)) c4) := cell_of_row _ _ _ _ _ _ gA2
  have HK0 := Lib.hid (Kept.start (T := 25) rfl (plain3 _ _ _ _ _ _ _) gB)
  have HB0 := Lib.hid b0
  have hlt1 : w.heap.size < w.heap.size + 2 := by omega
  have hlt2 : w.heap.size + 1 < w.heap.size + 2 := by omega
  clear gA gA2 gB b0
  have t1 := len_below_zero hd1
  have t2 := len_below_pos y.den_pos hd
  clear hd hd1
  have HX := fun (w' : World) (hk : Held3 wB (w.heap.size + 2) wB w') => Lib.hid (bottom_any (hx.keep (below_to HB0.out (by omega) hk.kept.1)))
  have HY := fun (w' : World) (hk : Held3 wB (w.heap.size + 2) wB w') => Lib.hid (bottom_any (hy.keep (below_to HB0.out (by omega) hk.kept.1)))
  have H0 := HK0.out.begin
  obtain ⟨g, hg⟩ : ∃ g, g = Nat.gcd x.num.natAbs y.den := ⟨_, rfl⟩
  obtain ⟨h, hh⟩ : ∃ h, h = Nat.gcd y.num.natAbs x.den := ⟨_, rfl⟩
  have HG := Lib.hid hg
  have HH := Lib.hid hh
  have HP := Lib.hid (mul_parts hg hh)
  have HS := Lib.hid (mul_sizes (g := g) (h := h) hs ht)
  have g0 : 0 < g := HP.out.2.2.1
  have h0 : 0 < h := HP.out.2.2.2
  have gx : 0 < x.den := x.den_pos
  have gy : 0 < y.den := y.den_pos
  clear hg hh hs ht
  go_enter Tryz.func27, Tryz.ntmps27
  go_wp2_with fail
  rw [← hwB]
  clear hwB
  go_region_held3 (fun w' => (∀ b o, b < w.heap.size + 2 → w'.cell? ⟨b, o, none⟩ = wB.cell? ⟨b, o, none⟩) ∧ w'.cell? ⟨w.heap.size + 2, 0, none⟩ = some (cur w' ⟨w.heap.size + 2, 0, none⟩) ∧ w'.cell? ⟨w.heap.size + 2, 1, none⟩ = some (cur w' ⟨w.heap.size + 2, 1, none⟩) ∧ w'.cell? ⟨w.heap.size + 2, 2, none⟩ = some (cur w' ⟨w.heap.size + 2, 2, none⟩) ∧ w'.frozen? ⟨w.heap.size + 2, 0, none⟩ = false ∧ w'.frozen? ⟨w.heap.size + 2, 1, none⟩ = false ∧ w'.frozen? ⟨w.heap.size + 2, 2, none⟩ = false ∧ Kept 3 25 wB (w.heap.size + 2) w' ∧ Stay wB w')
    (first | exact H0 | exact hk2 | exact hk1)
    (first | (go_at_call_of 100 (Value.agg #[.bool (decide (x.num < 0)), .slice A1 (len x.num.natAbs) c1, .slice A2 (len (below x.den)) c2]); refine ((HX _ ?_).out).mono ?_; assumption; rintro e w1 ⟨vb, rfl, hvb, hbl1⟩; have hk1 := Held3.call (by assumption) hbl1) | (go_at_call_of 100 (Value.agg #[.bool (decide (y.num < 0)), .slice A3 (len y.num.natAbs) c3, .slice A4 (len (below y.den)) c4]); refine ((HY _ ?_).out).mono ?_; assumption; rintro e w2 ⟨vd, rfl, hvd, hbl2⟩; have hk2 := Held3.call (by assumption) hbl2))
  rename_i hHl
  clear hHl
  have hb2 := hvb.keep hbl2
  have HK2 := Lib.hid hk2.kept
  have H2 := HK2.out.begin
  have hx2' := hx1.keep (below_to HB0.out (by omega) HK2.out.1)
  have hy2' := hy1.keep (below_to HB0.out (by omega) HK2.out.1)
  have HC1 := fun (w' : World) (hk : Held3 wB (w.heap.size + 2) w2 w') => Lib.hid (gcd_any (hk.stay _ _ hx2') (hk.stay _ _ hvd) (Nat.le_trans HS.out.1 (by decide)) (Nat.le_trans HS.out.2.2.2.1 (by decide)) (.inr gy))
  have HC2 := fun (w' : World) (hk : Held3 wB (w.heap.size + 2) w2 w') => Lib.hid (gcd_any (hk.stay _ _ hy2') (hk.stay _ _ hb2) (Nat.le_trans HS.out.2.1 (by decide)) (Nat.le_trans HS.out.2.2.1 (by decide)) (.inr gx))
  clear hk1 hk2 H0 HX HY hbl1 hbl2 hvb
  go_wp2_with fail
  go_region_held3 (fun w' => (∀ b o, b < w.heap.size + 2 → w'.cell? ⟨b, o, none⟩ = wB.cell? ⟨b, o, none⟩) ∧ w'.cell? ⟨w.heap.size + 2, 0, none⟩ = some (cur w' ⟨w.heap.size + 2, 0, none⟩) ∧ w'.cell? ⟨w.heap.size + 2, 1, none⟩ = some (cur w' ⟨w.heap.size + 2, 1, none⟩) ∧ w'.cell? ⟨w.heap.size + 2, 2, none⟩ = some (cur w' ⟨w.heap.size + 2, 2, none⟩) ∧ w'.frozen? ⟨w.heap.size + 2, 0, none⟩ = false ∧ w'.frozen? ⟨w.heap.size + 2, 1, none⟩ = false ∧ w'.frozen? ⟨w.heap.size + 2, 2, none⟩ = false ∧ Kept 3 25 wB (w.heap.size + 2) w' ∧ Stay w2 w')
    (first | exact H2 | exact hk4 | exact hk3)
    (first | (go_at_call_of 103 (Value.slice A1 (len x.num.natAbs) c1); refine ((HC1 _ ?_).out).mono ?_; assumption; rintro e w3 ⟨vg, rfl, hvg, hbl3⟩; have hk3 := Held3.call (by assumption) hbl3) | (go_at_call_of 103 (Value.slice A3 (len y.num.natAbs) c3); refine ((HC2 _ ?_).out).mono ?_; assumption; rintro e w4 ⟨vh, rfl, hvh, hbl4⟩; have hk4 := Held3.call (by assumption) hbl4))
  rename_i hHl
  clear hHl
  have hg4 := hvg.keep hbl4
  rw [← HG.out] at hg4
  rw [← HH.out] at hvh
  have hb4 := hk4.stay _ _ hb2
  have hd4 := hk4.stay _ _ hvd
  have hx4 := hk4.stay _ _ hx2'
  have hy4 := hk4.stay _ _ hy2'
  have HK4 := Lib.hid hk4.kept
  have H4 := HK4.out.begin
  clear hk3 hk4 hbl3 hbl4 hvg hb2 hvd hx2' hy2' H2 HC1 HC2 HK2
  have HC1 := fun (w' : World) (hk : Held3 wB (w.heap.size + 2) w4 w') => Lib.hid (over_any (hk.stay _ _ hx4) (hk.stay _ _ hg4) (Nat.le_trans HS.out.1 (by decide)) g0)
  have HC2 := fun (w' : World) (hk : Held3 wB (w.heap.size + 2) w4 w') => Lib.hid (over_any (hk.stay _ _ hy4) (hk.stay _ _ hvh) (Nat.le_trans HS.out.2.1 (by decide)) h0)
  have HC4 := fun (w' : World) (hk : Held3 wB (w.heap.size + 2) w4 w') => Lib.hid (over_any (hk.stay _ _ hb4) (hk.stay _ _ hvh) (Nat.le_trans HS.out.2.2.1 (by decide)) h0)
  have HC5 := fun (w' : World) (hk : Held3 wB (w.heap.size + 2) w4 w') => Lib.hid (over_any (hk.stay _ _ hd4) (hk.stay _ _ hg4) (Nat.le_trans HS.out.2.2.2.1 (by decide)) g0)
  have hdpos : 0 < x.den / h * (y.den / g) := by
    apply Nat.mul_pos
    · exact Nat.div_pos (Nat.le_of_dvd gx (HH.out ▸ Nat.gcd_dvd_right _ _)) h0
    · exact Nat.div_pos (Nat.le_of_dvd gy (HG.out ▸ Nat.gcd_dvd_right _ _)) g0
  go_wp2_with fail
  go_region_held3 (fun w' => (∀ b o, b < w.heap.size + 2 → w'.cell? ⟨b, o, none⟩ = wB.cell? ⟨b, o, none⟩) ∧ w'.cell? ⟨w.heap.size + 2, 0, none⟩ = some (cur w' ⟨w.heap.size + 2, 0, none⟩) ∧ w'.cell? ⟨w.heap.size + 2, 1, none⟩ = some (cur w' ⟨w.heap.size + 2, 1, none⟩) ∧ w'.cell? ⟨w.heap.size + 2, 2, none⟩ = some (cur w' ⟨w.heap.size + 2, 2, none⟩) ∧ w'.frozen? ⟨w.heap.size + 2, 0, none⟩ = false ∧ w'.frozen? ⟨w.heap.size + 2, 1, none⟩ = false ∧ w'.frozen? ⟨w.heap.size + 2, 2, none⟩ = false ∧ Kept 3 25 wB (w.heap.size + 2) w' ∧ Stay w4 w')
    (first | exact H4 | exact hk11.store | exact hk11 | exact hk10 | exact hk9 | exact hk8 | exact hk7 | exact hk6 | exact hk5)
    (first | (go_at_call_of 104 (Value.slice A1 (len x.num.natAbs) c1); refine ((HC1 _ ?_).out).mono ?_; assumption; rintro e w5 ⟨v5, rfl, hv5, hbl5⟩; obtain ⟨B5, e5, rfl, -⟩ := id hv5; have hk5 := Held3.call (by assumption) hbl5) | (go_at_call_of 104 (Value.slice A3 (len y.num.natAbs) c3); refine ((HC2 _ ?_).out).mono ?_; assumption; rintro e w6 ⟨v6, rfl, hv6, hbl6⟩; obtain ⟨B6, e6, rfl, -⟩ := id hv6; have hk6 := Held3.call (by assumption) hbl6) | (go_at_call_of 105 (Value.slice B5 (len (x.num.natAbs / g)) e5); refine (mul_any (hv5.keep hbl6) hv6 (Nat.le_trans HS.out.2.2.2.2.1 (by decide)) (Nat.le_trans HS.out.2.2.2.2.2.1 (by decide))).mono ?_; rintro e w7 ⟨v7, rfl, hv7, hbl7⟩; obtain ⟨B7, e7, rfl, -⟩ := id hv7; have hk7 := Held3.call (by assumption) hbl7) | (go_at_call_of 104 vb; refine ((HC4 _ ?_).out).mono ?_; assumption; rintro e w8 ⟨v8, rfl, hv8, hbl8⟩; obtain ⟨B8, e8, rfl, -⟩ := id hv8; have hk8 := Held3.call (by assumption) hbl8) | (go_at_call_of 104 vd; refine ((HC5 _ ?_).out).mono ?_; assumption; rintro e w9 ⟨v9, rfl, hv9, hbl9⟩; obtain ⟨B9, e9, rfl, -⟩ := id hv9; have hk9 := Held3.call (by assumption) hbl9) | (go_at_call_of 105 (Value.slice B8 (len (x.den / h)) e8); refine (mul_any (hv8.keep hbl9) hv9 (Nat.le_trans HS.out.2.2.2.2.2.2.1 (by decide)) (Nat.le_trans HS.out.2.2.2.2.2.2.2 (by decide))).mono ?_; rintro e w10 ⟨v10, rfl, hv10, hbl10⟩; obtain ⟨B10, e10, rfl, -⟩ := id hv10; have hk10 := Held3.call (by assumption) hbl10) | (go_at_call 98; refine (fraction_to ((((hv7.keep hbl8).keep hbl9).keep hbl10)) hv10 hdpos HP.out.1 HP.out.2.1).mono ?_; rintro e w11 ⟨v11, rfl, hv11, hbl11⟩; obtain ⟨C1, j1, C2, j2, rfl, -, -⟩ := hv11.opened; have hk11 := Held3.call (by assumption) hbl11))
  rename_i hHl
  clear hHl
  have HD := hk11.done (q := x * y) (b := decide ((x * y).num < 0)) (A1 := C1) (n1 := len (x * y).num.natAbs) (c1 := j1) (A2 := C2) (n2 := len (below (x * y).den)) (c2 := j2) (hv11)
  obtain ⟨d1, d2, d3⟩ := HD
  have r0 := cell_of_row _ _ 0 _ _ _ d3
  have r1 := cell_of_row _ _ 1 _ _ _ d3
  have r2 := cell_of_row _ _ 2 _ _ _ d3
  simp only [List.getElem?_toArray, List.getElem?_cons_zero, List.getElem?_cons_succ] at r0 r1 r2
  have HD := Lib.hid (And.intro d1 d2)
  clear d1 d2 d3
  go_wp2_with fail
  refine bodyPost_ret (v := .agg #[.bool (decide ((x * y).num < 0)), .slice (C1) (len (x * y).num.natAbs) (j1), .slice (C2) (len (below (x * y).den)) (j2)]) ?_ rfl ⟨_, rfl, HD.out.1, below_to HB0.out (by omega) HD.out.2⟩
  simp [results, Tryz.results27, go_sem, r0, r1, r2]

/-- Mul: the product. -/
theorem numMul_any {w : World} {vx vy : Value} {x y : Rat} (hx : IsNum w vx x) (hy : IsNum w vy y) (hs : siz x ≤ 34359738368) (ht : siz y ≤ 34359738368) :
    Calls Tryz.prog 27 #[vx, vy] w (NumRet w (x * y)) := by
  by_cases h1 : x.den = 1
  · by_cases h2 : y.den = 1
    · exact mul_int hx hy hs ht h1 h2
    · exact mul_frac_b hx hy hs ht h1 h2
  · exact mul_frac_a hx hy hs ht h1
end Go.Proofs.YtfppimacnhcflaaGreatDoor
namespace Go.Proofs.YtfppimacnhcflaaGreatDoor
open Go.RowKit
open Vx

/-- A whole number is returned; nothing old has changed. -/
def IntRet (w : World) (n : Int) (e : Ending) (w' : World) : Prop := e = .returned (.int .i64 n) ∧ Below w.heap.size w w'
theorem int_ret {w w' : World} {a b : Int} (h : a = b) (hb : Below w.heap.size w w') : IntRet w b (.returned (.int .i64 a)) w' := ⟨by rw [h], hb⟩

set_option maxRecDepth 100000 in
set_option maxHeartbeats 1000000 in
theorem numSign_any {w : World} {vx : Value} {x : Rat} (hx : IsNum w vx x) : Calls Tryz.prog 16 #[vx] w (IntRet w x.num.sign) := by
  obtain ⟨A1, c1, A2, c2, rfl, hx1, hx2⟩ := hx.opened
  rcases Int.lt_trichotomy x.num 0 with h | h | h
  · have e : x.num.sign = -1 := Int.sign_eq_neg_one_of_neg h
    have hd : decide (x.num < 0) = true := decide_eq_true h
    rw [hd, e]
    clear hd e h hx
    go_enter Tryz.func16, Tryz.ntmps16
    go_wp2_with fail
    go_ret
    exact int_ret rfl ((Below.refl _ _).alloc (Nat.le_refl _) _)
  · have e : x.num.sign = 0 := by rw [h]; rfl
    have hd : decide (x.num < 0) = false := decide_eq_false (by omega)
    have hl : len x.num.natAbs = 0 := by rw [h]; rfl
    rw [hd, e, hl]
    clear hd e h hx hl
    go_enter Tryz.func16, Tryz.ntmps16
    go_wp2_with fail
    go_ret
    exact int_ret rfl ((Below.refl _ _).alloc (Nat.le_refl _) _)
  · have e : x.num.sign = 1 := Int.sign_eq_one_of_pos h
    have hd : decide (x.num < 0) = false := decide_eq_false (by omega)
    have hl := len_pos.2 (show 0 < x.num.natAbs by omega)
    have hl1 : (1 : Int) ≤ ((len x.num.natAbs : Nat) : Int) := by omega
    rw [hd, e]
    clear hd e h hx
    go_enter Tryz.func16, Tryz.ntmps16
    go_wp2_with fail
    all_goals
      go_ret
      refine int_ret ?_ ((Below.refl _ _).alloc (Nat.le_refl _) _)
      omega


set_option maxRecDepth 100000 in
set_option maxHeartbeats 1000000 in
theorem numNeg_n {w : World} {vx : Value} {x : Rat} (hx : IsNum w vx x) (hs : siz x ≤ 1099511627776) (h : x.num < 0) : Calls Tryz.prog 35 #[vx] w (NumRet w (-x)) := by
  obtain ⟨A1, c1, A2, c2, rfl, hx1, hx2⟩ := hx.opened
  obtain ⟨wB, hwB⟩ : ∃ u, u = (w.alloc (.cells #[.bool (decide (x.num < 0)), .slice A1 (len x.num.natAbs) c1, .slice A2 (len (below x.den)) c2] 25)).alloc (.cells #[.bool false, .slice none 0 0, .slice none 0 0] 25) := ⟨_, rfl⟩
  obtain ⟨b0, gA, gB⟩ := news2 w (.cells #[.bool (decide (x.num < 0)), .slice A1 (len x.num.natAbs) c1, .slice A2 (len (below x.den)) c2] 25) (.cells #[.bool false, .slice none 0 0, .slice none 0 0] 25)
  rw [← hwB] at b0 gA gB
  have k0 : wB.cell? ⟨w.heap.size, 0, none⟩ = some (.bool (decide (x.num < 0))) := cell_of_row _ _ _ _ _ _ gA
  have k1 : wB.cell? ⟨w.heap.size, 1, none⟩ = some (.slice A1 (len x.num.natAbs) c1) := cell_of_row _ _ _ _ _ _ gA
  have k2 : wB.cell? ⟨w.heap.size, 2, none⟩ = some (.slice A2 (len (below x.den)) c2) := cell_of_row _ _ _ _ _ _ gA
  have HK0 := Lib.hid (Kept.start (T := 25) rfl (plain3 _ _ _ _ _ _ _) gB)
  have HB0 := Lib.hid b0
  have hlt1 : w.heap.size < w.heap.size + 1 := by omega
  clear gA gB b0
  have HX := fun (w' : World) (hk : Below w.heap.size w w') => Lib.hid (numCopied_any (hx.keep hk) hs)
  have HN : Hid (decide ((-x).num < 0) = false ∧ (-x).num.natAbs = x.num.natAbs ∧ (-x).den = x.den) := ⟨by rw [Rat.neg_num]; exact decide_eq_false (by omega), by rw [Rat.neg_num, Int.natAbs_neg], Rat.neg_den x⟩
  have Hh := Lib.hid h
  clear h
  clear hx
  go_enter Tryz.func35, Tryz.ntmps35
  go_wp2_with fail
  rw [← hwB]
  clear hwB
  refine ((HX _ HB0.out).out).mono ?_
  rintro e w1 ⟨v1, rfl, hv1, b1⟩
  obtain ⟨B1, e1, B2, e2, rfl, hn1, hn2⟩ := hv1.opened
  have HK1 := Lib.hid (HK0.out.call b1)
  have hc1 := below_cell (b1.mono (show w.heap.size + 1 ≤ _ by have := HK0.out.block_lt; omega))
  have q0 : w1.cell? ⟨w.heap.size, 0, none⟩ = some (.bool (decide (x.num < 0))) := (hc1 _ _ hlt1).trans k0
  have q1 : w1.cell? ⟨w.heap.size, 1, none⟩ = some (.slice A1 (len x.num.natAbs) c1) := (hc1 _ _ hlt1).trans k1
  have hlw : w.heap.size < w1.heap.size := by have := HK1.out.block_lt; omega
  go_upto_region 2 with fail
  obtain ⟨wa, hwa⟩ : ∃ u, u = w1.alloc (.cells #[.bool (decide (x.num < 0)), .slice B1 (len x.num.natAbs) e1, .slice B2 (len (below x.den)) e2] 25) := ⟨_, rfl⟩
  have ba : Below w1.heap.size w1 wa := by rw [hwa]; exact (Below.refl _ _).alloc (Nat.le_refl _) _
  have ga : wa.heap[w1.heap.size]? = some (.cells #[.bool (decide (x.num < 0)), .slice B1 (len x.num.natAbs) e1, .slice B2 (len (below x.den)) e2] 25 (0, 0)) := by rw [hwa]; exact heap_alloc_new w1 _
  have pa0 : wa.cell? ⟨w1.heap.size, 0, none⟩ = some (.bool (decide (x.num < 0))) := cell_of_row _ _ _ _ _ _ ga
  have fa0 : wa.frozen? ⟨w1.heap.size, 0, none⟩ = false := frozen_of_row _ _ 0 _ _ ga
  have qa0 : wa.cell? ⟨w.heap.size, 0, none⟩ = some (.bool (decide (x.num < 0))) := (ba.cell (p := ⟨w.heap.size, 0, none⟩) hlw).trans q0
  have qa1 : wa.cell? ⟨w.heap.size, 1, none⟩ = some (.slice A1 (len x.num.natAbs) c1) := (ba.cell (p := ⟨w.heap.size, 1, none⟩) hlw).trans q1
  have g2 := heap_setCell_same wa _ 0 _ _ (.bool false) ga
  have b2 := ba.setCell (p := ⟨w1.heap.size, 0, none⟩) (Nat.le_refl _) (.bool false)
  have HG2 := Lib.hid (And.intro g2 b2)
  rw [← hwa]
  clear hc1 k0 k1 k2 b1 HX hx1 hx2 HK0 q0 q1 hwa ba ga g2 b2 hv1
  have h := Hh.out
  have hd : decide (x.num < 0) = true := decide_eq_true h
  clear h
  go_upto_region 3 with fail
  obtain ⟨w2, hw2⟩ : ∃ u, u = wa.setCell ⟨w1.heap.size, 0, none⟩ (.bool false) := ⟨_, rfl⟩
  obtain ⟨g2, b2⟩ := HG2.out
  rw [← hw2] at g2 b2 ⊢
  have p0 : w2.cell? ⟨w1.heap.size, 0, none⟩ = some (.bool false) := cell_of_row _ _ _ _ _ _ g2
  have p1 : w2.cell? ⟨w1.heap.size, 1, none⟩ = some (.slice B1 (len x.num.natAbs) e1) := cell_of_row _ _ _ _ _ _ g2
  have p2 : w2.cell? ⟨w1.heap.size, 2, none⟩ = some (.slice B2 (len (below x.den)) e2) := cell_of_row _ _ _ _ _ _ g2
  have hk := (HK1.out.call b2).held (Stay.refl _)
  have hnum : IsNum w2 (.agg #[.bool false, .slice B1 (len x.num.natAbs) e1, .slice B2 (len (below x.den)) e2]) (-x) :=
    ⟨_, _, by rw [HN.out.1], by rw [HN.out.2.1]; exact hn1.keep b2, by rw [HN.out.2.2]; exact hn2.keep b2⟩
  clear hw2 g2 b2 qa0 qa1 pa0 fa0
  obtain ⟨-, c0, c1', c2', f0, f1, f2, -⟩ := id hk
  have HD := hk.done (q := -x) (b := false) (A1 := B1) (n1 := len x.num.natAbs) (c1 := e1) (A2 := B2) (n2 := len (below x.den)) (c2 := e2) (hnum)
  obtain ⟨d1, d2, d3⟩ := HD
  have r0 := cell_of_row _ _ 0 _ _ _ d3
  have r1 := cell_of_row _ _ 1 _ _ _ d3
  have r2 := cell_of_row _ _ 2 _ _ _ d3
  simp only [List.getElem?_toArray, List.getElem?_cons_zero, List.getElem?_cons_succ] at r0 r1 r2
  have HD := Lib.hid (And.intro d1 d2)
  clear d1 d2 d3
  go_wp2_with fail
  refine bodyPost_ret (v := .agg #[.bool (false), .slice (B1) (len x.num.natAbs) (e1), .slice (B2) (len (below x.den)) (e2)]) ?_ rfl ⟨_, rfl, HD.out.1, below_to HB0.out (by omega) HD.out.2⟩
  simp [results, Tryz.results35, go_sem, r0, r1, r2]

set_option maxRecDepth 100000 in
set_option maxHeartbeats 1000000 in
theorem numNeg_z {w : World} {vx : Value} {x : Rat} (hx : IsNum w vx x) (hs : siz x ≤ 1099511627776) (h : x.num = 0) : Calls Tryz.prog 35 #[vx] w (NumRet w (-x)) := by
  obtain ⟨A1, c1, A2, c2, rfl, hx1, hx2⟩ := hx.opened
  obtain ⟨wB, hwB⟩ : ∃ u, u = (w.alloc (.cells #[.bool (decide (x.num < 0)), .slice A1 (len x.num.natAbs) c1, .slice A2 (len (below x.den)) c2] 25)).alloc (.cells #[.bool false, .slice none 0 0, .slice none 0 0] 25) := ⟨_, rfl⟩
  obtain ⟨b0, gA, gB⟩ := news2 w (.cells #[.bool (decide (x.num < 0)), .slice A1 (len x.num.natAbs) c1, .slice A2 (len (below x.den)) c2] 25) (.cells #[.bool false, .slice none 0 0, .slice none 0 0] 25)
  rw [← hwB] at b0 gA gB
  have k0 : wB.cell? ⟨w.heap.size, 0, none⟩ = some (.bool (decide (x.num < 0))) := cell_of_row _ _ _ _ _ _ gA
  have k1 : wB.cell? ⟨w.heap.size, 1, none⟩ = some (.slice A1 (len x.num.natAbs) c1) := cell_of_row _ _ _ _ _ _ gA
  have k2 : wB.cell? ⟨w.heap.size, 2, none⟩ = some (.slice A2 (len (below x.den)) c2) := cell_of_row _ _ _ _ _ _ gA
  have HK0 := Lib.hid (Kept.start (T := 25) rfl (plain3 _ _ _ _ _ _ _) gB)
  have HB0 := Lib.hid b0
  have hlt1 : w.heap.size < w.heap.size + 1 := by omega
  clear gA gB b0
  have HX := fun (w' : World) (hk : Below w.heap.size w w') => Lib.hid (numCopied_any (hx.keep hk) hs)
  have HN : Hid (decide ((-x).num < 0) = false ∧ (-x).num.natAbs = x.num.natAbs ∧ (-x).den = x.den) := ⟨by rw [Rat.neg_num]; exact decide_eq_false (by omega), by rw [Rat.neg_num, Int.natAbs_neg], Rat.neg_den x⟩
  have Hh := Lib.hid h
  clear h
  clear hx
  go_enter Tryz.func35, Tryz.ntmps35
  go_wp2_with fail
  rw [← hwB]
  clear hwB
  refine ((HX _ HB0.out).out).mono ?_
  rintro e w1 ⟨v1, rfl, hv1, b1⟩
  obtain ⟨B1, e1, B2, e2, rfl, hn1, hn2⟩ := hv1.opened
  have HK1 := Lib.hid (HK0.out.call b1)
  have hc1 := below_cell (b1.mono (show w.heap.size + 1 ≤ _ by have := HK0.out.block_lt; omega))
  have q0 : w1.cell? ⟨w.heap.size, 0, none⟩ = some (.bool (decide (x.num < 0))) := (hc1 _ _ hlt1).trans k0
  have q1 : w1.cell? ⟨w.heap.size, 1, none⟩ = some (.slice A1 (len x.num.natAbs) c1) := (hc1 _ _ hlt1).trans k1
  have hlw : w.heap.size < w1.heap.size := by have := HK1.out.block_lt; omega
  go_upto_region 2 with fail
  obtain ⟨wa, hwa⟩ : ∃ u, u = w1.alloc (.cells #[.bool (decide (x.num < 0)), .slice B1 (len x.num.natAbs) e1, .slice B2 (len (below x.den)) e2] 25) := ⟨_, rfl⟩
  have ba : Below w1.heap.size w1 wa := by rw [hwa]; exact (Below.refl _ _).alloc (Nat.le_refl _) _
  have ga : wa.heap[w1.heap.size]? = some (.cells #[.bool (decide (x.num < 0)), .slice B1 (len x.num.natAbs) e1, .slice B2 (len (below x.den)) e2] 25 (0, 0)) := by rw [hwa]; exact heap_alloc_new w1 _
  have pa0 : wa.cell? ⟨w1.heap.size, 0, none⟩ = some (.bool (decide (x.num < 0))) := cell_of_row _ _ _ _ _ _ ga
  have fa0 : wa.frozen? ⟨w1.heap.size, 0, none⟩ = false := frozen_of_row _ _ 0 _ _ ga
  have qa0 : wa.cell? ⟨w.heap.size, 0, none⟩ = some (.bool (decide (x.num < 0))) := (ba.cell (p := ⟨w.heap.size, 0, none⟩) hlw).trans q0
  have qa1 : wa.cell? ⟨w.heap.size, 1, none⟩ = some (.slice A1 (len x.num.natAbs) c1) := (ba.cell (p := ⟨w.heap.size, 1, none⟩) hlw).trans q1
  have g2 := heap_setCell_same wa _ 0 _ _ (.bool false) ga
  have b2 := ba.setCell (p := ⟨w1.heap.size, 0, none⟩) (Nat.le_refl _) (.bool false)
  have HG2 := Lib.hid (And.intro g2 b2)
  rw [← hwa]
  clear hc1 k0 k1 k2 b1 HX hx1 hx2 HK0 q0 q1 hwa ba ga g2 b2 hv1
  have h := Hh.out
  have hd : decide (x.num < 0) = false := decide_eq_false (by omega)
  have hl : decide (0 < len x.num.natAbs) = false := by rw [h]; rfl
  clear h
  go_upto_region 3 with fail
  obtain ⟨w2, hw2⟩ : ∃ u, u = wa.setCell ⟨w1.heap.size, 0, none⟩ (.bool false) := ⟨_, rfl⟩
  obtain ⟨g2, b2⟩ := HG2.out
  rw [← hw2] at g2 b2 ⊢
  have p0 : w2.cell? ⟨w1.heap.size, 0, none⟩ = some (.bool false) := cell_of_row _ _ _ _ _ _ g2
  have p1 : w2.cell? ⟨w1.heap.size, 1, none⟩ = some (.slice B1 (len x.num.natAbs) e1) := cell_of_row _ _ _ _ _ _ g2
  have p2 : w2.cell? ⟨w1.heap.size, 2, none⟩ = some (.slice B2 (len (below x.den)) e2) := cell_of_row _ _ _ _ _ _ g2
  have hk := (HK1.out.call b2).held (Stay.refl _)
  have hnum : IsNum w2 (.agg #[.bool false, .slice B1 (len x.num.natAbs) e1, .slice B2 (len (below x.den)) e2]) (-x) :=
    ⟨_, _, by rw [HN.out.1], by rw [HN.out.2.1]; exact hn1.keep b2, by rw [HN.out.2.2]; exact hn2.keep b2⟩
  clear hw2 g2 b2 qa0 qa1 pa0 fa0
  obtain ⟨-, c0, c1', c2', f0, f1, f2, -⟩ := id hk
  have HD := hk.done (q := -x) (b := false) (A1 := B1) (n1 := len x.num.natAbs) (c1 := e1) (A2 := B2) (n2 := len (below x.den)) (c2 := e2) (hnum)
  obtain ⟨d1, d2, d3⟩ := HD
  have r0 := cell_of_row _ _ 0 _ _ _ d3
  have r1 := cell_of_row _ _ 1 _ _ _ d3
  have r2 := cell_of_row _ _ 2 _ _ _ d3
  simp only [List.getElem?_toArray, List.getElem?_cons_zero, List.getElem?_cons_succ] at r0 r1 r2
  have HD := Lib.hid (And.intro d1 d2)
  clear d1 d2 d3
  go_wp2_with fail
  refine bodyPost_ret (v := .agg #[.bool (false), .slice (B1) (len x.num.natAbs) (e1), .slice (B2) (len (below x.den)) (e2)]) ?_ rfl ⟨_, rfl, HD.out.1, below_to HB0.out (by omega) HD.out.2⟩
  simp [results, Tryz.results35, go_sem, r0, r1, r2]

set_option maxRecDepth 100000 in
set_option maxHeartbeats 1000000 in
theorem numNeg_p {w : World} {vx : Value} {x : Rat} (hx : IsNum w vx x) (hs : siz x ≤ 1099511627776) (h : 0 < x.num) : Calls Tryz.prog 35 #[vx] w (NumRet w (-x)) := by
  obtain ⟨A1, c1, A2, c2, rfl, hx1, hx2⟩ := hx.opened
  obtain ⟨wB, hwB⟩ : ∃ u, u = (w.alloc (.cells #[.bool (decide (x.num < 0)), .slice A1 (len x.num.natAbs) c1, .slice A2 (len (below x.den)) c2] 25)).alloc (.cells #[.bool false, .slice none 0 0, .slice none 0 0] 25) := ⟨_, rfl⟩
  obtain ⟨b0, gA, gB⟩ := news2 w (.cells #[.bool (decide (x.num < 0)), .slice A1 (len x.num.natAbs) c1, .slice A2 (len (below x.den)) c2] 25) (.cells #[.bool false, .slice none 0 0, .slice none 0 0] 25)
  rw [← hwB] at b0 gA gB
  have k0 : wB.cell? ⟨w.heap.size, 0, none⟩ = some (.bool (decide (x.num < 0))) := cell_of_row _ _ _ _ _ _ gA
  have k1 : wB.cell? ⟨w.heap.size, 1, none⟩ = some (.slice A1 (len x.num.natAbs) c1) := cell_of_row _ _ _ _ _ _ gA
  have k2 : wB.cell? ⟨w.heap.size, 2, none⟩ = some (.slice A2 (len (below x.den)) c2) := cell_of_row _ _ _ _ _ _ gA
  have HK0 := Lib.hid (Kept.start (T := 25) rfl (plain3 _ _ _ _ _ _ _) gB)
  have HB0 := Lib.hid b0
  have hlt1 : w.heap.size < w.heap.size + 1 := by omega
  clear gA gB b0
  have HX := fun (w' : World) (hk : Below w.heap.size w w') => Lib.hid (numCopied_any (hx.keep hk) hs)
  have HN : Hid (decide ((-x).num < 0) = true ∧ (-x).num.natAbs = x.num.natAbs ∧ (-x).den = x.den) := ⟨by rw [Rat.neg_num]; exact decide_eq_true (by omega), by rw [Rat.neg_num, Int.natAbs_neg], Rat.neg_den x⟩
  have Hh := Lib.hid h
  clear h
  clear hx
  go_enter Tryz.func35, Tryz.ntmps35
  go_wp2_with fail
  rw [← hwB]
  clear hwB
  refine ((HX _ HB0.out).out).mono ?_
  rintro e w1 ⟨v1, rfl, hv1, b1⟩
  obtain ⟨B1, e1, B2, e2, rfl, hn1, hn2⟩ := hv1.opened
  have HK1 := Lib.hid (HK0.out.call b1)
  have hc1 := below_cell (b1.mono (show w.heap.size + 1 ≤ _ by have := HK0.out.block_lt; omega))
  have q0 : w1.cell? ⟨w.heap.size, 0, none⟩ = some (.bool (decide (x.num < 0))) := (hc1 _ _ hlt1).trans k0
  have q1 : w1.cell? ⟨w.heap.size, 1, none⟩ = some (.slice A1 (len x.num.natAbs) c1) := (hc1 _ _ hlt1).trans k1
  have hlw : w.heap.size < w1.heap.size := by have := HK1.out.block_lt; omega
  go_upto_region 2 with fail
  obtain ⟨wa, hwa⟩ : ∃ u, u = w1.alloc (.cells #[.bool (decide (x.num < 0)), .slice B1 (len x.num.natAbs) e1, .slice B2 (len (below x.den)) e2] 25) := ⟨_, rfl⟩
  have ba : Below w1.heap.size w1 wa := by rw [hwa]; exact (Below.refl _ _).alloc (Nat.le_refl _) _
  have ga : wa.heap[w1.heap.size]? = some (.cells #[.bool (decide (x.num < 0)), .slice B1 (len x.num.natAbs) e1, .slice B2 (len (below x.den)) e2] 25 (0, 0)) := by rw [hwa]; exact heap_alloc_new w1 _
  have pa0 : wa.cell? ⟨w1.heap.size, 0, none⟩ = some (.bool (decide (x.num < 0))) := cell_of_row _ _ _ _ _ _ ga
  have fa0 : wa.frozen? ⟨w1.heap.size, 0, none⟩ = false := frozen_of_row _ _ 0 _ _ ga
  have qa0 : wa.cell? ⟨w.heap.size, 0, none⟩ = some (.bool (decide (x.num < 0))) := (ba.cell (p := ⟨w.heap.size, 0, none⟩) hlw).trans q0
  have qa1 : wa.cell? ⟨w.heap.size, 1, none⟩ = some (.slice A1 (len x.num.natAbs) c1) := (ba.cell (p := ⟨w.heap.size, 1, none⟩) hlw).trans q1
  have g2 := heap_setCell_same wa _ 0 _ _ (.bool true) ga
  have b2 := ba.setCell (p := ⟨w1.heap.size, 0, none⟩) (Nat.le_refl _) (.bool true)
  have HG2 := Lib.hid (And.intro g2 b2)
  rw [← hwa]
  clear hc1 k0 k1 k2 b1 HX hx1 hx2 HK0 q0 q1 hwa ba ga g2 b2 hv1
  have h := Hh.out
  have hd : decide (x.num < 0) = false := decide_eq_false (by omega)
  have hl : decide (0 < len x.num.natAbs) = true := decide_eq_true (len_pos.2 (show 0 < x.num.natAbs by omega))
  clear h
  go_upto_region 3 with fail
  obtain ⟨w2, hw2⟩ : ∃ u, u = wa.setCell ⟨w1.heap.size, 0, none⟩ (.bool true) := ⟨_, rfl⟩
  obtain ⟨g2, b2⟩ := HG2.out
  rw [← hw2] at g2 b2 ⊢
  have p0 : w2.cell? ⟨w1.heap.size, 0, none⟩ = some (.bool true) := cell_of_row _ _ _ _ _ _ g2
  have p1 : w2.cell? ⟨w1.heap.size, 1, none⟩ = some (.slice B1 (len x.num.natAbs) e1) := cell_of_row _ _ _ _ _ _ g2
  have p2 : w2.cell? ⟨w1.heap.size, 2, none⟩ = some (.slice B2 (len (below x.den)) e2) := cell_of_row _ _ _ _ _ _ g2
  have hk := (HK1.out.call b2).held (Stay.refl _)
  have hnum : IsNum w2 (.agg #[.bool true, .slice B1 (len x.num.natAbs) e1, .slice B2 (len (below x.den)) e2]) (-x) :=
    ⟨_, _, by rw [HN.out.1], by rw [HN.out.2.1]; exact hn1.keep b2, by rw [HN.out.2.2]; exact hn2.keep b2⟩
  clear hw2 g2 b2 qa0 qa1 pa0 fa0
  obtain ⟨-, c0, c1', c2', f0, f1, f2, -⟩ := id hk
  have HD := hk.done (q := -x) (b := true) (A1 := B1) (n1 := len x.num.natAbs) (c1 := e1) (A2 := B2) (n2 := len (below x.den)) (c2 := e2) (hnum)
  obtain ⟨d1, d2, d3⟩ := HD
  have r0 := cell_of_row _ _ 0 _ _ _ d3
  have r1 := cell_of_row _ _ 1 _ _ _ d3
  have r2 := cell_of_row _ _ 2 _ _ _ d3
  simp only [List.getElem?_toArray, List.getElem?_cons_zero, List.getElem?_cons_succ] at r0 r1 r2
  have HD := Lib.hid (And.intro d1 d2)
  clear d1 d2 d3
  go_wp2_with fail
  refine bodyPost_ret (v := .agg #[.bool (true), .slice (B1) (len x.num.natAbs) (e1), .slice (B2) (len (below x.den)) (e2)]) ?_ rfl ⟨_, rfl, HD.out.1, below_to HB0.out (by omega) HD.out.2⟩
  simp [results, Tryz.results35, go_sem, r0, r1, r2]

theorem numNeg_any {w : World} {vx : Value} {x : Rat} (hx : IsNum w vx x) (hs : siz x ≤ 1099511627776) : Calls Tryz.prog 35 #[vx] w (NumRet w (-x)) := by
  rcases Int.lt_trichotomy x.num 0 with h | h | h
  · exact numNeg_n hx hs h
  · exact numNeg_z hx hs h
  · exact numNeg_p hx hs h
theorem abs_parts (x : Rat) : x.abs.num.natAbs = x.num.natAbs ∧ x.abs.den = x.den ∧ decide (x.abs.num < 0) = false := by
  unfold Rat.abs
  split
  · rename_i h
    have := Rat.num_nonneg.2 h
    exact ⟨rfl, rfl, decide_eq_false (by omega)⟩
  · rename_i h
    have h2 : ¬ 0 ≤ x.num := fun e => h (Rat.num_nonneg.1 e)
    refine ⟨by rw [Rat.neg_num, Int.natAbs_neg], rfl, ?_⟩
    rw [Rat.neg_num]
    exact decide_eq_false (by omega)

set_option maxRecDepth 100000 in
set_option maxHeartbeats 1000000 in
theorem numAbs_any {w : World} {vx : Value} {x : Rat} (hx : IsNum w vx x) (hs : siz x ≤ 1099511627776) : Calls Tryz.prog 37 #[vx] w (NumRet w (x.abs)) := by
  obtain ⟨A1, c1, A2, c2, rfl, hx1, hx2⟩ := hx.opened
  obtain ⟨wB, hwB⟩ : ∃ u, u = (w.alloc (.cells #[.bool (decide (x.num < 0)), .slice A1 (len x.num.natAbs) c1, .slice A2 (len (below x.den)) c2] 25)).alloc (.cells #[.bool false, .slice none 0 0, .slice none 0 0] 25) := ⟨_, rfl⟩
  obtain ⟨b0, gA, gB⟩ := news2 w (.cells #[.bool (decide (x.num < 0)), .slice A1 (len x.num.natAbs) c1, .slice A2 (len (below x.den)) c2] 25) (.cells #[.bool false, .slice none 0 0, .slice none 0 0] 25)
  rw [← hwB] at b0 gA gB
  have k0 : wB.cell? ⟨w.heap.size, 0, none⟩ = some (.bool (decide (x.num < 0))) := cell_of_row _ _ _ _ _ _ gA
  have k1 : wB.cell? ⟨w.heap.size, 1, none⟩ = some (.slice A1 (len x.num.natAbs) c1) := cell_of_row _ _ _ _ _ _ gA
  have k2 : wB.cell? ⟨w.heap.size, 2, none⟩ = some (.slice A2 (len (below x.den)) c2) := cell_of_row _ _ _ _ _ _ gA
  have HK0 := Lib.hid (Kept.start (T := 25) rfl (plain3 _ _ _ _ _ _ _) gB)
  have HB0 := Lib.hid b0
  have hlt1 : w.heap.size < w.heap.size + 1 := by omega
  clear gA gB b0
  have HX := fun (w' : World) (hk : Below w.heap.size w w') => Lib.hid (numCopied_any (hx.keep hk) hs)
  have HN : Hid (decide ((x.abs).num < 0) = false ∧ (x.abs).num.natAbs = x.num.natAbs ∧ (x.abs).den = x.den) := ⟨(abs_parts x).2.2, (abs_parts x).1, (abs_parts x).2.1⟩
  skip
  skip
  clear hx
  go_enter Tryz.func37, Tryz.ntmps37
  go_wp2_with fail
  rw [← hwB]
  clear hwB
  refine ((HX _ HB0.out).out).mono ?_
  rintro e w1 ⟨v1, rfl, hv1, b1⟩
  obtain ⟨B1, e1, B2, e2, rfl, hn1, hn2⟩ := hv1.opened
  have HK1 := Lib.hid (HK0.out.call b1)
  have hc1 := below_cell (b1.mono (show w.heap.size + 1 ≤ _ by have := HK0.out.block_lt; omega))
  have q0 : w1.cell? ⟨w.heap.size, 0, none⟩ = some (.bool (decide (x.num < 0))) := (hc1 _ _ hlt1).trans k0
  have q1 : w1.cell? ⟨w.heap.size, 1, none⟩ = some (.slice A1 (len x.num.natAbs) c1) := (hc1 _ _ hlt1).trans k1
  have hlw : w.heap.size < w1.heap.size := by have := HK1.out.block_lt; omega
  go_upto_region 2 with fail
  obtain ⟨wa, hwa⟩ : ∃ u, u = w1.alloc (.cells #[.bool (decide (x.num < 0)), .slice B1 (len x.num.natAbs) e1, .slice B2 (len (below x.den)) e2] 25) := ⟨_, rfl⟩
  have ba : Below w1.heap.size w1 wa := by rw [hwa]; exact (Below.refl _ _).alloc (Nat.le_refl _) _
  have ga : wa.heap[w1.heap.size]? = some (.cells #[.bool (decide (x.num < 0)), .slice B1 (len x.num.natAbs) e1, .slice B2 (len (below x.den)) e2] 25 (0, 0)) := by rw [hwa]; exact heap_alloc_new w1 _
  have pa0 : wa.cell? ⟨w1.heap.size, 0, none⟩ = some (.bool (decide (x.num < 0))) := cell_of_row _ _ _ _ _ _ ga
  have fa0 : wa.frozen? ⟨w1.heap.size, 0, none⟩ = false := frozen_of_row _ _ 0 _ _ ga
  have qa0 : wa.cell? ⟨w.heap.size, 0, none⟩ = some (.bool (decide (x.num < 0))) := (ba.cell (p := ⟨w.heap.size, 0, none⟩) hlw).trans q0
  have qa1 : wa.cell? ⟨w.heap.size, 1, none⟩ = some (.slice A1 (len x.num.natAbs) c1) := (ba.cell (p := ⟨w.heap.size, 1, none⟩) hlw).trans q1
  have g2 := heap_setCell_same wa _ 0 _ _ (.bool false) ga
  have b2 := ba.setCell (p := ⟨w1.heap.size, 0, none⟩) (Nat.le_refl _) (.bool false)
  have HG2 := Lib.hid (And.intro g2 b2)
  rw [← hwa]
  clear hc1 k0 k1 k2 b1 HX hx1 hx2 HK0 q0 q1 hwa ba ga g2 b2 hv1
  go_upto_region 3 with fail
  obtain ⟨w2, hw2⟩ : ∃ u, u = wa.setCell ⟨w1.heap.size, 0, none⟩ (.bool false) := ⟨_, rfl⟩
  obtain ⟨g2, b2⟩ := HG2.out
  rw [← hw2] at g2 b2 ⊢
  have p0 : w2.cell? ⟨w1.heap.size, 0, none⟩ = some (.bool false) := cell_of_row _ _ _ _ _ _ g2
  have p1 : w2.cell? ⟨w1.heap.size, 1, none⟩ = some (.slice B1 (len x.num.natAbs) e1) := cell_of_row _ _ _ _ _ _ g2
  have p2 : w2.cell? ⟨w1.heap.size, 2, none⟩ = some (.slice B2 (len (below x.den)) e2) := cell_of_row _ _ _ _ _ _ g2
  have hk := (HK1.out.call b2).held (Stay.refl _)
  have hnum : IsNum w2 (.agg #[.bool false, .slice B1 (len x.num.natAbs) e1, .slice B2 (len (below x.den)) e2]) (x.abs) :=
    ⟨_, _, by rw [HN.out.1], by rw [HN.out.2.1]; exact hn1.keep b2, by rw [HN.out.2.2]; exact hn2.keep b2⟩
  clear hw2 g2 b2 qa0 qa1 pa0 fa0
  obtain ⟨-, c0, c1', c2', f0, f1, f2, -⟩ := id hk
  have HD := hk.done (q := x.abs) (b := false) (A1 := B1) (n1 := len x.num.natAbs) (c1 := e1) (A2 := B2) (n2 := len (below x.den)) (c2 := e2) (hnum)
  obtain ⟨d1, d2, d3⟩ := HD
  have r0 := cell_of_row _ _ 0 _ _ _ d3
  have r1 := cell_of_row _ _ 1 _ _ _ d3
  have r2 := cell_of_row _ _ 2 _ _ _ d3
  simp only [List.getElem?_toArray, List.getElem?_cons_zero, List.getElem?_cons_succ] at r0 r1 r2
  have HD := Lib.hid (And.intro d1 d2)
  clear d1 d2 d3
  go_wp2_with fail
  refine bodyPost_ret (v := .agg #[.bool (false), .slice (B1) (len x.num.natAbs) (e1), .slice (B2) (len (below x.den)) (e2)]) ?_ rfl ⟨_, rfl, HD.out.1, below_to HB0.out (by omega) HD.out.2⟩
  simp [results, Tryz.results37, go_sem, r0, r1, r2]
end Go.Proofs.YtfppimacnhcflaaGreatDoor
