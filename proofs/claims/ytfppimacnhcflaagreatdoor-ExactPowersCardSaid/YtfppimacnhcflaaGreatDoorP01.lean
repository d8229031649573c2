/-
  Contracts of the functions that the law calls, for every input (Tr Tf).
-/
import Derived.Test.YtfppimacnhcflaaGreatDoorB38
set_option linter.all false
namespace Go.Proofs.YtfppimacnhcflaaGreatDoor.Rf
open Go.RowKit
open Rx
open Lib (hid)
open Vx (siz siz_num siz_den)
open List renaming getElem?_toArray → lg, getElem?_cons_zero → lz, getElem?_cons_succ → ls, setIfInBounds_toArray → lt, set_cons_zero → ly, set_cons_succ → lu
theorem hcall_le {wB wS w w' : World} {N : Nat} (h : Held0 wB N wS w) (e : Hid (N ≤ wB.heap.size)) (hb : Below w.heap.size w w') : Held0 wB N wS w' := Held0.call h e.out hb
theorem half_rat : ((1 : Int) : Rat) / ((2 : Int) : Rat) = mkRat 1 2 := by decide +kernel

set_option maxRecDepth 100000 in
set_option maxHeartbeats 8000000 in
theorem roundR_any {w : World} {vx vy : Value} {p g r : Rat} (h0 : g ≠ 0) (hr : flr (p / g + mkRat 1 2) * g = r) (hx : IsRat w vx p) (hy : IsRat w vy g) (sp : siz p ≤ 16777216) (sg : siz g ≤ 16777216) :
    Calls Tryz.prog 44 #[vx, vy] w (RatRet w r) := by
  obtain ⟨a, ea⟩ : ∃ z : Rat, p / g = z := ⟨_, rfl⟩
  obtain ⟨m, em⟩ : ∃ z : Rat, mkRat 1 2 = z := ⟨_, rfl⟩
  rw [ea, em] at hr
  obtain ⟨b, eb⟩ : ∃ z : Rat, a + m = z := ⟨_, rfl⟩
  obtain ⟨c, ec⟩ : ∃ z : Rat, flr b = z := ⟨_, rfl⟩
  rw [eb, ec] at hr
  have sm : siz m ≤ 3 := by rw [← em]; decide +kernel
  have hA : siz a ≤ 33554432 := by rw [← ea]; have := Vx.siz_div p g; omega
  have ta : siz a ≤ 268435456 := by omega
  have tm : siz m ≤ 268435456 := by omega
  have tb : siz b ≤ 268435456 := by rw [← eb]; have := Vx.siz_add a m; omega
  have tc : siz c ≤ 268435456 := by rw [← ec]; exact Nat.le_trans (siz_flr b) tb
  rw [← half_rat] at em
  clear sm hA
  have tp : siz p ≤ 268435456 := by omega
  have tg : siz g ≤ 268435456 := by omega
  replace tp := hid tp
  replace tg := hid tg
  clear sp sg
  replace ta := hid ta
  replace tm := hid tm
  replace tb := hid tb
  replace tc := hid tc
  replace ea := hid ea
  replace em := hid em
  replace eb := hid eb
  replace ec := hid ec
  replace hr := hid hr
  replace h0 := hid h0
  obtain ⟨C1, j1, C2, j2, rfl, -, -⟩ := id hx.opened
  replace hx := hid hx
  obtain ⟨C3, j3, C4, j4, rfl, -, -⟩ := id hy.opened
  replace hy := hid hy
  obtain ⟨w1, hw1⟩ : ∃ u, u = (((w.alloc (.cells #[.bool (decide (p.num < 0)), .slice C1 (len p.num.natAbs) j1, .slice C2 (len p.den) j2] 33)).alloc (.cells #[.bool (decide (g.num < 0)), .slice C3 (len g.num.natAbs) j3, .slice C4 (len g.den) j4] 33)).alloc (.cells #[.bool false, .slice none 0 0, .slice none 0 0] 33)) := ⟨_, rfl⟩
  obtain ⟨b1, g1, g2, g3⟩ := news3 w (.cells #[.bool (decide (p.num < 0)), .slice C1 (len p.num.natAbs) j1, .slice C2 (len p.den) j2] 33) (.cells #[.bool (decide (g.num < 0)), .slice C3 (len g.num.natAbs) j3, .slice C4 (len g.den) j4] 33) (.cells #[.bool false, .slice none 0 0, .slice none 0 0] 33)
  rw [← hw1] at b1 g1 g2 g3
  replace g1 := hid g1
  replace g2 := hid g2
  replace g3 := hid g3
  replace b1 := hid b1
  go_enter Tryz.func44, Tryz.ntmps44
  go_upto_region 1 with fail
  rw [← hw1]
  clear hw1
  go_wp2_with fail
  have HSZa : Hid ((w.heap.size + 2) ≤ w1.heap.size) := hid (by have := at_lt (at_keep g3.out (Below.refl _ w1)); omega)
  have hg : w1.heap[w.heap.size]? = some (.cells #[.bool (decide (p.num < 0)), .slice C1 (len p.num.natAbs) j1, .slice C2 (len p.den) j2] 33 (0, 0)) := ((Below.refl _ w1).block _ (Array.getElem?_eq_some_iff.1 g1.out).1).trans g1.out
  obtain ⟨z_x_0, z_x_1, z_x_2⟩ := cells3 hg
  clear hg
  have hlta_x : w.heap.size < (w.heap.size + 2) := by omega
  have hg : w1.heap[w.heap.size + 1]? = some (.cells #[.bool (decide (g.num < 0)), .slice C3 (len g.num.natAbs) j3, .slice C4 (len g.den) j4] 33 (0, 0)) := ((Below.refl _ w1).block _ (Array.getElem?_eq_some_iff.1 g2.out).1).trans g2.out
  obtain ⟨z_y_0, z_y_1, z_y_2⟩ := cells3 hg
  clear hg
  have hlta_y : w.heap.size + 1 < (w.heap.size + 2) := by omega
  have H0 := Held0.start w1 (w.heap.size + 2)
  have H0' := H0
  unfold Held0 at H0'
  refine wp_region_held_drew (S := (fun w' => (∀ b o, b < (w.heap.size + 2) → w'.cell? ⟨b, o, none⟩ = w1.cell? ⟨b, o, none⟩) ∧ Below ((w.heap.size + 2)) w1 w' ∧ Stay w1 w')) (by kernel_rfl) ?_ (fun hHeld => ?_)
  · (try dsimp only)
    exact H0'
  obtain ⟨w2, hw2⟩ : ∃ u, u = w1.drew := ⟨_, rfl⟩
  have b2 : Hid (Below w1.heap.size w1 w2) := by rw [hw2]; exact ⟨rfl, rfl, rfl, Nat.le_refl _, fun _ _ => rfl⟩
  rw [← hw2] at hHeld H0 ⊢
  clear hw2 H0'
  refine tk (i := 0) (h := ?_)
  try simp only [Act.put, lt, ly, lu]
  refine tk (i := 1) (h := ?_)
  try simp only [Act.put, lt, ly, lu]
  refine tk (i := 6) (h := ?_)
  try simp only [Act.put, lt, ly, lu]
  refine wpAnyH_ready (rs := [2]) (by kernel_rfl) (by simp) (AllReadyH.cons (o := ?oq41) ?eq41 ?kq41 AllReadyH.nil)
  case eq41 => simp only [lg, lz, ls]; rfl
  intro K hK; go_simp; go_at_call 34
  refine (divR_val h0.out ea.out (hx.out.keep (Below.step b1.out b2.out)) (hy.out.keep (Below.step b1.out b2.out)) tp.out tg.out).mono ?_
  rintro e w3 ⟨v3, rfl, hv3, b3⟩
  obtain ⟨C5, j5, C6, j6, rfl, -, -⟩ := id hv3.opened
  replace hv3 := hid hv3
  replace b3 := hid b3
  have hk3 := hcall_le H0 HSZa b3.out; have hk3' := hk3; unfold Held0 at hk3'; clear hHeld H0
  refine hK.out _ _ ?_ (fun hHeld => ?_)
  · (try dsimp only); with_reducible exact hk3'
  clear hK K hk3'; try simp only [Act.put, lt, ly, lu]
  refine wpAnyH_ready (rs := [3]) (by kernel_rfl) (by simp) (AllReadyH.cons (o := ?oq42) ?eq42 ?kq42 AllReadyH.nil)
  case eq42 => simp only [lg, lz, ls]; rfl
  intro K hK; go_simp; go_at_call 18
  refine (ratio_any em.out (by omega) (by omega) (by omega) (by omega) (by omega)).mono ?_
  rintro e w4 ⟨v4, rfl, hv4, b4⟩
  obtain ⟨C7, j7, C8, j8, rfl, -, -⟩ := id hv4.opened
  replace hv4 := hid hv4
  replace b4 := hid b4
  have hk4 := hcall_le hk3 HSZa b4.out; have hk4' := hk4; unfold Held0 at hk4'; clear hHeld hk3
  refine hK.out _ _ ?_ (fun hHeld => ?_)
  · (try dsimp only); with_reducible exact hk4'
  clear hK K hk4'; try simp only [Act.put, lt, ly, lu]
  refine wpAnyH_ready (rs := [4]) (by kernel_rfl) (by simp) (AllReadyH.cons (o := ?oq43) ?eq43 ?kq43 AllReadyH.nil)
  case eq43 => simp only [lg, lz, ls]; rfl
  intro K hK; go_simp; go_at_call 24
  refine (addR_val eb.out (hv3.out.keep b4.out) hv4.out ta.out tm.out).mono ?_
  rintro e w5 ⟨v5, rfl, hv5, b5⟩
  obtain ⟨C9, j9, C10, j10, rfl, -, -⟩ := id hv5.opened
  replace hv5 := hid hv5
  replace b5 := hid b5
  have hk5 := hcall_le hk4 HSZa b5.out; have hk5' := hk5; unfold Held0 at hk5'; clear hHeld hk4
  refine hK.out _ _ ?_ (fun hHeld => ?_)
  · (try dsimp only); with_reducible exact hk5'
  clear hK K hk5'; try simp only [Act.put, lt, ly, lu]
  refine wpAnyH_ready (rs := [5]) (by kernel_rfl) (by simp) (AllReadyH.cons (o := ?oq44) ?eq44 ?kq44 AllReadyH.nil)
  case eq44 => simp only [lg, lz, ls]; rfl
  intro K hK; go_simp; go_at_call 40
  refine (floorR_val ec.out hv5.out tb.out).mono ?_
  rintro e w6 ⟨v6, rfl, hv6, b6⟩
  obtain ⟨C11, j11, C12, j12, rfl, -, -⟩ := id hv6.opened
  replace hv6 := hid hv6
  replace b6 := hid b6
  have hk6 := hcall_le hk5 HSZa b6.out; have hk6' := hk6; unfold Held0 at hk6'; clear hHeld hk5
  refine hK.out _ _ ?_ (fun hHeld => ?_)
  · (try dsimp only); with_reducible exact hk6'
  clear hK K hk6'; try simp only [Act.put, lt, ly, lu]
  refine wpAnyH_ready (rs := [7]) (by kernel_rfl) (by simp) (AllReadyH.cons (o := ?oq45) ?eq45 ?kq45 AllReadyH.nil)
  case eq45 => simp only [lg, lz, ls]; rfl
  intro K hK; go_simp; go_at_call 28
  refine (mulR_val hr.out hv6.out (hy.out.keep (Below.step (Below.step (Below.step (Below.step (Below.step b1.out b2.out) b3.out) b4.out) b5.out) b6.out)) tc.out tg.out).mono ?_
  rintro e w7 ⟨v7, rfl, hv7, b7⟩
  obtain ⟨C13, j13, C14, j14, rfl, -, -⟩ := id hv7.opened
  replace hv7 := hid hv7
  replace b7 := hid b7
  have hk7 := hcall_le hk6 HSZa b7.out; have hk7' := hk7; unfold Held0 at hk7'; clear hHeld hk6
  refine hK.out _ _ ?_ (fun hHeld => ?_)
  · (try dsimp only); with_reducible exact hk7'
  clear hK K hk7'; try simp only [Act.put, lt, ly, lu]
  have Dq46 := (at_keep g3.out (Below.step (Below.step (Below.step (Below.step (Below.step b2.out b3.out) b4.out) b5.out) b6.out) b7.out))
  refine wpAnyH_ready (rs := [8]) (by kernel_rfl) (by simp) (AllReadyH.cons (o := ?oq46) ?eq46 ?kq46 AllReadyH.nil)
  case eq46 => simp only [lg, lz, ls]; rfl
  intro K hK
  have q0 : w7.cell? ⟨w.heap.size + 2, 0, none⟩ = some (.bool false) := cell_of_row _ _ _ _ _ _ Dq46
  have F0 : w7.frozen? ⟨w.heap.size + 2, 0, none⟩ = false := frozen_of_row w7 (w.heap.size + 2) 0 _ _ Dq46
  have q1 : w7.cell? ⟨w.heap.size + 2, 1, none⟩ = some (.slice none 0 0) := cell_of_row _ _ _ _ _ _ Dq46
  have F1 : w7.frozen? ⟨w.heap.size + 2, 1, none⟩ = false := frozen_of_row w7 (w.heap.size + 2) 1 _ _ Dq46
  have q2 : w7.cell? ⟨w.heap.size + 2, 2, none⟩ = some (.slice none 0 0) := cell_of_row _ _ _ _ _ _ Dq46
  have F2 : w7.frozen? ⟨w.heap.size + 2, 2, none⟩ = false := frozen_of_row w7 (w.heap.size + 2) 2 _ _ Dq46
  replace Dq46 := hid Dq46
  go_simp
  clear q0 F0 q1 F1 q2 F2
  have FB := hid (Below.step (Below.step (Below.step (Below.step (Below.step (Below.step b1.out b2.out) b3.out) b4.out) b5.out) b6.out) b7.out)
  have FV := hid hv7.out
  obtain ⟨ue, hw⟩ : ∃ z, z = (((w7.setCell ⟨w.heap.size + 2, 0, none⟩ (.bool (decide (r.num < 0)))).setCell ⟨w.heap.size + 2, 1, none⟩ (.slice C13 (len r.num.natAbs) j13)).setCell ⟨w.heap.size + 2, 2, none⟩ (.slice C14 (len r.den) j14)) := ⟨_, rfl⟩
  obtain ⟨E_ue, OT, LV, BL⟩ := stored3 Dq46.out hw
  rw [← hw]
  clear hw
  replace E_ue := hid E_ue
  have FE := hid (LV.rat FV.out)
  replace FB := hid (BL _ _ (by omega) FB.out)
  have HKE := hk7
  refine hK.out _ _ ?_ (fun hHeld2 => ?_)
  · (try dsimp only)
    exact ⟨fun b o hb => (below_cell (BL (w.heap.size + 2) _ (by omega) hk7.2.1)) b o hb, BL (w.heap.size + 2) _ (by omega) hk7.2.1, stay_trans hk7.2.2 LV⟩
  clear hK K hHeld OT LV BL HKE
  try simp only [Act.put, lt, ly, lu]
  have hHeld := hHeld2
  clear hHeld2
  refine wpAnyH_done (by kernel_rfl) ?_ _
  clear hHeld
  obtain ⟨r0, r1, r2⟩ := cells3 E_ue.out
  go_wp2_with fail
  refine bodyPost_ret (v := .agg #[.bool (decide (r.num < 0)), .slice C13 (len r.num.natAbs) j13, .slice C14 (len r.den) j14]) ?_ rfl ⟨_, rfl, FE.out, FB.out⟩
  simp [results, Tryz.results44, go_sem, r0, r1, r2]
end Go.Proofs.YtfppimacnhcflaaGreatDoor.Rf
namespace Go.Proofs.YtfppimacnhcflaaGreatDoor.Rf
open Go.RowKit
open Rx
open Lib (hid)
open Vx (siz siz_num siz_den)
open List renaming getElem?_toArray → lg, getElem?_cons_zero → lz, getElem?_cons_succ → ls, setIfInBounds_toArray → lt, set_cons_zero → ly, set_cons_succ → lu
theorem siz_pow (x : Rat) (n : Nat) : siz (x ^ n) ≤ siz x * n + 1 := by
  induction n with
  | zero => rw [Rat.pow_zero]; have : siz 1 ≤ 1 := by decide +kernel
            omega
  | succ n ih => rw [Rat.pow_succ, Nat.mul_succ]; have := Vx.siz_mul (x ^ n) x; omega
theorem pow_sizes {p : Rat} {n : Nat} (sp : siz p ≤ 100000) (hn : n ≤ 64) : ∀ k, k ≤ n + 1 → siz (p ^ k) ≤ 268435456 := by
  intro k hk
  have h1 := siz_pow p k
  have h2 : siz p * k ≤ 100000 * 65 := Nat.mul_le_mul sp (by omega)
  omega
/-- In the middle of the loop: a block bears the power so far; the argument and the result's block are as they were. -/
def PowAt (w : World) (X P : Nat) (cx : Array Value) (p : Rat) (k : Nat) (wr : World) : Prop :=
  ∃ A1 n1 c1 A2 n2 c2 b, wr.heap[P]? = some (.cells #[.bool b, .slice A1 n1 c1, .slice A2 n2 c2] 33 (0, 0)) ∧ IsRat wr (.agg #[.bool b, .slice A1 n1 c1, .slice A2 n2 c2]) (p ^ k) ∧
    wr.heap[X]? = some (.cells cx 33 (0, 0)) ∧ wr.heap[X + 1]? = some (.cells #[.bool false, .slice none 0 0, .slice none 0 0] 33 (0, 0)) ∧ IsRat wr (.agg cx) p ∧ Below w.heap.size w wr

set_option maxRecDepth 100000 in
set_option maxHeartbeats 8000000 in
theorem powR_any {w : World} {vx : Value} {p r : Rat} {n : Nat} (hr : p ^ n = r) (hx : IsRat w vx p) (sp : siz p ≤ 100000) (hn : n ≤ 64) :
    Calls Tryz.prog 43 #[vx, .int .i64 (n : Nat)] w (RatRet w r) := by
  obtain ⟨o, eo⟩ : ∃ z : Rat, ((1 : Int) : Rat) = z := ⟨_, rfl⟩
  have e0 : p ^ 0 = o := by rw [← eo, Rat.pow_zero]; rfl
  have HS := hid (pow_sizes sp hn)
  replace eo := hid eo
  replace e0 := hid e0
  replace hr := hid hr
  obtain ⟨C1, j1, C2, j2, rfl, -, -⟩ := id hx.opened
  replace hx := hid hx
  obtain ⟨w1, hw1⟩ : ∃ u, u = ((w.alloc (.cells #[.bool (decide (p.num < 0)), .slice C1 (len p.num.natAbs) j1, .slice C2 (len p.den) j2] 33)).alloc (.cells #[.bool false, .slice none 0 0, .slice none 0 0] 33)) := ⟨_, rfl⟩
  obtain ⟨b1, g1, g2⟩ := news2 w (.cells #[.bool (decide (p.num < 0)), .slice C1 (len p.num.natAbs) j1, .slice C2 (len p.den) j2] 33) (.cells #[.bool false, .slice none 0 0, .slice none 0 0] 33)
  rw [← hw1] at b1 g1 g2
  replace g1 := hid g1
  replace g2 := hid g2
  replace b1 := hid b1
  go_enter Tryz.func43, Tryz.ntmps43
  go_upto_region 1 with fail
  rw [← hw1]
  clear hw1
  have HX := hid (int_any (w := w1) eo.out (by omega) (by omega))
  go_wp2_with fail
  refine (HX.out).mono ?_
  rintro e w2 ⟨v2, rfl, hv2, b2⟩
  obtain ⟨C3, j3, C4, j4, rfl, -, -⟩ := id hv2.opened
  replace hv2 := hid hv2
  replace b2 := hid b2
  clear HX
  go_upto_region 2 with fail
  obtain ⟨w3, hw3⟩ : ∃ u, u = w2.alloc (.cells #[.bool (decide (o.num < 0)), .slice C3 (len o.num.natAbs) j3, .slice C4 (len o.den) j4] 33) := ⟨_, rfl⟩
  have b3 : Hid (Below w2.heap.size w2 w3) := by rw [hw3]; exact (Below.refl _ _).alloc (Nat.le_refl _) _
  have L3 : Hid (w3.heap[w2.heap.size]? = some (.cells #[.bool (decide (o.num < 0)), .slice C3 (len o.num.natAbs) j3, .slice C4 (len o.den) j4] 33 (0, 0))) := by rw [hw3]; exact heap_alloc_new w2 _
  rw [← hw3]
  clear hw3
  obtain ⟨P, hP⟩ : ∃ n, w2.heap.size = n := ⟨_, rfl⟩
  obtain ⟨X, hX⟩ : ∃ n, w.heap.size = n := ⟨_, rfl⟩
  have hXP : X + 1 < P := by rw [← hP, ← hX]; have := at_lt (at_keep g2.out b2.out); omega
  have HP0 : PowAt w X P (#[.bool (decide (p.num < 0)), .slice C1 (len p.num.natAbs) j1, .slice C2 (len p.den) j2]) p 0 w3 := ⟨_, _, _, _, _, _, _, by rw [← hP]; exact L3.out, by rw [e0.out]; exact (hv2.out.keep b3.out), by rw [← hX]; exact at_keep g1.out (Below.step b2.out b3.out), by rw [← hX]; exact (at_keep g2.out (Below.step b2.out b3.out)), (hx.out.keep (Below.step (Below.step b1.out b2.out) b3.out)), (Below.step (Below.step b1.out b2.out) b3.out)⟩
  rw [hX, hP]
  replace HP0 := hid HP0
  clear b1 b2 b3 g1 g2 L3 hv2 hx eo e0 hP
  go_wp2_with fail
  go_loopw [6] (fun iv wr => ∃ k : Nat, k ≤ n ∧ iv = .int .i64 k ∧ Hid (PowAt w X P (#[.bool (decide (p.num < 0)), .slice C1 (len p.num.natAbs) j1, .slice C2 (len p.den) j2]) p k wr)) (fun iv _ => n - (intOf iv).toNat)
  case atStart => exact ⟨0, Nat.zero_le _, rfl, HP0⟩
  case round =>
    obtain ⟨k, hk, rfl, hrel⟩ := hrel
    obtain ⟨B1, m1, d1, B2, m2, d2, bb, g5, hv, gx, gR, hxx, hbw⟩ := hrel.out
    clear hrel
    obtain ⟨z0, z1, z2⟩ := cells3 g5
    obtain ⟨y0, y1, y2⟩ := cells3 gx
    rcases Nat.lt_or_ge k n with hkn | hkn
    · have HX := hid (mulR_val (show p ^ k * p = p ^ (k + 1) from (Rat.pow_succ p k).symm) hv hxx (HS.out k (by omega)) (HS.out 1 (by omega) |> fun h => by rw [Rat.pow_one] at h; exact h))
      replace g5 := hid g5
      replace gx := hid gx
      replace gR := hid gR
      replace hxx := hid hxx
      replace hbw := hid hbw
      clear hv
      go_wp2_with fail
      refine (HX.out).mono ?_
      rintro e w7 ⟨v7, rfl, hv7, b7⟩
      obtain ⟨Q1, i1, Q2, i2, rfl, -, -⟩ := id hv7.opened
      replace hv7 := hid hv7
      have D5 := at_keep g5.out b7
      have q0 := cell_of_row _ _ 0 _ _ _ D5
      have q1 := cell_of_row _ _ 1 _ _ _ D5
      have q2 := cell_of_row _ _ 2 _ _ _ D5
      have F0 := frozen_of_row w7 P 0 _ _ D5
      have F1 := frozen_of_row w7 P 1 _ _ D5
      have F2 := frozen_of_row w7 P 2 _ _ D5
      simp only [lg, lz, ls] at q0 q1 q2
      obtain ⟨r, hr7⟩ : ∃ z, p ^ (k + 1) = z := ⟨_, rfl⟩
      rw [hr7] at hv7 ⊢
      replace hr7 := hid hr7
      obtain ⟨ue, hw⟩ : ∃ z, z = (((w7.setCell ⟨P, 0, none⟩ (.bool (decide (r.num < 0)))).setCell ⟨P, 1, none⟩ (.slice Q1 (len r.num.natAbs) i1)).setCell ⟨P, 2, none⟩ (.slice Q2 (len r.den) i2)) := ⟨_, rfl⟩
      obtain ⟨E, OT, LV, BL⟩ := stored3 D5 hw
      have FIN : Hid (PowAt w X P (#[.bool (decide (p.num < 0)), .slice C1 (len p.num.natAbs) j1, .slice C2 (len p.den) j2]) p (k + 1) ue) := hid ⟨_, _, _, _, _, _, _, E, by rw [hr7.out]; exact LV.rat hv7.out, OT _ _ (by omega) (at_keep gx.out b7), OT _ _ (by omega) (at_keep gR.out b7), LV.rat (hxx.out.keep b7), BL _ _ (by omega) (chain hbw.out b7)⟩
      replace hw := hid hw
      clear HX D5 E OT LV BL b7 g5 gx gR hxx hbw z0 z1 z2 y0 y1 y2
      go_wp2_with fail
      rw [← hw.out]
      go_roundw
      case rel => exact ⟨k + 1, hkn, by go_num, FIN⟩
      case measure => simp [intOf]; omega
    · obtain rfl : k = n := Nat.le_antisymm hk hkn
      rw [hr.out] at hv
      have q0 := cell_of_row _ _ 0 _ _ _ gR
      have q1 := cell_of_row _ _ 1 _ _ _ gR
      have q2 := cell_of_row _ _ 2 _ _ _ gR
      have F0 := frozen_of_row wr (X + 1) 0 _ _ gR
      have F1 := frozen_of_row wr (X + 1) 1 _ _ gR
      have F2 := frozen_of_row wr (X + 1) 2 _ _ gR
      simp only [lg, lz, ls] at q0 q1 q2
      obtain ⟨ue, hw⟩ : ∃ z, z = (((wr.setCell ⟨(X + 1), 0, none⟩ (.bool bb)).setCell ⟨(X + 1), 1, none⟩ (.slice B1 m1 d1)).setCell ⟨(X + 1), 2, none⟩ (.slice B2 m2 d2)) := ⟨_, rfl⟩
      obtain ⟨E, -, LV, BL⟩ := stored3 gR hw
      have FE := hid (LV.rat hv)
      have FB := hid (BL _ _ (by omega) hbw)
      replace E := hid E
      replace hw := hid hw
      clear HS gx hxx hbw y0 y1 y2 BL LV hv gR g5
      go_wp2_with fail
      rw [← hw.out]
      obtain ⟨r0, r1, r2⟩ := cells3 E.out
      refine bodyPost_ret (v := .agg #[.bool bb, .slice B1 m1 d1, .slice B2 m2 d2]) ?_ rfl ⟨_, rfl, FE.out, FB.out⟩
      simp [results, Tryz.results43, go_sem, r0, r1, r2]
end Go.Proofs.YtfppimacnhcflaaGreatDoor.Rf
