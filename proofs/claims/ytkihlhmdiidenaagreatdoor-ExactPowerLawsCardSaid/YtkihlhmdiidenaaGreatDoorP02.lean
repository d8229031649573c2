/-
  Contracts of the functions that the law calls, for every input (PwA).
-/
import Derived.Test.YtkihlhmdiidenaaGreatDoorP01
set_option linter.all false
namespace Go.Proofs.YtkihlhmdiidenaaGreatDoor
open Go.RowKit
open Vx

theorem siz_pow (x : Rat) (n : Nat) : siz (x ^ n) ≤ siz x * n + 1 := by
  refine siz_of ?_ ?_
  · rw [Rat.num_pow, Int.natAbs_pow]
    exact Nat.le_trans (len_pow_le _ _) (Nat.succ_le_succ (Nat.mul_le_mul_right n (siz_num x)))
  · rw [Rat.den_pow]
    exact Nat.le_trans (len_pow_le _ _) (Nat.succ_le_succ (Nat.mul_le_mul_right n (siz_den x)))
theorem rat_pow_add (x : Rat) (i j : Nat) : x ^ (i + j) = x ^ i * x ^ j := by
  induction j with
  | zero => rw [Nat.add_zero, Rat.pow_zero, Rat.mul_one]
  | succ j ih => rw [← Nat.add_assoc, Rat.pow_succ, Rat.pow_succ, ih, Rat.mul_assoc]
theorem rat_mul_pow (x y : Rat) (i : Nat) : (x * y) ^ i = x ^ i * y ^ i := by
  induction i with
  | zero => rw [Rat.pow_zero, Rat.pow_zero, Rat.pow_zero, Rat.mul_one]
  | succ i ih =>
    rw [Rat.pow_succ, Rat.pow_succ, Rat.pow_succ, ih, Rat.mul_assoc, Rat.mul_assoc]
    congr 1
    rw [← Rat.mul_assoc, Rat.mul_comm (y ^ i) x, Rat.mul_assoc]
theorem pow_val' {w : World} {vx : Value} {x q : Rat} {n : Nat} (hq : x ^ n = q) (hx : IsNum w vx x) (hs : siz x ≤ 536870912) (h : n ≤ 64) : Calls Tryz.prog 27 #[vx, .int .i64 (n : Nat)] w (NumErrRet w q 0) :=
  pow_ok hx hq.symm (Nat.le_trans hs (by omega)) h

set_option maxRecDepth 100000 in
set_option maxHeartbeats 8000000 in
theorem powers_long1 {w : World} {sa sb : ByteArray} {mn nn : Nat} {mx : Int} (h : 30 < sa.size) (hM : w.cell? ⟨1, 0, none⟩ = some (.int .i64 mx)) (hT : TabAt 0 Lib.deBruijn64tab w) :
    Calls Tryz.prog 5 #[.agg #[.string sa, .string sb, .int .u8 (mn : Nat), .int .u8 (nn : Nat)]] w (BoolRet w true) := by
  have hd : decide (((sa.size : Nat) : Int) > 30) = true := decide_eq_true (by omega)
  clear h
  replace hM := Lib.hid hM
  replace hT := Lib.hid hT
  obtain ⟨w1, hw1⟩ : ∃ u, u = w.alloc (.cells #[.string sa, .string sb, .int .u8 (mn : Nat), .int .u8 (nn : Nat)] 44) := ⟨_, rfl⟩
  have b1 : Hid (Below w.heap.size w w1) := by rw [hw1]; exact (Below.refl _ _).alloc (Nat.le_refl _) _
  have gA : w1.heap[w.heap.size]? = some (.cells #[.string sa, .string sb, .int .u8 (mn : Nat), .int .u8 (nn : Nat)] 44 (0, 0)) := by rw [hw1]; exact heap_alloc_new w _
  have k0 : w1.cell? ⟨w.heap.size, 0, none⟩ = some (.string sa) := cell_of_row _ _ _ _ _ _ gA
  have k1 : w1.cell? ⟨w.heap.size, 1, none⟩ = some (.string sb) := cell_of_row _ _ _ _ _ _ gA
  have k2 : w1.cell? ⟨w.heap.size, 2, none⟩ = some (.int .u8 (mn : Nat)) := cell_of_row _ _ _ _ _ _ gA
  have k3 : w1.cell? ⟨w.heap.size, 3, none⟩ = some (.int .u8 (nn : Nat)) := cell_of_row _ _ _ _ _ _ gA
  clear gA
  go_enter Tryz.func5, Tryz.ntmps5
  go_upto_region 1 with fail
  rw [← hw1]
  clear hw1
  go_wp2_with fail
  go_region_held3 (fun w' => w'.cell? ⟨w.heap.size, 0, none⟩ = some (.string sa) ∧ w'.cell? ⟨w.heap.size, 1, none⟩ = some (.string sb) ∧ w'.cell? ⟨w.heap.size, 2, none⟩ = some (.int .u8 (mn : Nat)) ∧ w'.cell? ⟨w.heap.size, 3, none⟩ = some (.int .u8 (nn : Nat)))
    (go_keep)
    (fail)
  rename_i hHl
  clear hHl k0 k1 k2 k3
  obtain ⟨w2, hw2⟩ : ∃ u, u = w1.drew := ⟨_, rfl⟩
  have b2 : Hid (Below w1.heap.size w1 w2) := by rw [hw2]; exact ⟨rfl, rfl, rfl, Nat.le_refl _, fun _ _ => rfl⟩
  rw [← hw2]
  clear hw2
  have HX := Lib.hid (known_any (cell_keep hM.out (Below.step b1.out b2.out)) (tab_keep hT.out (Below.step b1.out b2.out)))
  go_wp2_with fail
  refine (HX.out).mono ?_
  rintro e w3 ⟨rfl, b3⟩
  replace b3 := Lib.hid b3
  clear HX
  have HE := Lib.hid (Below.step (Below.step b1.out b2.out) b3.out)
  go_wp2_with fail
  go_ret
  exact ⟨rfl, HE.out⟩

set_option maxRecDepth 100000 in
set_option maxHeartbeats 8000000 in
theorem powers_long2 {w : World} {sa sb : ByteArray} {mn nn : Nat} {mx : Int} (h : ¬ 30 < sa.size) (h2 : 30 < sb.size) (hM : w.cell? ⟨1, 0, none⟩ = some (.int .i64 mx)) (hT : TabAt 0 Lib.deBruijn64tab w) :
    Calls Tryz.prog 5 #[.agg #[.string sa, .string sb, .int .u8 (mn : Nat), .int .u8 (nn : Nat)]] w (BoolRet w true) := by
  have hd : decide (((sa.size : Nat) : Int) > 30) = false := decide_eq_false (by omega)
  have hd2 : decide (((sb.size : Nat) : Int) > 30) = true := decide_eq_true (by omega)
  clear h h2
  replace hM := Lib.hid hM
  replace hT := Lib.hid hT
  obtain ⟨w1, hw1⟩ : ∃ u, u = w.alloc (.cells #[.string sa, .string sb, .int .u8 (mn : Nat), .int .u8 (nn : Nat)] 44) := ⟨_, rfl⟩
  have b1 : Hid (Below w.heap.size w w1) := by rw [hw1]; exact (Below.refl _ _).alloc (Nat.le_refl _) _
  have gA : w1.heap[w.heap.size]? = some (.cells #[.string sa, .string sb, .int .u8 (mn : Nat), .int .u8 (nn : Nat)] 44 (0, 0)) := by rw [hw1]; exact heap_alloc_new w _
  have k0 : w1.cell? ⟨w.heap.size, 0, none⟩ = some (.string sa) := cell_of_row _ _ _ _ _ _ gA
  have k1 : w1.cell? ⟨w.heap.size, 1, none⟩ = some (.string sb) := cell_of_row _ _ _ _ _ _ gA
  have k2 : w1.cell? ⟨w.heap.size, 2, none⟩ = some (.int .u8 (mn : Nat)) := cell_of_row _ _ _ _ _ _ gA
  have k3 : w1.cell? ⟨w.heap.size, 3, none⟩ = some (.int .u8 (nn : Nat)) := cell_of_row _ _ _ _ _ _ gA
  clear gA
  go_enter Tryz.func5, Tryz.ntmps5
  go_upto_region 1 with fail
  rw [← hw1]
  clear hw1
  go_wp2_with fail
  go_region_held3 (fun w' => w'.cell? ⟨w.heap.size, 0, none⟩ = some (.string sa) ∧ w'.cell? ⟨w.heap.size, 1, none⟩ = some (.string sb) ∧ w'.cell? ⟨w.heap.size, 2, none⟩ = some (.int .u8 (mn : Nat)) ∧ w'.cell? ⟨w.heap.size, 3, none⟩ = some (.int .u8 (nn : Nat)))
    (go_keep)
    (fail)
  rename_i hHl
  clear hHl k0 k1 k2 k3
  obtain ⟨w2, hw2⟩ : ∃ u, u = w1.drew := ⟨_, rfl⟩
  have b2 : Hid (Below w1.heap.size w1 w2) := by rw [hw2]; exact ⟨rfl, rfl, rfl, Nat.le_refl _, fun _ _ => rfl⟩
  rw [← hw2]
  clear hw2
  have HX := Lib.hid (known_any (cell_keep hM.out (Below.step b1.out b2.out)) (tab_keep hT.out (Below.step b1.out b2.out)))
  go_wp2_with fail
  refine (HX.out).mono ?_
  rintro e w3 ⟨rfl, b3⟩
  replace b3 := Lib.hid b3
  clear HX
  have HE := Lib.hid (Below.step (Below.step b1.out b2.out) b3.out)
  go_wp2_with fail
  go_ret
  exact ⟨rfl, HE.out⟩

set_option maxRecDepth 100000 in
set_option maxHeartbeats 8000000 in
theorem powers_short {w : World} {sa sb : ByteArray} {mn nn : Nat} {mx : Int} (h : ¬ 30 < sa.size) (h2 : ¬ 30 < sb.size) (hmn : mn ≤ 255) (hnn : nn ≤ 255) (hM : w.cell? ⟨1, 0, none⟩ = some (.int .i64 mx)) (hT : TabAt 0 Lib.deBruijn64tab w) :
    Calls Tryz.prog 5 #[.agg #[.string sa, .string sb, .int .u8 (mn : Nat), .int .u8 (nn : Nat)]] w (BoolRet w true) := by
  obtain ⟨x, e_x⟩ : ∃ q : Rat, (parseV sa).1 = q := ⟨_, rfl⟩
  obtain ⟨y, e_y⟩ : ∃ q : Rat, (parseV sb).1 = q := ⟨_, rfl⟩
  have z_x : Hid (siz x ≤ 536870912) := by show _ ≤ _; rw [← e_x]; exact Nat.le_trans (parse_siz _) (by omega)
  have zz_x : siz x ≤ 4100 := by rw [← e_x]; exact parse_siz _
  have z_y : Hid (siz y ≤ 536870912) := by show _ ≤ _; rw [← e_y]; exact Nat.le_trans (parse_siz _) (by omega)
  have zz_y : siz y ≤ 4100 := by rw [← e_y]; exact parse_siz _
  obtain ⟨i, hi⟩ : ∃ i : Nat, i = mn % 9 := ⟨_, rfl⟩
  obtain ⟨j, hj⟩ : ∃ j : Nat, j = nn % 9 := ⟨_, rfl⟩
  have hi8 : i ≤ 8 := by omega
  have hj8 : j ≤ 8 := by omega
  have hmi : Int.tmod ((mn : Nat) : Int) 9 = ((i : Nat) : Int) := by rw [hi, Int.tmod_eq_emod_of_nonneg (by omega)]; omega
  have hnj : Int.tmod ((nn : Nat) : Int) 9 = ((j : Nat) : Int) := by rw [hj, Int.tmod_eq_emod_of_nonneg (by omega)]; omega
  have hmi2 : ((mn : Nat) : Int) % 9 = ((i : Nat) : Int) := by omega
  have hnj2 : ((nn : Nat) : Int) % 9 = ((j : Nat) : Int) := by omega
  obtain ⟨p, e_p⟩ : ∃ q : Rat, x ^ i = q := ⟨_, rfl⟩
  obtain ⟨q, e_q⟩ : ∃ q : Rat, x ^ j = q := ⟨_, rfl⟩
  obtain ⟨r, e_r⟩ : ∃ q : Rat, x ^ (i + j) = q := ⟨_, rfl⟩
  obtain ⟨t, e_t⟩ : ∃ q : Rat, y ^ i = q := ⟨_, rfl⟩
  obtain ⟨xy, e_xy⟩ : ∃ q : Rat, x * y = q := ⟨_, rfl⟩
  obtain ⟨s, e_s⟩ : ∃ q : Rat, xy ^ i = q := ⟨_, rfl⟩
  obtain ⟨pq, e_pq⟩ : ∃ z : Rat, p * q = z := ⟨_, rfl⟩
  obtain ⟨pt, e_pt⟩ : ∃ z : Rat, p * t = z := ⟨_, rfl⟩
  have zxy : siz xy ≤ 8200 := by rw [← e_xy]; exact Nat.le_trans (siz_mul x y) (by omega)
  have z_xy : Hid (siz xy ≤ 536870912) := Nat.le_trans zxy (by omega)
  have z_p : Hid (siz p ≤ 536870912) := by show _ ≤ _; rw [← e_p]; exact Nat.le_trans (siz_pow x i) (Nat.le_trans (Nat.succ_le_succ (Nat.mul_le_mul zz_x (show i ≤ 8 by omega))) (by omega))
  have z_q : Hid (siz q ≤ 536870912) := by show _ ≤ _; rw [← e_q]; exact Nat.le_trans (siz_pow x j) (Nat.le_trans (Nat.succ_le_succ (Nat.mul_le_mul zz_x (show j ≤ 8 by omega))) (by omega))
  have z_r : Hid (siz r ≤ 536870912) := by show _ ≤ _; rw [← e_r]; exact Nat.le_trans (siz_pow x (i + j)) (Nat.le_trans (Nat.succ_le_succ (Nat.mul_le_mul zz_x (show (i + j) ≤ 16 by omega))) (by omega))
  have z_t : Hid (siz t ≤ 536870912) := by show _ ≤ _; rw [← e_t]; exact Nat.le_trans (siz_pow y i) (Nat.le_trans (Nat.succ_le_succ (Nat.mul_le_mul zz_y (show i ≤ 8 by omega))) (by omega))
  have z_s : Hid (siz s ≤ 536870912) := by show _ ≤ _; rw [← e_s]; exact Nat.le_trans (siz_pow xy i) (Nat.le_trans (Nat.succ_le_succ (Nat.mul_le_mul zxy (show i ≤ 8 by omega))) (by omega))
  have z_pq : Hid (siz pq ≤ 536870912) := by show _ ≤ _; rw [← e_pq]; refine Nat.le_trans (siz_mul p q) ?_; have h1 := siz_pow x i; have h2 := siz_pow x j; have h3 : siz x * i ≤ 4100 * 8 := Nat.mul_le_mul zz_x hi8; have h4 : siz x * j ≤ 4100 * 8 := Nat.mul_le_mul zz_x hj8; rw [e_p] at h1; rw [e_q] at h2; omega
  have z_pt : Hid (siz pt ≤ 536870912) := by show _ ≤ _; rw [← e_pt]; refine Nat.le_trans (siz_mul p t) ?_; have h1 := siz_pow x i; have h2 := siz_pow y i; have h3 : siz x * i ≤ 4100 * 8 := Nat.mul_le_mul zz_x hi8; have h4 : siz y * i ≤ 4100 * 8 := Nat.mul_le_mul zz_y hi8; rw [e_p] at h1; rw [e_t] at h2; omega
  have i1 : Hid (pq = r) := by show _ = _; rw [← e_pq, ← e_p, ← e_q, ← e_r, rat_pow_add]
  have i2 : Hid (pt = s) := by show _ = _; rw [← e_pt, ← e_p, ← e_t, ← e_s, ← e_xy, rat_mul_pow]
  replace e_x := Lib.hid e_x
  replace e_y := Lib.hid e_y
  replace e_p := Lib.hid e_p
  replace e_q := Lib.hid e_q
  replace e_r := Lib.hid e_r
  replace e_t := Lib.hid e_t
  replace e_xy := Lib.hid e_xy
  replace e_s := Lib.hid e_s
  replace e_pq := Lib.hid e_pq
  replace e_pt := Lib.hid e_pt
  have hd : decide (((sa.size : Nat) : Int) > 30) = false := decide_eq_false (by omega)
  have hd2 : decide (((sb.size : Nat) : Int) > 30) = false := decide_eq_false (by omega)
  have hI1 : ((i : Nat) : Int) ≤ 8 := by omega
  have hJ1 : ((j : Nat) : Int) ≤ 8 := by omega
  have hm1 : ((mn : Nat) : Int) ≤ 255 := by omega
  have hn1 : ((nn : Nat) : Int) ≤ 255 := by omega
  replace hi := Lib.hid hi
  replace hj := Lib.hid hj
  clear h h2 hmn hnn zz_x zz_y zxy
  replace hM := Lib.hid hM
  replace hT := Lib.hid hT
  obtain ⟨w1, hw1⟩ : ∃ u, u = w.alloc (.cells #[.string sa, .string sb, .int .u8 (mn : Nat), .int .u8 (nn : Nat)] 44) := ⟨_, rfl⟩
  have b1 : Hid (Below w.heap.size w w1) := by rw [hw1]; exact (Below.refl _ _).alloc (Nat.le_refl _) _
  have gA : w1.heap[w.heap.size]? = some (.cells #[.string sa, .string sb, .int .u8 (mn : Nat), .int .u8 (nn : Nat)] 44 (0, 0)) := by rw [hw1]; exact heap_alloc_new w _
  have k0 : w1.cell? ⟨w.heap.size, 0, none⟩ = some (.string sa) := cell_of_row _ _ _ _ _ _ gA
  have k1 : w1.cell? ⟨w.heap.size, 1, none⟩ = some (.string sb) := cell_of_row _ _ _ _ _ _ gA
  have k2 : w1.cell? ⟨w.heap.size, 2, none⟩ = some (.int .u8 (mn : Nat)) := cell_of_row _ _ _ _ _ _ gA
  have k3 : w1.cell? ⟨w.heap.size, 3, none⟩ = some (.int .u8 (nn : Nat)) := cell_of_row _ _ _ _ _ _ gA
  clear gA
  go_enter Tryz.func5, Tryz.ntmps5
  go_upto_region 1 with fail
  rw [← hw1]
  clear hw1
  go_wp2_with fail
  go_region_held3 (fun w' => w'.cell? ⟨w.heap.size, 0, none⟩ = some (.string sa) ∧ w'.cell? ⟨w.heap.size, 1, none⟩ = some (.string sb) ∧ w'.cell? ⟨w.heap.size, 2, none⟩ = some (.int .u8 (mn : Nat)) ∧ w'.cell? ⟨w.heap.size, 3, none⟩ = some (.int .u8 (nn : Nat)))
    (go_keep)
    (fail)
  rename_i hHl
  clear hHl k0 k1 k2 k3
  obtain ⟨w2, hw2⟩ : ∃ u, u = w1.drew := ⟨_, rfl⟩
  have b2 : Hid (Below w1.heap.size w1 w2) := by rw [hw2]; exact ⟨rfl, rfl, rfl, Nat.le_refl _, fun _ _ => rfl⟩
  rw [← hw2]
  clear hw2
  have HX := Lib.hid (number_val (cell_keep hM.out (Below.step b1.out b2.out)) e_x.out)
  go_wp2_with fail
  refine (HX.out).mono ?_
  rintro e w3 ⟨v3, rfl, hv3, b3⟩
  obtain ⟨C1, j1, C2, j2, rfl, -, -⟩ := id hv3.opened
  replace hv3 := Lib.hid hv3
  replace b3 := Lib.hid b3
  clear HX
  have HX := Lib.hid (number_val (cell_keep hM.out (Below.step (Below.step b1.out b2.out) b3.out)) e_y.out)
  go_wp2_with fail
  refine (HX.out).mono ?_
  rintro e w4 ⟨v4, rfl, hv4, b4⟩
  obtain ⟨C3, j3, C4, j4, rfl, -, -⟩ := id hv4.opened
  replace hv4 := Lib.hid hv4
  replace b4 := Lib.hid b4
  clear HX
  go_upto_region 5 with fail
  obtain ⟨w5, hw5⟩ : ∃ u, u = (w4.alloc (.cells #[.bool (decide (x.num < 0)), .slice C1 (len x.num.natAbs) j1, .slice C2 (len (below x.den)) j2] 27)).alloc (.cells #[.bool (decide (y.num < 0)), .slice C3 (len y.num.natAbs) j3, .slice C4 (len (below y.den)) j4] 27) := ⟨_, rfl⟩
  obtain ⟨b5, L5, M5⟩ := news2 w4 (.cells #[.bool (decide (x.num < 0)), .slice C1 (len x.num.natAbs) j1, .slice C2 (len (below x.den)) j2] 27) (.cells #[.bool (decide (y.num < 0)), .slice C3 (len y.num.natAbs) j3, .slice C4 (len (below y.den)) j4] 27)
  rw [← hw5] at b5 L5 M5 ⊢
  clear hw5
  replace b5 := Lib.hid b5
  replace L5 := Lib.hid L5
  replace M5 := Lib.hid M5
  have hg : w5.heap[w4.heap.size]? = some (.cells #[.bool (decide (x.num < 0)), .slice C1 (len x.num.natAbs) j1, .slice C2 (len (below x.den)) j2] 27 (0, 0)) := ((Below.refl _ w5).block _ (Array.getElem?_eq_some_iff.1 L5.out).1).trans L5.out
  have z_x_0 : w5.cell? ⟨w4.heap.size, 0, none⟩ = some (.bool (decide (x.num < 0))) := cell_of_row _ _ _ _ _ _ hg
  have z_x_1 : w5.cell? ⟨w4.heap.size, 1, none⟩ = some (.slice C1 (len x.num.natAbs) j1) := cell_of_row _ _ _ _ _ _ hg
  have z_x_2 : w5.cell? ⟨w4.heap.size, 2, none⟩ = some (.slice C2 (len (below x.den)) j2) := cell_of_row _ _ _ _ _ _ hg
  clear hg
  have HX := Lib.hid (pow_val' e_p.out (hv3.out.keep (Below.step b4.out b5.out)) z_x.out (show i ≤ 64 by omega))
  go_wp2_with fail
  refine (HX.out).mono ?_
  rintro e w6 ⟨v6, rfl, hv6, b6⟩
  obtain ⟨C5, j5, C6, j6, rfl, -, -⟩ := id hv6.opened
  replace hv6 := Lib.hid hv6
  replace b6 := Lib.hid b6
  clear HX
  clear z_x_0 z_x_1 z_x_2
  go_upto_region 6 with fail
  obtain ⟨w7, hw7⟩ : ∃ u, u = w6.alloc (.cells #[.bool (decide (p.num < 0)), .slice C5 (len p.num.natAbs) j5, .slice C6 (len (below p.den)) j6] 27) := ⟨_, rfl⟩
  have b7 : Hid (Below w6.heap.size w6 w7) := by rw [hw7]; exact (Below.refl _ _).alloc (Nat.le_refl _) _
  have L7 : Hid (w7.heap[w6.heap.size]? = some (.cells #[.bool (decide (p.num < 0)), .slice C5 (len p.num.natAbs) j5, .slice C6 (len (below p.den)) j6] 27 (0, 0))) := by rw [hw7]; exact heap_alloc_new w6 _
  rw [← hw7]
  clear hw7
  have hg : w7.heap[w4.heap.size]? = some (.cells #[.bool (decide (x.num < 0)), .slice C1 (len x.num.natAbs) j1, .slice C2 (len (below x.den)) j2] 27 (0, 0)) := ((Below.step b6.out b7.out).block _ (Array.getElem?_eq_some_iff.1 L5.out).1).trans L5.out
  have z_x_0 : w7.cell? ⟨w4.heap.size, 0, none⟩ = some (.bool (decide (x.num < 0))) := cell_of_row _ _ _ _ _ _ hg
  have z_x_1 : w7.cell? ⟨w4.heap.size, 1, none⟩ = some (.slice C1 (len x.num.natAbs) j1) := cell_of_row _ _ _ _ _ _ hg
  have z_x_2 : w7.cell? ⟨w4.heap.size, 2, none⟩ = some (.slice C2 (len (below x.den)) j2) := cell_of_row _ _ _ _ _ _ hg
  clear hg
  have HX := Lib.hid (pow_val' e_q.out (hv3.out.keep (Below.step (Below.step (Below.step b4.out b5.out) b6.out) b7.out)) z_x.out (show j ≤ 64 by omega))
  go_wp2_with fail
  refine (HX.out).mono ?_
  rintro e w8 ⟨v8, rfl, hv8, b8⟩
  obtain ⟨C7, j7, C8, j8, rfl, -, -⟩ := id hv8.opened
  replace hv8 := Lib.hid hv8
  replace b8 := Lib.hid b8
  clear HX
  clear z_x_0 z_x_1 z_x_2
  go_upto_region 7 with fail
  obtain ⟨w9, hw9⟩ : ∃ u, u = w8.alloc (.cells #[.bool (decide (q.num < 0)), .slice C7 (len q.num.natAbs) j7, .slice C8 (len (below q.den)) j8] 27) := ⟨_, rfl⟩
  have b9 : Hid (Below w8.heap.size w8 w9) := by rw [hw9]; exact (Below.refl _ _).alloc (Nat.le_refl _) _
  have L9 : Hid (w9.heap[w8.heap.size]? = some (.cells #[.bool (decide (q.num < 0)), .slice C7 (len q.num.natAbs) j7, .slice C8 (len (below q.den)) j8] 27 (0, 0))) := by rw [hw9]; exact heap_alloc_new w8 _
  rw [← hw9]
  clear hw9
  have hg : w9.heap[w4.heap.size]? = some (.cells #[.bool (decide (x.num < 0)), .slice C1 (len x.num.natAbs) j1, .slice C2 (len (below x.den)) j2] 27 (0, 0)) := ((Below.step (Below.step (Below.step b6.out b7.out) b8.out) b9.out).block _ (Array.getElem?_eq_some_iff.1 L5.out).1).trans L5.out
  have z_x_0 : w9.cell? ⟨w4.heap.size, 0, none⟩ = some (.bool (decide (x.num < 0))) := cell_of_row _ _ _ _ _ _ hg
  have z_x_1 : w9.cell? ⟨w4.heap.size, 1, none⟩ = some (.slice C1 (len x.num.natAbs) j1) := cell_of_row _ _ _ _ _ _ hg
  have z_x_2 : w9.cell? ⟨w4.heap.size, 2, none⟩ = some (.slice C2 (len (below x.den)) j2) := cell_of_row _ _ _ _ _ _ hg
  clear hg
  have HX := Lib.hid (pow_val' e_r.out (hv3.out.keep (Below.step (Below.step (Below.step (Below.step (Below.step b4.out b5.out) b6.out) b7.out) b8.out) b9.out)) z_x.out (show i + j ≤ 64 by omega))
  rw [Int.natCast_add] at HX
  go_wp2_with fail
  refine (HX.out).mono ?_
  rintro e w10 ⟨v10, rfl, hv10, b10⟩
  obtain ⟨C9, j9, C10, j10, rfl, -, -⟩ := id hv10.opened
  replace hv10 := Lib.hid hv10
  replace b10 := Lib.hid b10
  clear HX
  clear z_x_0 z_x_1 z_x_2
  go_upto_region 8 with fail
  obtain ⟨w11, hw11⟩ : ∃ u, u = w10.alloc (.cells #[.bool (decide (r.num < 0)), .slice C9 (len r.num.natAbs) j9, .slice C10 (len (below r.den)) j10] 27) := ⟨_, rfl⟩
  have b11 : Hid (Below w10.heap.size w10 w11) := by rw [hw11]; exact (Below.refl _ _).alloc (Nat.le_refl _) _
  have L11 : Hid (w11.heap[w10.heap.size]? = some (.cells #[.bool (decide (r.num < 0)), .slice C9 (len r.num.natAbs) j9, .slice C10 (len (below r.den)) j10] 27 (0, 0))) := by rw [hw11]; exact heap_alloc_new w10 _
  rw [← hw11]
  clear hw11
  have hg : w11.heap[w4.heap.size]? = some (.cells #[.bool (decide (x.num < 0)), .slice C1 (len x.num.natAbs) j1, .slice C2 (len (below x.den)) j2] 27 (0, 0)) := ((Below.step (Below.step (Below.step (Below.step (Below.step b6.out b7.out) b8.out) b9.out) b10.out) b11.out).block _ (Array.getElem?_eq_some_iff.1 L5.out).1).trans L5.out
  have z_x_0 : w11.cell? ⟨w4.heap.size, 0, none⟩ = some (.bool (decide (x.num < 0))) := cell_of_row _ _ _ _ _ _ hg
  have z_x_1 : w11.cell? ⟨w4.heap.size, 1, none⟩ = some (.slice C1 (len x.num.natAbs) j1) := cell_of_row _ _ _ _ _ _ hg
  have z_x_2 : w11.cell? ⟨w4.heap.size, 2, none⟩ = some (.slice C2 (len (below x.den)) j2) := cell_of_row _ _ _ _ _ _ hg
  clear hg
  have hg : w11.heap[w4.heap.size + 1]? = some (.cells #[.bool (decide (y.num < 0)), .slice C3 (len y.num.natAbs) j3, .slice C4 (len (below y.den)) j4] 27 (0, 0)) := ((Below.step (Below.step (Below.step (Below.step (Below.step b6.out b7.out) b8.out) b9.out) b10.out) b11.out).block _ (Array.getElem?_eq_some_iff.1 M5.out).1).trans M5.out
  have z_y_0 : w11.cell? ⟨w4.heap.size + 1, 0, none⟩ = some (.bool (decide (y.num < 0))) := cell_of_row _ _ _ _ _ _ hg
  have z_y_1 : w11.cell? ⟨w4.heap.size + 1, 1, none⟩ = some (.slice C3 (len y.num.natAbs) j3) := cell_of_row _ _ _ _ _ _ hg
  have z_y_2 : w11.cell? ⟨w4.heap.size + 1, 2, none⟩ = some (.slice C4 (len (below y.den)) j4) := cell_of_row _ _ _ _ _ _ hg
  clear hg
  have HX := Lib.hid (mul_val' e_xy.out (hv3.out.keep (Below.step (Below.step (Below.step (Below.step (Below.step (Below.step (Below.step b4.out b5.out) b6.out) b7.out) b8.out) b9.out) b10.out) b11.out)) (hv4.out.keep (Below.step (Below.step (Below.step (Below.step (Below.step (Below.step b5.out b6.out) b7.out) b8.out) b9.out) b10.out) b11.out)) z_x.out z_y.out)
  go_wp2_with fail
  refine (HX.out).mono ?_
  rintro e w12 ⟨v12, rfl, hv12, b12⟩
  obtain ⟨C11, j11, C12, j12, rfl, -, -⟩ := id hv12.opened
  replace hv12 := Lib.hid hv12
  replace b12 := Lib.hid b12
  clear HX
  clear z_x_0 z_x_1 z_x_2 z_y_0 z_y_1 z_y_2
  have HX := Lib.hid (pow_val' e_s.out hv12.out z_xy.out (show i ≤ 64 by omega))
  go_wp2_with fail
  refine (HX.out).mono ?_
  rintro e w13 ⟨v13, rfl, hv13, b13⟩
  obtain ⟨C13, j13, C14, j14, rfl, -, -⟩ := id hv13.opened
  replace hv13 := Lib.hid hv13
  replace b13 := Lib.hid b13
  clear HX
  go_upto_region 9 with fail
  obtain ⟨w14, hw14⟩ : ∃ u, u = w13.alloc (.cells #[.bool (decide (s.num < 0)), .slice C13 (len s.num.natAbs) j13, .slice C14 (len (below s.den)) j14] 27) := ⟨_, rfl⟩
  have b14 : Hid (Below w13.heap.size w13 w14) := by rw [hw14]; exact (Below.refl _ _).alloc (Nat.le_refl _) _
  have L14 : Hid (w14.heap[w13.heap.size]? = some (.cells #[.bool (decide (s.num < 0)), .slice C13 (len s.num.natAbs) j13, .slice C14 (len (below s.den)) j14] 27 (0, 0))) := by rw [hw14]; exact heap_alloc_new w13 _
  rw [← hw14]
  clear hw14
  have hg : w14.heap[w4.heap.size + 1]? = some (.cells #[.bool (decide (y.num < 0)), .slice C3 (len y.num.natAbs) j3, .slice C4 (len (below y.den)) j4] 27 (0, 0)) := ((Below.step (Below.step (Below.step (Below.step (Below.step (Below.step (Below.step (Below.step b6.out b7.out) b8.out) b9.out) b10.out) b11.out) b12.out) b13.out) b14.out).block _ (Array.getElem?_eq_some_iff.1 M5.out).1).trans M5.out
  have z_y_0 : w14.cell? ⟨w4.heap.size + 1, 0, none⟩ = some (.bool (decide (y.num < 0))) := cell_of_row _ _ _ _ _ _ hg
  have z_y_1 : w14.cell? ⟨w4.heap.size + 1, 1, none⟩ = some (.slice C3 (len y.num.natAbs) j3) := cell_of_row _ _ _ _ _ _ hg
  have z_y_2 : w14.cell? ⟨w4.heap.size + 1, 2, none⟩ = some (.slice C4 (len (below y.den)) j4) := cell_of_row _ _ _ _ _ _ hg
  clear hg
  have HX := Lib.hid (pow_val' e_t.out (hv4.out.keep (Below.step (Below.step (Below.step (Below.step (Below.step (Below.step (Below.step (Below.step (Below.step b5.out b6.out) b7.out) b8.out) b9.out) b10.out) b11.out) b12.out) b13.out) b14.out)) z_y.out (show i ≤ 64 by omega))
  go_wp2_with fail
  refine (HX.out).mono ?_
  rintro e w15 ⟨v15, rfl, hv15, b15⟩
  obtain ⟨C15, j15, C16, j16, rfl, -, -⟩ := id hv15.opened
  replace hv15 := Lib.hid hv15
  replace b15 := Lib.hid b15
  clear HX
  clear z_y_0 z_y_1 z_y_2
  go_upto_region 10 with fail
  obtain ⟨w16, hw16⟩ : ∃ u, u = w15.alloc (.cells #[.bool (decide (t.num < 0)), .slice C15 (len t.num.natAbs) j15, .slice C16 (len (below t.den)) j16] 27) := ⟨_, rfl⟩
  have b16 : Hid (Below w15.heap.size w15 w16) := by rw [hw16]; exact (Below.refl _ _).alloc (Nat.le_refl _) _
  have L16 : Hid (w16.heap[w15.heap.size]? = some (.cells #[.bool (decide (t.num < 0)), .slice C15 (len t.num.natAbs) j15, .slice C16 (len (below t.den)) j16] 27 (0, 0))) := by rw [hw16]; exact heap_alloc_new w15 _
  rw [← hw16]
  clear hw16
  have hBp := Lib.hid (hv6.out.keep (Below.step (Below.step (Below.step (Below.step (Below.step (Below.step (Below.step (Below.step (Below.step b7.out b8.out) b9.out) b10.out) b11.out) b12.out) b13.out) b14.out) b15.out) b16.out))
  have hBq := Lib.hid (hv8.out.keep (Below.step (Below.step (Below.step (Below.step (Below.step (Below.step (Below.step b9.out b10.out) b11.out) b12.out) b13.out) b14.out) b15.out) b16.out))
  have hBr := Lib.hid (hv10.out.keep (Below.step (Below.step (Below.step (Below.step (Below.step b11.out b12.out) b13.out) b14.out) b15.out) b16.out))
  have hBs := Lib.hid (hv13.out.keep (Below.step (Below.step b14.out b15.out) b16.out))
  have hBt := Lib.hid (hv15.out.keep b16.out)
  have hTB := Lib.hid (tab_keep hT.out (Below.step (Below.step (Below.step (Below.step (Below.step (Below.step (Below.step (Below.step (Below.step (Below.step (Below.step (Below.step (Below.step (Below.step (Below.step b1.out b2.out) b3.out) b4.out) b5.out) b6.out) b7.out) b8.out) b9.out) b10.out) b11.out) b12.out) b13.out) b14.out) b15.out) b16.out))
  have hMB := Lib.hid (cell_keep hM.out (Below.step (Below.step (Below.step (Below.step (Below.step (Below.step (Below.step (Below.step (Below.step (Below.step (Below.step (Below.step (Below.step (Below.step (Below.step b1.out b2.out) b3.out) b4.out) b5.out) b6.out) b7.out) b8.out) b9.out) b10.out) b11.out) b12.out) b13.out) b14.out) b15.out) b16.out))
  have HB := Lib.hid (Below.step (Below.step (Below.step (Below.step (Below.step (Below.step (Below.step (Below.step (Below.step (Below.step (Below.step (Below.step (Below.step (Below.step (Below.step b1.out b2.out) b3.out) b4.out) b5.out) b6.out) b7.out) b8.out) b9.out) b10.out) b11.out) b12.out) b13.out) b14.out) b15.out) b16.out)
  obtain ⟨NN, hNN⟩ : ∃ n : Nat, w16.heap.size = n := ⟨_, rfl⟩
  have HSZ : Hid (w16.heap.size = NN) := hNN
  have hg : w16.heap[w6.heap.size]? = some (.cells #[.bool (decide (p.num < 0)), .slice C5 (len p.num.natAbs) j5, .slice C6 (len (below p.den)) j6] 27 (0, 0)) := ((Below.step (Below.step (Below.step (Below.step (Below.step (Below.step (Below.step (Below.step b8.out b9.out) b10.out) b11.out) b12.out) b13.out) b14.out) b15.out) b16.out).block _ (Array.getElem?_eq_some_iff.1 L7.out).1).trans L7.out
  have z_p_0 : w16.cell? ⟨w6.heap.size, 0, none⟩ = some (.bool (decide (p.num < 0))) := cell_of_row _ _ _ _ _ _ hg
  have z_p_1 : w16.cell? ⟨w6.heap.size, 1, none⟩ = some (.slice C5 (len p.num.natAbs) j5) := cell_of_row _ _ _ _ _ _ hg
  have z_p_2 : w16.cell? ⟨w6.heap.size, 2, none⟩ = some (.slice C6 (len (below p.den)) j6) := cell_of_row _ _ _ _ _ _ hg
  clear hg
  have hlt_p : w6.heap.size < NN := Nat.lt_of_lt_of_eq (World.block_lt_of_cell? _ _ z_p_0) hNN
  have hg : w16.heap[w8.heap.size]? = some (.cells #[.bool (decide (q.num < 0)), .slice C7 (len q.num.natAbs) j7, .slice C8 (len (below q.den)) j8] 27 (0, 0)) := ((Below.step (Below.step (Below.step (Below.step (Below.step (Below.step b10.out b11.out) b12.out) b13.out) b14.out) b15.out) b16.out).block _ (Array.getElem?_eq_some_iff.1 L9.out).1).trans L9.out
  have z_q_0 : w16.cell? ⟨w8.heap.size, 0, none⟩ = some (.bool (decide (q.num < 0))) := cell_of_row _ _ _ _ _ _ hg
  have z_q_1 : w16.cell? ⟨w8.heap.size, 1, none⟩ = some (.slice C7 (len q.num.natAbs) j7) := cell_of_row _ _ _ _ _ _ hg
  have z_q_2 : w16.cell? ⟨w8.heap.size, 2, none⟩ = some (.slice C8 (len (below q.den)) j8) := cell_of_row _ _ _ _ _ _ hg
  clear hg
  have hlt_q : w8.heap.size < NN := Nat.lt_of_lt_of_eq (World.block_lt_of_cell? _ _ z_q_0) hNN
  have hg : w16.heap[w10.heap.size]? = some (.cells #[.bool (decide (r.num < 0)), .slice C9 (len r.num.natAbs) j9, .slice C10 (len (below r.den)) j10] 27 (0, 0)) := ((Below.step (Below.step (Below.step (Below.step b12.out b13.out) b14.out) b15.out) b16.out).block _ (Array.getElem?_eq_some_iff.1 L11.out).1).trans L11.out
  have z_r_0 : w16.cell? ⟨w10.heap.size, 0, none⟩ = some (.bool (decide (r.num < 0))) := cell_of_row _ _ _ _ _ _ hg
  have z_r_1 : w16.cell? ⟨w10.heap.size, 1, none⟩ = some (.slice C9 (len r.num.natAbs) j9) := cell_of_row _ _ _ _ _ _ hg
  have z_r_2 : w16.cell? ⟨w10.heap.size, 2, none⟩ = some (.slice C10 (len (below r.den)) j10) := cell_of_row _ _ _ _ _ _ hg
  clear hg
  have hlt_r : w10.heap.size < NN := Nat.lt_of_lt_of_eq (World.block_lt_of_cell? _ _ z_r_0) hNN
  have hg : w16.heap[w13.heap.size]? = some (.cells #[.bool (decide (s.num < 0)), .slice C13 (len s.num.natAbs) j13, .slice C14 (len (below s.den)) j14] 27 (0, 0)) := ((Below.step b15.out b16.out).block _ (Array.getElem?_eq_some_iff.1 L14.out).1).trans L14.out
  have z_s_0 : w16.cell? ⟨w13.heap.size, 0, none⟩ = some (.bool (decide (s.num < 0))) := cell_of_row _ _ _ _ _ _ hg
  have z_s_1 : w16.cell? ⟨w13.heap.size, 1, none⟩ = some (.slice C13 (len s.num.natAbs) j13) := cell_of_row _ _ _ _ _ _ hg
  have z_s_2 : w16.cell? ⟨w13.heap.size, 2, none⟩ = some (.slice C14 (len (below s.den)) j14) := cell_of_row _ _ _ _ _ _ hg
  clear hg
  have hlt_s : w13.heap.size < NN := Nat.lt_of_lt_of_eq (World.block_lt_of_cell? _ _ z_s_0) hNN
  have hg : w16.heap[w15.heap.size]? = some (.cells #[.bool (decide (t.num < 0)), .slice C15 (len t.num.natAbs) j15, .slice C16 (len (below t.den)) j16] 27 (0, 0)) := ((Below.refl _ w16).block _ (Array.getElem?_eq_some_iff.1 L16.out).1).trans L16.out
  have z_t_0 : w16.cell? ⟨w15.heap.size, 0, none⟩ = some (.bool (decide (t.num < 0))) := cell_of_row _ _ _ _ _ _ hg
  have z_t_1 : w16.cell? ⟨w15.heap.size, 1, none⟩ = some (.slice C15 (len t.num.natAbs) j15) := cell_of_row _ _ _ _ _ _ hg
  have z_t_2 : w16.cell? ⟨w15.heap.size, 2, none⟩ = some (.slice C16 (len (below t.den)) j16) := cell_of_row _ _ _ _ _ _ hg
  clear hg
  have hlt_t : w15.heap.size < NN := Nat.lt_of_lt_of_eq (World.block_lt_of_cell? _ _ z_t_0) hNN
  clear hNN
  have H0 := Held0.start w16 (NN)
  have H0' := H0
  unfold Held0 at H0'
  clear hM hT b1 b2 b3 b4 b5 b6 b7 b8 b9 b10 b11 b12 b13 b14 b15 b16
  go_wp2_with fail
  go_region_held3 (fun w' => (∀ b o, b < NN → w'.cell? ⟨b, o, none⟩ = w16.cell? ⟨b, o, none⟩) ∧ Below (NN) w16 w' ∧ Stay w16 w')
    (first | with_reducible exact H0' | with_reducible exact hk1' | with_reducible exact hk2' | with_reducible exact hk3' | with_reducible exact hk4' | with_reducible exact hk5')
    (first | (go_at_call 11; refine (known_any (cell_keep hMB.out (below_eq hk4.2.1 HSZ.out)) (tab_keep hTB.out (below_eq hk4.2.1 HSZ.out))).mono ?_; rintro e w_5 ⟨rfl, hbl5⟩; have hk5 := Held0.call hk4 (Nat.le_of_eq HSZ.out.symm) hbl5; have hk5' := hk5; unfold Held0 at hk5'; clear hk4 hk4') | (go_at_call 13; refine (equal_to hv3 (hk3.2.2.num hBs.out) i2.out z_pt.out (tab_keep hTB.out (below_eq hk3.2.1 HSZ.out))).mono ?_; rintro e w_4 ⟨rfl, hbl4⟩; have hk4 := Held0.call hk3 (Nat.le_of_eq HSZ.out.symm) hbl4; have hk4' := hk4; unfold Held0 at hk4'; clear hk3 hk3'; clear hv3 hbl3 hbl4) | (go_at_call 15; refine (mul_val' e_pt.out (hk2.2.2.num hBp.out) (hk2.2.2.num hBt.out) z_p.out z_t.out).mono ?_; rintro e w_3 ⟨v3, rfl, hv3, hbl3⟩; obtain ⟨C5, j5, C6, j6, rfl, -, -⟩ := id hv3.opened; have hk3 := Held0.call hk2 (Nat.le_of_eq HSZ.out.symm) hbl3; have hk3' := hk3; unfold Held0 at hk3'; clear hk2 hk2') | (go_at_call 13; refine (equal_to hv1 (hk1.2.2.num hBr.out) i1.out z_pq.out (tab_keep hTB.out (below_eq hk1.2.1 HSZ.out))).mono ?_; rintro e w_2 ⟨rfl, hbl2⟩; have hk2 := Held0.call hk1 (Nat.le_of_eq HSZ.out.symm) hbl2; have hk2' := hk2; unfold Held0 at hk2'; clear hk1 hk1'; clear hv1 hbl1 hbl2) | (go_at_call 15; refine (mul_val' e_pq.out (H0.2.2.num hBp.out) (H0.2.2.num hBq.out) z_p.out z_q.out).mono ?_; rintro e w_1 ⟨v1, rfl, hv1, hbl1⟩; obtain ⟨C1, j1, C2, j2, rfl, -, -⟩ := id hv1.opened; have hk1 := Held0.call H0 (Nat.le_of_eq HSZ.out.symm) hbl1; have hk1' := hk1; unfold Held0 at hk1'))
  rename_i hHl
  clear hHl H0 H0'
  have HE := Lib.hid (Below.step HB.out (below_eq hk5.2.1 HSZ.out))
  go_wp2_with fail
  go_ret
  exact ⟨rfl, HE.out⟩

theorem powers_any {w : World} {sa sb : ByteArray} {mn nn : Nat} {mx : Int} (hmn : mn ≤ 255) (hnn : nn ≤ 255) (hM : w.cell? ⟨1, 0, none⟩ = some (.int .i64 mx)) (hT : TabAt 0 Lib.deBruijn64tab w) :
    Calls Tryz.prog 5 #[.agg #[.string sa, .string sb, .int .u8 (mn : Nat), .int .u8 (nn : Nat)]] w (BoolRet w true) := by
  rcases Decidable.em (30 < sa.size) with h | h
  · exact powers_long1 h hM hT
  · rcases Decidable.em (30 < sb.size) with h2 | h2
    · exact powers_long2 h h2 hM hT
    · exact powers_short h h2 hmn hnn hM hT
end Go.Proofs.YtkihlhmdiidenaaGreatDoor
