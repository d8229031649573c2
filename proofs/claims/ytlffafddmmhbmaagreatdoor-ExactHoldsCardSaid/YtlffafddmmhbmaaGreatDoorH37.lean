/-
  Contracts of the functions that the law calls, for every input (HoA).
-/
import Derived.Test.YtlffafddmmhbmaaGreatDoorH36
set_option linter.all false
namespace Go.Proofs.YtlffafddmmhbmaaGreatDoor
open Go.RowKit
open Vx
open Lib (hid)
open List renaming getElem?_toArray → lg, getElem?_cons_zero → lz, getElem?_cons_succ → ls, setIfInBounds_toArray → lt, set_cons_zero → ly, set_cons_succ → lu

set_option maxRecDepth 100000 in
set_option maxHeartbeats 40000000 in
theorem holds_wide {w : World} {s1 s2 s3 s4 s5 s6 : ByteArray} {m n p : Nat} {mx : Int} (hw : [s1, s2, s3, s4, s5, s6].any (fun s => decide (40 < s.size)) = true) (hM : w.cell? ⟨1, 0, none⟩ = some (.int .i64 mx)) (hT : TabAt 0 Lib.deBruijn64tab w) :
    Calls Tryz.prog 6 #[.agg #[.string s1, .string s2, .string s3, .string s4, .string s5, .string s6, .int .u8 (m : Nat), .int .u8 (n : Nat), .int .u8 (p : Nat)]] w (BoolRet w true) := by
  replace hM := hid hM
  replace hT := hid hT
  replace hw := hid hw
  obtain ⟨w1, hw1⟩ : ∃ u, u = w.alloc (.cells #[.string s1, .string s2, .string s3, .string s4, .string s5, .string s6, .int .u8 (m : Nat), .int .u8 (n : Nat), .int .u8 (p : Nat)] 50) := ⟨_, rfl⟩
  have b1 : Hid (Below w.heap.size w w1) := by rw [hw1]; exact (Below.refl _ _).alloc (Nat.le_refl _) _
  have L1 : Hid (w1.heap[w.heap.size]? = some (.cells #[.string s1, .string s2, .string s3, .string s4, .string s5, .string s6, .int .u8 (m : Nat), .int .u8 (n : Nat), .int .u8 (p : Nat)] 50 (0, 0))) := by rw [hw1]; exact heap_alloc_new w _
  have hg : w1.heap[w.heap.size]? = some (.cells #[.string s1, .string s2, .string s3, .string s4, .string s5, .string s6, .int .u8 (m : Nat), .int .u8 (n : Nat), .int .u8 (p : Nat)] 50 (0, 0)) := ((Below.refl _ w1).block _ (Array.getElem?_eq_some_iff.1 L1.out).1).trans L1.out
  have z_pair_0 : w1.cell? ⟨w.heap.size, 0, none⟩ = some (.string s1) := cell_of_row _ _ _ _ _ _ hg
  have z_pair_1 : w1.cell? ⟨w.heap.size, 1, none⟩ = some (.string s2) := cell_of_row _ _ _ _ _ _ hg
  have z_pair_2 : w1.cell? ⟨w.heap.size, 2, none⟩ = some (.string s3) := cell_of_row _ _ _ _ _ _ hg
  have z_pair_3 : w1.cell? ⟨w.heap.size, 3, none⟩ = some (.string s4) := cell_of_row _ _ _ _ _ _ hg
  have z_pair_4 : w1.cell? ⟨w.heap.size, 4, none⟩ = some (.string s5) := cell_of_row _ _ _ _ _ _ hg
  have z_pair_5 : w1.cell? ⟨w.heap.size, 5, none⟩ = some (.string s6) := cell_of_row _ _ _ _ _ _ hg
  have z_pair_6 : w1.cell? ⟨w.heap.size, 6, none⟩ = some (.int .u8 (m : Nat)) := cell_of_row _ _ _ _ _ _ hg
  have z_pair_7 : w1.cell? ⟨w.heap.size, 7, none⟩ = some (.int .u8 (n : Nat)) := cell_of_row _ _ _ _ _ _ hg
  have z_pair_8 : w1.cell? ⟨w.heap.size, 8, none⟩ = some (.int .u8 (p : Nat)) := cell_of_row _ _ _ _ _ _ hg
  clear hg
  go_enter Tryz.func6, Tryz.ntmps6
  go_upto_region 1 with fail
  rw [← hw1]
  clear hw1
  have HX := hid (wide_val (w := w1) (m := m) (n := n) (p := p) hw.out)
  go_wp2_with fail
  refine (HX.out).mono ?_
  rintro e w2 ⟨rfl, b2⟩
  replace b2 := hid b2
  clear HX
  clear z_pair_0 z_pair_1 z_pair_2 z_pair_3 z_pair_4 z_pair_5 z_pair_6 z_pair_7 z_pair_8
  have HX := hid (known_any (cell_keep hM.out (Below.step b1.out b2.out)) (tab_keep hT.out (Below.step b1.out b2.out)))
  go_wp2_with fail
  refine (HX.out).mono ?_
  rintro e w3 ⟨rfl, b3⟩
  replace b3 := hid b3
  clear HX
  have HE := hid (Below.step (Below.step b1.out b2.out) b3.out)
  go_wp2_with fail
  go_ret
  exact ⟨rfl, HE.out⟩

set_option maxRecDepth 100000 in
set_option maxHeartbeats 40000000 in
theorem holds_main {w : World} {s1 s2 s3 s4 s5 s6 : ByteArray} {m n p : Nat} {mx : Int} {p1 p2 p3 p4 a b c d : Rat} (ep1 : (parseV s1).1 = p1) (ep2 : (parseV s2).1 = p2) (ep3 : (parseV s3).1 = p3) (ep4 : (parseV s4).1 = p4) (l1 : a = if p2 < p1 then p2 else p1) (h1 : b = if p2 < p1 then p1 else p2) (l2 : c = if p4 < p3 then p4 else p3) (h2 : d = if p4 < p3 then p3 else p4) (hw : [s1, s2, s3, s4, s5, s6].any (fun s => decide (40 < s.size)) = false) (hm : m ≤ 255) (hn : n ≤ 255) (hp : p ≤ 255) (hM : w.cell? ⟨1, 0, none⟩ = some (.int .i64 mx)) (hT : TabAt 0 Lib.deBruijn64tab w) :
    Calls Tryz.prog 6 #[.agg #[.string s1, .string s2, .string s3, .string s4, .string s5, .string s6, .int .u8 (m : Nat), .int .u8 (n : Nat), .int .u8 (p : Nat)]] w (BoolRet w true) := by
  obtain ⟨zz_a, zz_b, hab⟩ := siz_box ep1 ep2 l1 h1
  obtain ⟨zz_c, zz_d, hcd⟩ := siz_box ep3 ep4 l2 h2
  obtain ⟨nn, hnn⟩ : ∃ k : Nat, k = p % 7 := ⟨_, rfl⟩
  have hn6 : nn ≤ 6 := by omega
  have hmi : Int.tmod ((p : Nat) : Int) 7 = ((nn : Nat) : Int) := by rw [hnn, Int.tmod_eq_emod_of_nonneg (by omega)]; omega
  have hmi2 : ((p : Nat) : Int) % 7 = ((nn : Nat) : Int) := by omega
  have hw64 := i64_small (show nn ≤ 255 by omega)
  have hn6i : ((nn : Nat) : Int) ≤ 6 := by omega
  have hp255 : ((p : Nat) : Int) ≤ 255 := by omega
  obtain ⟨x, e_x⟩ : ∃ z : Rat, a + (b - a) * mkRat ((m : Nat) : Int) 255 = z := ⟨_, rfl⟩
  obtain ⟨y, e_y⟩ : ∃ z : Rat, c + (d - c) * mkRat ((n : Nat) : Int) 255 = z := ⟨_, rfl⟩
  have hx := place_between (p := m) hm hab
  rw [e_x] at hx
  have hy := place_between (p := n) hn hcd
  rw [e_y] at hy
  have zz_x := siz_at hm e_x zz_a zz_b
  have zz_y := siz_at hn e_y zz_c zz_d
  obtain ⟨i1, i2, i3, i4, i5, i6, i7, i8, i9⟩ := ho_facts hab hx.1 hx.2 hy.1 hy.2
  have iA := pow_in (n := nn) hab hx.1 hx.2
  obtain ⟨iL, iH⟩ := pow_ends (n := nn) hab
  obtain ⟨P1, e_P1⟩ : ∃ z : Rat, (if nn % 2 = 0 then absLo a b else a) ^ nn = z := ⟨_, rfl⟩
  obtain ⟨P2, e_P2⟩ : ∃ z : Rat, (if nn % 2 = 0 then absHi a b else b) ^ nn = z := ⟨_, rfl⟩
  obtain ⟨xn, e_xn⟩ : ∃ z : Rat, x ^ nn = z := ⟨_, rfl⟩
  obtain ⟨ac, e_ac⟩ : ∃ z : Rat, a + c = z := ⟨_, rfl⟩
  obtain ⟨bd, e_bd⟩ : ∃ z : Rat, b + d = z := ⟨_, rfl⟩
  obtain ⟨sxy, e_sxy⟩ : ∃ z : Rat, x + y = z := ⟨_, rfl⟩
  obtain ⟨ad, e_ad⟩ : ∃ z : Rat, a - d = z := ⟨_, rfl⟩
  obtain ⟨bc, e_bc⟩ : ∃ z : Rat, b - c = z := ⟨_, rfl⟩
  obtain ⟨dxy, e_dxy⟩ : ∃ z : Rat, x - y = z := ⟨_, rfl⟩
  obtain ⟨m1, e_m1⟩ : ∃ z : Rat, leastOf (a * c) [a * d, b * c, b * d] = z := ⟨_, rfl⟩
  obtain ⟨m2, e_m2⟩ : ∃ z : Rat, greatestOf (a * c) [a * d, b * c, b * d] = z := ⟨_, rfl⟩
  obtain ⟨mxy, e_mxy⟩ : ∃ z : Rat, x * y = z := ⟨_, rfl⟩
  obtain ⟨nb, e_nb⟩ : ∃ z : Rat, -b = z := ⟨_, rfl⟩
  obtain ⟨na, e_na⟩ : ∃ z : Rat, -a = z := ⟨_, rfl⟩
  obtain ⟨nx, e_nx⟩ : ∃ z : Rat, -x = z := ⟨_, rfl⟩
  obtain ⟨v1, e_v1⟩ : ∃ z : Rat, absLo a b = z := ⟨_, rfl⟩
  obtain ⟨v2, e_v2⟩ : ∃ z : Rat, absHi a b = z := ⟨_, rfl⟩
  obtain ⟨ax, e_ax⟩ : ∃ z : Rat, x.abs = z := ⟨_, rfl⟩
  obtain ⟨u1, e_u1⟩ : ∃ z : Rat, leastOf a [b, c, d] = z := ⟨_, rfl⟩
  obtain ⟨u2, e_u2⟩ : ∃ z : Rat, greatestOf a [b, c, d] = z := ⟨_, rfl⟩
  rw [e_ac, e_bd, e_sxy] at i3
  rw [e_ad, e_bc, e_dxy] at i4
  rw [e_m1, e_m2, e_mxy] at i5
  rw [e_nb, e_na, e_nx] at i6
  rw [e_v1, e_v2, e_ax] at i7
  rw [e_u1, e_u2] at i8 i9
  rw [e_P1, e_P2, e_xn] at iA
  rw [e_P1] at iL
  rw [e_P2] at iH
  replace iA : decide (P1 ≤ xn ∧ xn ≤ P2) = true := decide_eq_true iA
  have zz_P1 : siz P1 ≤ 200000 := siz_power6 e_P1 hn6 (by split; exact siz_absLo (by omega) (Nat.le_trans zz_a (by omega)) (Nat.le_trans zz_b (by omega)); exact Nat.le_trans zz_a (by omega))
  have zz_P2 : siz P2 ≤ 200000 := siz_power6 e_P2 hn6 (by split; exact siz_absHi (by omega) (Nat.le_trans zz_a (by omega)) (Nat.le_trans zz_b (by omega)); exact Nat.le_trans zz_b (by omega))
  have zz_xn : siz xn ≤ 200000 := siz_power6 e_xn hn6 zz_x
  have z_a : Hid (siz a ≤ 536870912) := by show _ ≤ _; exact Nat.le_trans zz_a (by omega)
  have z_b : Hid (siz b ≤ 536870912) := by show _ ≤ _; exact Nat.le_trans zz_b (by omega)
  have z_c : Hid (siz c ≤ 536870912) := by show _ ≤ _; exact Nat.le_trans zz_c (by omega)
  have z_d : Hid (siz d ≤ 536870912) := by show _ ≤ _; exact Nat.le_trans zz_d (by omega)
  have z_x : Hid (siz x ≤ 536870912) := by show _ ≤ _; exact Nat.le_trans zz_x (by omega)
  have z_y : Hid (siz y ≤ 536870912) := by show _ ≤ _; exact Nat.le_trans zz_y (by omega)
  have z_P1 : Hid (siz P1 ≤ 536870912) := by show _ ≤ _; exact Nat.le_trans zz_P1 (by omega)
  have z_P2 : Hid (siz P2 ≤ 536870912) := by show _ ≤ _; exact Nat.le_trans zz_P2 (by omega)
  have z_xn : Hid (siz xn ≤ 536870912) := by show _ ≤ _; exact Nat.le_trans zz_xn (by omega)
  have z_ac : Hid (siz ac ≤ 536870912) := by show _ ≤ _; rw [← e_ac]; have i1 := siz_add a c; omega
  have z_bd : Hid (siz bd ≤ 536870912) := by show _ ≤ _; rw [← e_bd]; have i1 := siz_add b d; omega
  have z_sxy : Hid (siz sxy ≤ 536870912) := by show _ ≤ _; rw [← e_sxy]; have i1 := siz_add x y; omega
  have z_ad : Hid (siz ad ≤ 536870912) := by show _ ≤ _; rw [← e_ad]; have i1 := siz_sub a d; omega
  have z_bc : Hid (siz bc ≤ 536870912) := by show _ ≤ _; rw [← e_bc]; have i1 := siz_sub b c; omega
  have z_dxy : Hid (siz dxy ≤ 536870912) := by show _ ≤ _; rw [← e_dxy]; have i1 := siz_sub x y; omega
  have z_mxy : Hid (siz mxy ≤ 536870912) := by show _ ≤ _; rw [← e_mxy]; have i1 := siz_mul x y; omega
  have z_m1 : Hid (siz m1 ≤ 536870912) := by show _ ≤ _; exact siz_l4 e_m1 (Nat.le_trans (siz_mul a c) (by omega)) (Nat.le_trans (siz_mul a d) (by omega)) (Nat.le_trans (siz_mul b c) (by omega)) (Nat.le_trans (siz_mul b d) (by omega))
  have z_m2 : Hid (siz m2 ≤ 536870912) := by show _ ≤ _; exact siz_g4 e_m2 (Nat.le_trans (siz_mul a c) (by omega)) (Nat.le_trans (siz_mul a d) (by omega)) (Nat.le_trans (siz_mul b c) (by omega)) (Nat.le_trans (siz_mul b d) (by omega))
  have z_nb : Hid (siz nb ≤ 536870912) := by show _ ≤ _; rw [← e_nb, siz_neg]; omega
  have z_na : Hid (siz na ≤ 536870912) := by show _ ≤ _; rw [← e_na, siz_neg]; omega
  have z_nx : Hid (siz nx ≤ 536870912) := by show _ ≤ _; rw [← e_nx, siz_neg]; omega
  have z_v1 : Hid (siz v1 ≤ 536870912) := by show _ ≤ _; rw [← e_v1]; exact siz_absLo (by omega) (Nat.le_trans zz_a (by omega)) (Nat.le_trans zz_b (by omega))
  have z_v2 : Hid (siz v2 ≤ 536870912) := by show _ ≤ _; rw [← e_v2]; exact siz_absHi (by omega) (Nat.le_trans zz_a (by omega)) (Nat.le_trans zz_b (by omega))
  have z_ax : Hid (siz ax ≤ 536870912) := by show _ ≤ _; rw [← e_ax, siz_abs]; omega
  have z_u1 : Hid (siz u1 ≤ 536870912) := by show _ ≤ _; exact siz_l4 e_u1 (Nat.le_trans zz_a (by omega)) (Nat.le_trans zz_b (by omega)) (Nat.le_trans zz_c (by omega)) (Nat.le_trans zz_d (by omega))
  have z_u2 : Hid (siz u2 ≤ 536870912) := by show _ ≤ _; exact siz_g4 e_u2 (Nat.le_trans zz_a (by omega)) (Nat.le_trans zz_b (by omega)) (Nat.le_trans zz_c (by omega)) (Nat.le_trans zz_d (by omega))
  replace ep1 := hid ep1
  replace ep2 := hid ep2
  replace ep3 := hid ep3
  replace ep4 := hid ep4
  replace l1 := hid l1
  replace h1 := hid h1
  replace l2 := hid l2
  replace h2 := hid h2
  replace i1 := hid i1
  replace i2 := hid i2
  replace i3 := hid i3
  replace i4 := hid i4
  replace i5 := hid i5
  replace i6 := hid i6
  replace i7 := hid i7
  replace i8 := hid i8
  replace i9 := hid i9
  replace iA := hid iA
  replace iL := hid iL
  replace iH := hid iH
  replace hab := hid hab
  replace hcd := hid hcd
  replace hx := hid hx
  replace hy := hid hy
  replace hnn := hid hnn
  replace zz_a := hid zz_a
  replace zz_b := hid zz_b
  replace zz_c := hid zz_c
  replace zz_d := hid zz_d
  replace zz_x := hid zz_x
  replace zz_y := hid zz_y
  replace zz_P1 := hid zz_P1
  replace zz_P2 := hid zz_P2
  replace zz_xn := hid zz_xn
  replace e_x := hid e_x
  replace e_y := hid e_y
  replace e_P1 := hid e_P1
  replace e_P2 := hid e_P2
  replace e_xn := hid e_xn
  replace e_ac := hid e_ac
  replace e_bd := hid e_bd
  replace e_sxy := hid e_sxy
  replace e_ad := hid e_ad
  replace e_bc := hid e_bc
  replace e_dxy := hid e_dxy
  replace e_m1 := hid e_m1
  replace e_m2 := hid e_m2
  replace e_mxy := hid e_mxy
  replace e_nb := hid e_nb
  replace e_na := hid e_na
  replace e_nx := hid e_nx
  replace e_v1 := hid e_v1
  replace e_v2 := hid e_v2
  replace e_ax := hid e_ax
  replace e_u1 := hid e_u1
  replace e_u2 := hid e_u2
  replace hM := hid hM
  replace hT := hid hT
  replace hw := hid hw
  obtain ⟨w1, hw1⟩ : ∃ u, u = w.alloc (.cells #[.string s1, .string s2, .string s3, .string s4, .string s5, .string s6, .int .u8 (m : Nat), .int .u8 (n : Nat), .int .u8 (p : Nat)] 50) := ⟨_, rfl⟩
  have b1 : Hid (Below w.heap.size w w1) := by rw [hw1]; exact (Below.refl _ _).alloc (Nat.le_refl _) _
  have L1 : Hid (w1.heap[w.heap.size]? = some (.cells #[.string s1, .string s2, .string s3, .string s4, .string s5, .string s6, .int .u8 (m : Nat), .int .u8 (n : Nat), .int .u8 (p : Nat)] 50 (0, 0))) := by rw [hw1]; exact heap_alloc_new w _
  have hg : w1.heap[w.heap.size]? = some (.cells #[.string s1, .string s2, .string s3, .string s4, .string s5, .string s6, .int .u8 (m : Nat), .int .u8 (n : Nat), .int .u8 (p : Nat)] 50 (0, 0)) := ((Below.refl _ w1).block _ (Array.getElem?_eq_some_iff.1 L1.out).1).trans L1.out
  have z_pair_0 : w1.cell? ⟨w.heap.size, 0, none⟩ = some (.string s1) := cell_of_row _ _ _ _ _ _ hg
  have z_pair_1 : w1.cell? ⟨w.heap.size, 1, none⟩ = some (.string s2) := cell_of_row _ _ _ _ _ _ hg
  have z_pair_2 : w1.cell? ⟨w.heap.size, 2, none⟩ = some (.string s3) := cell_of_row _ _ _ _ _ _ hg
  have z_pair_3 : w1.cell? ⟨w.heap.size, 3, none⟩ = some (.string s4) := cell_of_row _ _ _ _ _ _ hg
  have z_pair_4 : w1.cell? ⟨w.heap.size, 4, none⟩ = some (.string s5) := cell_of_row _ _ _ _ _ _ hg
  have z_pair_5 : w1.cell? ⟨w.heap.size, 5, none⟩ = some (.string s6) := cell_of_row _ _ _ _ _ _ hg
  have z_pair_6 : w1.cell? ⟨w.heap.size, 6, none⟩ = some (.int .u8 (m : Nat)) := cell_of_row _ _ _ _ _ _ hg
  have z_pair_7 : w1.cell? ⟨w.heap.size, 7, none⟩ = some (.int .u8 (n : Nat)) := cell_of_row _ _ _ _ _ _ hg
  have z_pair_8 : w1.cell? ⟨w.heap.size, 8, none⟩ = some (.int .u8 (p : Nat)) := cell_of_row _ _ _ _ _ _ hg
  clear hg
  go_enter Tryz.func6, Tryz.ntmps6
  go_upto_region 1 with fail
  rw [← hw1]
  clear hw1
  have HX := hid (wide_val (w := w1) (m := m) (n := n) (p := p) hw.out)
  go_wp2_with fail
  refine (HX.out).mono ?_
  rintro e w2 ⟨rfl, b2⟩
  replace b2 := hid b2
  clear HX
  clear z_pair_0 z_pair_1 z_pair_2 z_pair_3 z_pair_4 z_pair_5 z_pair_6 z_pair_7 z_pair_8
  have LRpair2 : Hid (w2.heap[w.heap.size]? = some (.cells #[.string s1, .string s2, .string s3, .string s4, .string s5, .string s6, .int .u8 (m : Nat), .int .u8 (n : Nat), .int .u8 (p : Nat)] 50 (0, 0))) := (b2.out.block _ (Array.getElem?_eq_some_iff.1 L1.out).1).trans L1.out
  have HMB2 := hid (cell_keep hM.out (Below.step b1.out b2.out))
  have HTB2 := hid (tab_keep hT.out (Below.step b1.out b2.out))
  have HBB2 := hid (Below.step b1.out b2.out)
  clear L1 hM hT b1 b2
  go_wp2_with fail
  obtain ⟨NN3, hNN⟩ : ∃ n : Nat, w2.heap.size = n := ⟨_, rfl⟩
  have HSZ3 : Hid (w2.heap.size = NN3) := hNN
  have hg : w2.heap[w.heap.size]? = some (.cells #[.string s1, .string s2, .string s3, .string s4, .string s5, .string s6, .int .u8 (m : Nat), .int .u8 (n : Nat), .int .u8 (p : Nat)] 50 (0, 0)) := ((Below.refl _ w2).block _ (Array.getElem?_eq_some_iff.1 LRpair2.out).1).trans LRpair2.out
  have z_pair_0 : w2.cell? ⟨w.heap.size, 0, none⟩ = some (.string s1) := cell_of_row _ _ _ _ _ _ hg
  have z_pair_1 : w2.cell? ⟨w.heap.size, 1, none⟩ = some (.string s2) := cell_of_row _ _ _ _ _ _ hg
  have z_pair_2 : w2.cell? ⟨w.heap.size, 2, none⟩ = some (.string s3) := cell_of_row _ _ _ _ _ _ hg
  have z_pair_3 : w2.cell? ⟨w.heap.size, 3, none⟩ = some (.string s4) := cell_of_row _ _ _ _ _ _ hg
  have z_pair_4 : w2.cell? ⟨w.heap.size, 4, none⟩ = some (.string s5) := cell_of_row _ _ _ _ _ _ hg
  have z_pair_5 : w2.cell? ⟨w.heap.size, 5, none⟩ = some (.string s6) := cell_of_row _ _ _ _ _ _ hg
  have z_pair_6 : w2.cell? ⟨w.heap.size, 6, none⟩ = some (.int .u8 (m : Nat)) := cell_of_row _ _ _ _ _ _ hg
  have z_pair_7 : w2.cell? ⟨w.heap.size, 7, none⟩ = some (.int .u8 (n : Nat)) := cell_of_row _ _ _ _ _ _ hg
  have z_pair_8 : w2.cell? ⟨w.heap.size, 8, none⟩ = some (.int .u8 (p : Nat)) := cell_of_row _ _ _ _ _ _ hg
  clear hg
  have hlt3_pair : w.heap.size < NN3 := Nat.lt_of_lt_of_eq (World.block_lt_of_cell? _ _ z_pair_0) hNN
  have H0 := Held0.start w2 NN3
  refine wp_region_held_drew (S := (fun w' => (∀ b o, b < NN3 → w'.cell? ⟨b, o, none⟩ = w2.cell? ⟨b, o, none⟩))) (by kernel_rfl) ?_ (fun hHeld => ?_)
  · (try dsimp only)
    exact H0.1
  obtain ⟨wd3, hwd⟩ : ∃ u, u = w2.drew := ⟨_, rfl⟩
  rw [← hwd] at hHeld H0 ⊢
  clear hwd hNN
  refine tk (i := 0) (h := ?_)
  try simp only [Act.put, lt, ly, lu]
  refine tk (i := 1) (h := ?_)
  try simp only [Act.put, lt, ly, lu]
  refine tk (i := 3) (h := ?_)
  try simp only [Act.put, lt, ly, lu]
  refine tk (i := 4) (h := ?_)
  try simp only [Act.put, lt, ly, lu]
  refine tk (i := 6) (h := ?_)
  try simp only [Act.put, lt, ly, lu]
  refine tk (i := 7) (h := ?_)
  try simp only [Act.put, lt, ly, lu]
  refine tk (i := 8) (h := ?_)
  try simp only [Act.put, lt, ly, lu]
  refine tk (i := 9) (h := ?_)
  try simp only [Act.put, lt, ly, lu]
  generalize hF3 : wpAnyH _ _ _ _ _ = F3
  replace hF3 := hid hF3
  refine letters ?_
  intro A3 hA3
  replace hA3 := hid hA3
  have H0h := hid H0
  clear H0 hHeld
  have st3_2_34 : ∀ (L : Array Bool) (u : World) (v25 v28 : Value) (n3 n4 : Nat), L = #[true, true, true, true, true, true, true, true, true, true, true, true, false, false, false] → Hid (Held0 w2 NN3 w2 u) → Hid (IsBox u v25 a b) → Hid (IsBox u v28 c d) → Hid (Zero6 u n3) → NN3 ≤ n3 → Hid (Zero6 u n4) → NN3 ≤ n4 → n3 ≠ n4 → F3 3 L (Act.put (Act.put (Act.put (Act.put A3 (some 3) (.pointer (some ⟨n3, 0, none⟩))) (some 4) (.pointer (some ⟨n4, 0, none⟩))) (some 25) v25) (some 28) v28) u := by
   intro L u v25 v28 n3 n4 hLL HK I25 I28 Z3 g3 Z4 g4 ne3_4
   subst hLL
   rw [← hF3.out, ← hA3.out]
   try simp only [Act.put, lt, ly, lu]
   clear H0h z_pair_0 z_pair_1 z_pair_2 z_pair_3 z_pair_4 z_pair_5 z_pair_6 z_pair_7 z_pair_8 hlt3_pair
   obtain ⟨B3x0, b3x0, B3x1, b3x1, B3x2, b3x2, B3x3, b3x3, rfl, -, -⟩ := id I25.out.opened
   obtain ⟨B4x0, b4x0, B4x1, b4x1, B4x2, b4x2, B4x3, b4x3, rfl, -, -⟩ := id I28.out.opened
   refine wpAnyH_ready (rs := [12]) (by kernel_rfl) (by simp) ?_
   refine AllReadyH.cons (o := ?oq129) ?eq129 ?kq129 AllReadyH.nil
   case eq129 => simp only [lg, lz, ls]; rfl
   intro K hK
   have q0 : u.cell? ⟨n3, 0, none⟩ = some (.bool false) := cell_of_row _ _ _ _ _ _ Z3.out
   have F0 : u.frozen? ⟨n3, 0, none⟩ = false := frozen_of_row u n3 0 _ _ Z3.out
   have q1 : u.cell? ⟨n3, 1, none⟩ = some (.slice none 0 0) := cell_of_row _ _ _ _ _ _ Z3.out
   have F1 : u.frozen? ⟨n3, 1, none⟩ = false := frozen_of_row u n3 1 _ _ Z3.out
   have q2 : u.cell? ⟨n3, 2, none⟩ = some (.slice none 0 0) := cell_of_row _ _ _ _ _ _ Z3.out
   have F2 : u.frozen? ⟨n3, 2, none⟩ = false := frozen_of_row u n3 2 _ _ Z3.out
   have q3 : u.cell? ⟨n3, 3, none⟩ = some (.bool false) := cell_of_row _ _ _ _ _ _ Z3.out
   have F3 : u.frozen? ⟨n3, 3, none⟩ = false := frozen_of_row u n3 3 _ _ Z3.out
   have q4 : u.cell? ⟨n3, 4, none⟩ = some (.slice none 0 0) := cell_of_row _ _ _ _ _ _ Z3.out
   have F4 : u.frozen? ⟨n3, 4, none⟩ = false := frozen_of_row u n3 4 _ _ Z3.out
   have q5 : u.cell? ⟨n3, 5, none⟩ = some (.slice none 0 0) := cell_of_row _ _ _ _ _ _ Z3.out
   have F5 : u.frozen? ⟨n3, 5, none⟩ = false := frozen_of_row u n3 5 _ _ Z3.out
   go_simp
   clear q0 F0 q1 F1 q2 F2 q3 F3 q4 F4 q5 F5
   obtain ⟨us3_3, hw⟩ : ∃ z, z = ((((((u.setCell ⟨n3, 0, none⟩ (.bool (decide (a.num < 0)))).setCell ⟨n3, 1, none⟩ (.slice B3x0 (len a.num.natAbs) b3x0)).setCell ⟨n3, 2, none⟩ (.slice B3x1 (len (below a.den)) b3x1)).setCell ⟨n3, 3, none⟩ (.bool (decide (b.num < 0)))).setCell ⟨n3, 4, none⟩ (.slice B3x2 (len b.num.natAbs) b3x2)).setCell ⟨n3, 5, none⟩ (.slice B3x3 (len (below b.den)) b3x3)) := ⟨_, rfl⟩
   obtain ⟨HK3, ZZ3, II3, OT, OB, ON⟩ := put6_all hw HK.out Z3.out g3 I25.out
   rw [← hw]
   clear hw
   replace HK3 := hid HK3
   replace ZZ3 := hid ZZ3
   replace II3 := hid II3
   have ZZ4_3 := hid (OT _ _ (Ne.symm ne3_4) Z4.out)
   have II4_3 := hid (OB _ _ _ I28.out)
   refine hK.out _ _ ?_ (fun hHeld => ?_)
   · (try dsimp only)
     exact HK3.out.1
   clear hK K hHeld OT OB ON HK Z3 I25 Z4 I28
   try simp only [Act.put, lt, ly, lu]
   refine wpAnyH_ready (rs := [13]) (by kernel_rfl) (by simp) ?_
   refine AllReadyH.cons (o := ?oq130) ?eq130 ?kq130 AllReadyH.nil
   case eq130 => simp only [lg, lz, ls]; rfl
   intro K hK
   have q0 : us3_3.cell? ⟨n4, 0, none⟩ = some (.bool false) := cell_of_row _ _ _ _ _ _ ZZ4_3.out
   have F0 : us3_3.frozen? ⟨n4, 0, none⟩ = false := frozen_of_row us3_3 n4 0 _ _ ZZ4_3.out
   have q1 : us3_3.cell? ⟨n4, 1, none⟩ = some (.slice none 0 0) := cell_of_row _ _ _ _ _ _ ZZ4_3.out
   have F1 : us3_3.frozen? ⟨n4, 1, none⟩ = false := frozen_of_row us3_3 n4 1 _ _ ZZ4_3.out
   have q2 : us3_3.cell? ⟨n4, 2, none⟩ = some (.slice none 0 0) := cell_of_row _ _ _ _ _ _ ZZ4_3.out
   have F2 : us3_3.frozen? ⟨n4, 2, none⟩ = false := frozen_of_row us3_3 n4 2 _ _ ZZ4_3.out
   have q3 : us3_3.cell? ⟨n4, 3, none⟩ = some (.bool false) := cell_of_row _ _ _ _ _ _ ZZ4_3.out
   have F3 : us3_3.frozen? ⟨n4, 3, none⟩ = false := frozen_of_row us3_3 n4 3 _ _ ZZ4_3.out
   have q4 : us3_3.cell? ⟨n4, 4, none⟩ = some (.slice none 0 0) := cell_of_row _ _ _ _ _ _ ZZ4_3.out
   have F4 : us3_3.frozen? ⟨n4, 4, none⟩ = false := frozen_of_row us3_3 n4 4 _ _ ZZ4_3.out
   have q5 : us3_3.cell? ⟨n4, 5, none⟩ = some (.slice none 0 0) := cell_of_row _ _ _ _ _ _ ZZ4_3.out
   have F5 : us3_3.frozen? ⟨n4, 5, none⟩ = false := frozen_of_row us3_3 n4 5 _ _ ZZ4_3.out
   go_simp
   clear q0 F0 q1 F1 q2 F2 q3 F3 q4 F4 q5 F5
   obtain ⟨us3_4, hw⟩ : ∃ z, z = ((((((us3_3.setCell ⟨n4, 0, none⟩ (.bool (decide (c.num < 0)))).setCell ⟨n4, 1, none⟩ (.slice B4x0 (len c.num.natAbs) b4x0)).setCell ⟨n4, 2, none⟩ (.slice B4x1 (len (below c.den)) b4x1)).setCell ⟨n4, 3, none⟩ (.bool (decide (d.num < 0)))).setCell ⟨n4, 4, none⟩ (.slice B4x2 (len d.num.natAbs) b4x2)).setCell ⟨n4, 5, none⟩ (.slice B4x3 (len (below d.den)) b4x3)) := ⟨_, rfl⟩
   obtain ⟨HK4, ZZ4, II4, OT, OB, ON⟩ := put6_all hw HK3.out ZZ4_3.out g4 II4_3.out
   rw [← hw]
   clear hw
   replace HK4 := hid HK4
   replace ZZ4 := hid ZZ4
   replace II4 := hid II4
   have ZZ3_4 := hid (OT _ _ ne3_4 ZZ3.out)
   have II3_4 := hid (OB _ _ _ II3.out)
   refine hK.out _ _ ?_ (fun hHeld => ?_)
   · (try dsimp only)
     exact HK4.out.1
   clear hK K hHeld OT OB ON HK3 ZZ4_3 II4_3 ZZ3 II3
   try simp only [Act.put, lt, ly, lu]
   refine wpAnyH_ready (rs := [14]) (by kernel_rfl) (by simp) (AllReadyH.cons (o := ?oq131) ?eq131 ?kq131 AllReadyH.nil)
   case eq131 => simp only [lg, lz, ls]; rfl
   intro K hK
   go_simp
   refine hK.out _ _ ?_ (fun hHeld => ?_)
   · (try dsimp only)
     exact HK4.out.1
   clear hK K hHeld
   try simp only [Act.put, lt, ly, lu]
   refine wpAnyH_done (by kernel_rfl) ?_ _
   obtain ⟨w3, hwq⟩ : ∃ z, z = us3_4 := ⟨_, rfl⟩
   rw [← hwq] at HK4 ZZ3_4 ZZ4 II3_4 II4 ⊢
   clear hwq hF3 hA3
   have b3 : Hid (Below w2.heap.size w2 w3) := below_eq HK4.out.2.1 HSZ3.out
   clear HK4 HSZ3
   have LRpair3 : Hid (w3.heap[w.heap.size]? = some (.cells #[.string s1, .string s2, .string s3, .string s4, .string s5, .string s6, .int .u8 (m : Nat), .int .u8 (n : Nat), .int .u8 (p : Nat)] 50 (0, 0))) := (b3.out.block _ (Array.getElem?_eq_some_iff.1 LRpair2.out).1).trans LRpair2.out
   have HMB3 := hid (cell_keep HMB2.out b3.out)
   have HTB3 := hid (tab_keep HTB2.out b3.out)
   have HBB3 := hid (Below.step HBB2.out b3.out)
   clear LRpair2 HMB2 HTB2 HBB2 b3
   go_wp2_with fail
   obtain ⟨NN4, hNN⟩ : ∃ n : Nat, w3.heap.size = n := ⟨_, rfl⟩
   have HSZ4 : Hid (w3.heap.size = NN4) := hNN
   have hg : w3.heap[w.heap.size]? = some (.cells #[.string s1, .string s2, .string s3, .string s4, .string s5, .string s6, .int .u8 (m : Nat), .int .u8 (n : Nat), .int .u8 (p : Nat)] 50 (0, 0)) := ((Below.refl _ w3).block _ (Array.getElem?_eq_some_iff.1 LRpair3.out).1).trans LRpair3.out
   have z_pair_0 : w3.cell? ⟨w.heap.size, 0, none⟩ = some (.string s1) := cell_of_row _ _ _ _ _ _ hg
   have z_pair_1 : w3.cell? ⟨w.heap.size, 1, none⟩ = some (.string s2) := cell_of_row _ _ _ _ _ _ hg
   have z_pair_2 : w3.cell? ⟨w.heap.size, 2, none⟩ = some (.string s3) := cell_of_row _ _ _ _ _ _ hg
   have z_pair_3 : w3.cell? ⟨w.heap.size, 3, none⟩ = some (.string s4) := cell_of_row _ _ _ _ _ _ hg
   have z_pair_4 : w3.cell? ⟨w.heap.size, 4, none⟩ = some (.string s5) := cell_of_row _ _ _ _ _ _ hg
   have z_pair_5 : w3.cell? ⟨w.heap.size, 5, none⟩ = some (.string s6) := cell_of_row _ _ _ _ _ _ hg
   have z_pair_6 : w3.cell? ⟨w.heap.size, 6, none⟩ = some (.int .u8 (m : Nat)) := cell_of_row _ _ _ _ _ _ hg
   have z_pair_7 : w3.cell? ⟨w.heap.size, 7, none⟩ = some (.int .u8 (n : Nat)) := cell_of_row _ _ _ _ _ _ hg
   have z_pair_8 : w3.cell? ⟨w.heap.size, 8, none⟩ = some (.int .u8 (p : Nat)) := cell_of_row _ _ _ _ _ _ hg
   clear hg
   have hlt4_pair : w.heap.size < NN4 := Nat.lt_of_lt_of_eq (World.block_lt_of_cell? _ _ z_pair_0) hNN
   have hg : w3.heap[n3]? = some (.cells #[.bool (decide (a.num < 0)), .slice B3x0 (len a.num.natAbs) b3x0, .slice B3x1 (len (below a.den)) b3x1, .bool (decide (b.num < 0)), .slice B3x2 (len b.num.natAbs) b3x2, .slice B3x3 (len (below b.den)) b3x3] 53 (0, 0)) := ((Below.refl _ w3).block _ (Array.getElem?_eq_some_iff.1 ZZ3_4.out).1).trans ZZ3_4.out
   obtain ⟨z_s_0, z_s_1, z_s_2, z_s_3, z_s_4, z_s_5⟩ := cells6 hg
   clear hg
   have hlt4_s : n3 < NN4 := Nat.lt_of_lt_of_eq (World.block_lt_of_cell? _ _ z_s_0) hNN
   have hg : w3.heap[n4]? = some (.cells #[.bool (decide (c.num < 0)), .slice B4x0 (len c.num.natAbs) b4x0, .slice B4x1 (len (below c.den)) b4x1, .bool (decide (d.num < 0)), .slice B4x2 (len d.num.natAbs) b4x2, .slice B4x3 (len (below d.den)) b4x3] 53 (0, 0)) := ((Below.refl _ w3).block _ (Array.getElem?_eq_some_iff.1 ZZ4.out).1).trans ZZ4.out
   obtain ⟨z_t_0, z_t_1, z_t_2, z_t_3, z_t_4, z_t_5⟩ := cells6 hg
   clear hg
   have hlt4_t : n4 < NN4 := Nat.lt_of_lt_of_eq (World.block_lt_of_cell? _ _ z_t_0) hNN
   have H0 := Held0.start w3 NN4
   refine wp_region_held_drew (S := (fun w' => (∀ b o, b < NN4 → w'.cell? ⟨b, o, none⟩ = w3.cell? ⟨b, o, none⟩))) (by kernel_rfl) ?_ (fun hHeld => ?_)
   · (try dsimp only)
     exact H0.1
   obtain ⟨wd4, hwd⟩ : ∃ u, u = w3.drew := ⟨_, rfl⟩
   rw [← hwd] at hHeld H0 ⊢
   clear hwd hNN
   refine tk (i := 0) (h := ?_)
   try simp only [Act.put, lt, ly, lu]
   refine tk (i := 1) (h := ?_)
   try simp only [Act.put, lt, ly, lu]
   refine tk (i := 2) (h := ?_)
   try simp only [Act.put, lt, ly, lu]
   refine tk (i := 4) (h := ?_)
   try simp only [Act.put, lt, ly, lu]
   refine tk (i := 5) (h := ?_)
   try simp only [Act.put, lt, ly, lu]
   refine tk (i := 6) (h := ?_)
   try simp only [Act.put, lt, ly, lu]
   generalize hF4 : wpAnyH _ _ _ _ _ = F4
   replace hF4 := hid hF4
   refine letters ?_
   intro A4 hA4
   replace hA4 := hid hA4
   have H0h := hid H0
   clear H0 hHeld
   have st4_2_67 : ∀ (L : Array Bool) (u : World) (v36 v40 : Value) (n6 n7 : Nat), L = #[true, true, true, true, true, true, true, true, true, true, false, false] → Hid (Held0 w3 NN4 w3 u) → Hid (IsNum u v36 x) → Hid (IsNum u v40 y) → Hid (Zero3 u n6) → NN4 ≤ n6 → Hid (Zero3 u n7) → NN4 ≤ n7 → n6 ≠ n7 → F4 2 L (Act.put (Act.put (Act.put (Act.put A4 (some 6) (.pointer (some ⟨n6, 0, none⟩))) (some 7) (.pointer (some ⟨n7, 0, none⟩))) (some 36) v36) (some 40) v40) u := by
    intro L u v36 v40 n6 n7 hLL HK I36 I40 Z6 g6 Z7 g7 ne6_7
    subst hLL
    rw [← hF4.out, ← hA4.out]
    try simp only [Act.put, lt, ly, lu]
    clear H0h z_pair_0 z_pair_1 z_pair_2 z_pair_3 z_pair_4 z_pair_5 z_pair_6 z_pair_7 z_pair_8 z_s_0 z_s_1 z_s_2 z_s_3 z_s_4 z_s_5 z_t_0 z_t_1 z_t_2 z_t_3 z_t_4 z_t_5 hlt4_pair hlt4_s hlt4_t
    obtain ⟨B6x0, b6x0, B6x1, b6x1, rfl, -, -⟩ := id I36.out.opened
    obtain ⟨B7x0, b7x0, B7x1, b7x1, rfl, -, -⟩ := id I40.out.opened
    refine wpAnyH_ready (rs := [10]) (by kernel_rfl) (by simp) ?_
    refine AllReadyH.cons (o := ?oq138) ?eq138 ?kq138 AllReadyH.nil
    case eq138 => simp only [lg, lz, ls]; rfl
    intro K hK
    have q0 : u.cell? ⟨n6, 0, none⟩ = some (.bool false) := cell_of_row _ _ _ _ _ _ Z6.out
    have F0 : u.frozen? ⟨n6, 0, none⟩ = false := frozen_of_row u n6 0 _ _ Z6.out
    have q1 : u.cell? ⟨n6, 1, none⟩ = some (.slice none 0 0) := cell_of_row _ _ _ _ _ _ Z6.out
    have F1 : u.frozen? ⟨n6, 1, none⟩ = false := frozen_of_row u n6 1 _ _ Z6.out
    have q2 : u.cell? ⟨n6, 2, none⟩ = some (.slice none 0 0) := cell_of_row _ _ _ _ _ _ Z6.out
    have F2 : u.frozen? ⟨n6, 2, none⟩ = false := frozen_of_row u n6 2 _ _ Z6.out
    go_simp
    clear q0 F0 q1 F1 q2 F2
    obtain ⟨us4_6, hw⟩ : ∃ z, z = (((u.setCell ⟨n6, 0, none⟩ (.bool (decide (x.num < 0)))).setCell ⟨n6, 1, none⟩ (.slice B6x0 (len x.num.natAbs) b6x0)).setCell ⟨n6, 2, none⟩ (.slice B6x1 (len (below x.den)) b6x1)) := ⟨_, rfl⟩
    obtain ⟨HK6, ZZ6, II6, OT, OB, ON⟩ := put3_all hw HK.out Z6.out g6 I36.out
    rw [← hw]
    clear hw
    replace HK6 := hid HK6
    replace ZZ6 := hid ZZ6
    replace II6 := hid II6
    have ZZ7_6 := hid (OT _ _ (Ne.symm ne6_7) Z7.out)
    have II7_6 := hid (ON _ _ I40.out)
    refine hK.out _ _ ?_ (fun hHeld => ?_)
    · (try dsimp only)
      exact HK6.out.1
    clear hK K hHeld OT OB ON HK Z6 I36 Z7 I40
    try simp only [Act.put, lt, ly, lu]
    refine wpAnyH_ready (rs := [11]) (by kernel_rfl) (by simp) ?_
    refine AllReadyH.cons (o := ?oq139) ?eq139 ?kq139 AllReadyH.nil
    case eq139 => simp only [lg, lz, ls]; rfl
    intro K hK
    have q0 : us4_6.cell? ⟨n7, 0, none⟩ = some (.bool false) := cell_of_row _ _ _ _ _ _ ZZ7_6.out
    have F0 : us4_6.frozen? ⟨n7, 0, none⟩ = false := frozen_of_row us4_6 n7 0 _ _ ZZ7_6.out
    have q1 : us4_6.cell? ⟨n7, 1, none⟩ = some (.slice none 0 0) := cell_of_row _ _ _ _ _ _ ZZ7_6.out
    have F1 : us4_6.frozen? ⟨n7, 1, none⟩ = false := frozen_of_row us4_6 n7 1 _ _ ZZ7_6.out
    have q2 : us4_6.cell? ⟨n7, 2, none⟩ = some (.slice none 0 0) := cell_of_row _ _ _ _ _ _ ZZ7_6.out
    have F2 : us4_6.frozen? ⟨n7, 2, none⟩ = false := frozen_of_row us4_6 n7 2 _ _ ZZ7_6.out
    go_simp
    clear q0 F0 q1 F1 q2 F2
    obtain ⟨us4_7, hw⟩ : ∃ z, z = (((us4_6.setCell ⟨n7, 0, none⟩ (.bool (decide (y.num < 0)))).setCell ⟨n7, 1, none⟩ (.slice B7x0 (len y.num.natAbs) b7x0)).setCell ⟨n7, 2, none⟩ (.slice B7x1 (len (below y.den)) b7x1)) := ⟨_, rfl⟩
    obtain ⟨HK7, ZZ7, II7, OT, OB, ON⟩ := put3_all hw HK6.out ZZ7_6.out g7 II7_6.out
    rw [← hw]
    clear hw
    replace HK7 := hid HK7
    replace ZZ7 := hid ZZ7
    replace II7 := hid II7
    have ZZ6_7 := hid (OT _ _ ne6_7 ZZ6.out)
    have II6_7 := hid (ON _ _ II6.out)
    refine hK.out _ _ ?_ (fun hHeld => ?_)
    · (try dsimp only)
      exact HK7.out.1
    clear hK K hHeld OT OB ON HK6 ZZ7_6 II7_6 ZZ6 II6
    try simp only [Act.put, lt, ly, lu]
    refine wpAnyH_done (by kernel_rfl) ?_ _
    obtain ⟨w4, hwq⟩ : ∃ z, z = us4_7 := ⟨_, rfl⟩
    rw [← hwq] at HK7 ZZ6_7 ZZ7 II6_7 II7 ⊢
    clear hwq hF4 hA4
    have b4 : Hid (Below w3.heap.size w3 w4) := below_eq HK7.out.2.1 HSZ4.out
    clear HK7 HSZ4
    have hRs4 := hid (II3_4.out.keep b4.out)
    have hRt4 := hid (II4.out.keep b4.out)
    have LRs4 : Hid (w4.heap[n3]? = some (.cells #[.bool (decide (a.num < 0)), .slice B3x0 (len a.num.natAbs) b3x0, .slice B3x1 (len (below a.den)) b3x1, .bool (decide (b.num < 0)), .slice B3x2 (len b.num.natAbs) b3x2, .slice B3x3 (len (below b.den)) b3x3] 53 (0, 0))) := (b4.out.block _ (Array.getElem?_eq_some_iff.1 ZZ3_4.out).1).trans ZZ3_4.out
    have LRt4 : Hid (w4.heap[n4]? = some (.cells #[.bool (decide (c.num < 0)), .slice B4x0 (len c.num.natAbs) b4x0, .slice B4x1 (len (below c.den)) b4x1, .bool (decide (d.num < 0)), .slice B4x2 (len d.num.natAbs) b4x2, .slice B4x3 (len (below d.den)) b4x3] 53 (0, 0))) := (b4.out.block _ (Array.getElem?_eq_some_iff.1 ZZ4.out).1).trans ZZ4.out
    have HMB4 := hid (cell_keep HMB3.out b4.out)
    have HTB4 := hid (tab_keep HTB3.out b4.out)
    have HBB4 := hid (Below.step HBB3.out b4.out)
    clear II3_4 II4 ZZ3_4 ZZ4 HMB3 HTB3 HBB3 b4
    have hg : w4.heap[n3]? = some (.cells #[.bool (decide (a.num < 0)), .slice B3x0 (len a.num.natAbs) b3x0, .slice B3x1 (len (below a.den)) b3x1, .bool (decide (b.num < 0)), .slice B3x2 (len b.num.natAbs) b3x2, .slice B3x3 (len (below b.den)) b3x3] 53 (0, 0)) := ((Below.refl _ w4).block _ (Array.getElem?_eq_some_iff.1 LRs4.out).1).trans LRs4.out
    obtain ⟨z_s_0, z_s_1, z_s_2, z_s_3, z_s_4, z_s_5⟩ := cells6 hg
    clear hg
    have HX := hid (bpow_val e_P1.out e_P2.out hRs4.out hn6 z_a.out z_b.out)
    go_wp2_with fail
    refine (HX.out).mono ?_
    rintro e w5 ⟨v5, rfl, hv5, b5⟩
    obtain ⟨C1, j1, C2, j2, C3, j3, C4, j4, rfl, hp5, hq5⟩ := id hv5.opened
    replace hv5 := hid hv5
    clear hp5 hq5
    replace b5 := hid b5
    clear HX
    clear z_s_0 z_s_1 z_s_2 z_s_3 z_s_4 z_s_5
    go_upto_region 6 with fail
    obtain ⟨w6, hw6⟩ : ∃ u, u = w5.alloc (.cells #[.bool (decide (P1.num < 0)), .slice C1 (len P1.num.natAbs) j1, .slice C2 (len (below P1.den)) j2, .bool (decide (P2.num < 0)), .slice C3 (len P2.num.natAbs) j3, .slice C4 (len (below P2.den)) j4] 53) := ⟨_, rfl⟩
    have b6 : Hid (Below w5.heap.size w5 w6) := by rw [hw6]; exact (Below.refl _ _).alloc (Nat.le_refl _) _
    have L6 : Hid (w6.heap[w5.heap.size]? = some (.cells #[.bool (decide (P1.num < 0)), .slice C1 (len P1.num.natAbs) j1, .slice C2 (len (below P1.den)) j2, .bool (decide (P2.num < 0)), .slice C3 (len P2.num.natAbs) j3, .slice C4 (len (below P2.den)) j4] 53 (0, 0))) := by rw [hw6]; exact heap_alloc_new w5 _
    rw [← hw6]
    clear hw6
    have hg : w6.heap[n6]? = some (.cells #[.bool (decide (x.num < 0)), .slice B6x0 (len x.num.natAbs) b6x0, .slice B6x1 (len (below x.den)) b6x1] 27 (0, 0)) := ((Below.step b5.out b6.out).block _ (Array.getElem?_eq_some_iff.1 ZZ6_7.out).1).trans ZZ6_7.out
    obtain ⟨z_x_0, z_x_1, z_x_2⟩ := cells3 hg
    clear hg
    have HX := hid (npow_val e_xn.out (II6_7.out.keep (Below.step b5.out b6.out)) z_x.out hn6)
    go_wp2_with fail
    refine (HX.out).mono ?_
    rintro e w7 ⟨v7, rfl, hv7, b7⟩
    obtain ⟨C5, j5, C6, j6, rfl, -, -⟩ := id hv7.opened
    replace hv7 := hid hv7
    replace b7 := hid b7
    clear HX
    clear z_x_0 z_x_1 z_x_2
    go_upto_region 7 with fail
    obtain ⟨w8, hw8⟩ : ∃ u, u = w7.alloc (.cells #[.bool (decide (xn.num < 0)), .slice C5 (len xn.num.natAbs) j5, .slice C6 (len (below xn.den)) j6] 27) := ⟨_, rfl⟩
    have b8 : Hid (Below w7.heap.size w7 w8) := by rw [hw8]; exact (Below.refl _ _).alloc (Nat.le_refl _) _
    have L8 : Hid (w8.heap[w7.heap.size]? = some (.cells #[.bool (decide (xn.num < 0)), .slice C5 (len xn.num.natAbs) j5, .slice C6 (len (below xn.den)) j6] 27 (0, 0))) := by rw [hw8]; exact heap_alloc_new w7 _
    rw [← hw8]
    clear hw8
    have hRs8 := hid (hRs4.out.keep (Below.step (Below.step (Below.step b5.out b6.out) b7.out) b8.out))
    have hRt8 := hid (hRt4.out.keep (Below.step (Below.step (Below.step b5.out b6.out) b7.out) b8.out))
    have hRx8 := hid (II6_7.out.keep (Below.step (Below.step (Below.step b5.out b6.out) b7.out) b8.out))
    have hRy8 := hid (II7.out.keep (Below.step (Below.step (Below.step b5.out b6.out) b7.out) b8.out))
    have hRpw8 := hid (hv5.out.keep (Below.step (Below.step b6.out b7.out) b8.out))
    have hRxn8 := hid (hv7.out.keep b8.out)
    have LRs8 : Hid (w8.heap[n3]? = some (.cells #[.bool (decide (a.num < 0)), .slice B3x0 (len a.num.natAbs) b3x0, .slice B3x1 (len (below a.den)) b3x1, .bool (decide (b.num < 0)), .slice B3x2 (len b.num.natAbs) b3x2, .slice B3x3 (len (below b.den)) b3x3] 53 (0, 0))) := ((Below.step (Below.step (Below.step b5.out b6.out) b7.out) b8.out).block _ (Array.getElem?_eq_some_iff.1 LRs4.out).1).trans LRs4.out
    have LRt8 : Hid (w8.heap[n4]? = some (.cells #[.bool (decide (c.num < 0)), .slice B4x0 (len c.num.natAbs) b4x0, .slice B4x1 (len (below c.den)) b4x1, .bool (decide (d.num < 0)), .slice B4x2 (len d.num.natAbs) b4x2, .slice B4x3 (len (below d.den)) b4x3] 53 (0, 0))) := ((Below.step (Below.step (Below.step b5.out b6.out) b7.out) b8.out).block _ (Array.getElem?_eq_some_iff.1 LRt4.out).1).trans LRt4.out
    have LRx8 : Hid (w8.heap[n6]? = some (.cells #[.bool (decide (x.num < 0)), .slice B6x0 (len x.num.natAbs) b6x0, .slice B6x1 (len (below x.den)) b6x1] 27 (0, 0))) := ((Below.step (Below.step (Below.step b5.out b6.out) b7.out) b8.out).block _ (Array.getElem?_eq_some_iff.1 ZZ6_7.out).1).trans ZZ6_7.out
    have LRy8 : Hid (w8.heap[n7]? = some (.cells #[.bool (decide (y.num < 0)), .slice B7x0 (len y.num.natAbs) b7x0, .slice B7x1 (len (below y.den)) b7x1] 27 (0, 0))) := ((Below.step (Below.step (Below.step b5.out b6.out) b7.out) b8.out).block _ (Array.getElem?_eq_some_iff.1 ZZ7.out).1).trans ZZ7.out
    have LRpw8 : Hid (w8.heap[w5.heap.size]? = some (.cells #[.bool (decide (P1.num < 0)), .slice C1 (len P1.num.natAbs) j1, .slice C2 (len (below P1.den)) j2, .bool (decide (P2.num < 0)), .slice C3 (len P2.num.natAbs) j3, .slice C4 (len (below P2.den)) j4] 53 (0, 0))) := ((Below.step b7.out b8.out).block _ (Array.getElem?_eq_some_iff.1 L6.out).1).trans L6.out
    have HMB8 := hid (cell_keep HMB4.out (Below.step (Below.step (Below.step b5.out b6.out) b7.out) b8.out))
    have HTB8 := hid (tab_keep HTB4.out (Below.step (Below.step (Below.step b5.out b6.out) b7.out) b8.out))
    have HBB8 := hid (Below.step HBB4.out (Below.step (Below.step (Below.step b5.out b6.out) b7.out) b8.out))
    clear hRs4 hRt4 II6_7 II7 hv5 hv7 LRs4 LRt4 ZZ6_7 ZZ7 L6 HMB4 HTB4 HBB4 b5 b6 b7 b8
    rename_i G9 hG9 Gb hGb
    replace hG9 := hid hG9
    go_wp2_with fail
    obtain ⟨NN7, hNN⟩ : ∃ n : Nat, w8.heap.size = n := ⟨_, rfl⟩
    have HSZ7 : Hid (w8.heap.size = NN7) := hNN
    have hg : w8.heap[n3]? = some (.cells #[.bool (decide (a.num < 0)), .slice B3x0 (len a.num.natAbs) b3x0, .slice B3x1 (len (below a.den)) b3x1, .bool (decide (b.num < 0)), .slice B3x2 (len b.num.natAbs) b3x2, .slice B3x3 (len (below b.den)) b3x3] 53 (0, 0)) := ((Below.refl _ w8).block _ (Array.getElem?_eq_some_iff.1 LRs8.out).1).trans LRs8.out
    obtain ⟨z_s_0, z_s_1, z_s_2, z_s_3, z_s_4, z_s_5⟩ := cells6 hg
    clear hg
    have hlt7_s : n3 < NN7 := Nat.lt_of_lt_of_eq (World.block_lt_of_cell? _ _ z_s_0) hNN
    have hg : w8.heap[n4]? = some (.cells #[.bool (decide (c.num < 0)), .slice B4x0 (len c.num.natAbs) b4x0, .slice B4x1 (len (below c.den)) b4x1, .bool (decide (d.num < 0)), .slice B4x2 (len d.num.natAbs) b4x2, .slice B4x3 (len (below d.den)) b4x3] 53 (0, 0)) := ((Below.refl _ w8).block _ (Array.getElem?_eq_some_iff.1 LRt8.out).1).trans LRt8.out
    obtain ⟨z_t_0, z_t_1, z_t_2, z_t_3, z_t_4, z_t_5⟩ := cells6 hg
    clear hg
    have hlt7_t : n4 < NN7 := Nat.lt_of_lt_of_eq (World.block_lt_of_cell? _ _ z_t_0) hNN
    have hg : w8.heap[n6]? = some (.cells #[.bool (decide (x.num < 0)), .slice B6x0 (len x.num.natAbs) b6x0, .slice B6x1 (len (below x.den)) b6x1] 27 (0, 0)) := ((Below.refl _ w8).block _ (Array.getElem?_eq_some_iff.1 LRx8.out).1).trans LRx8.out
    obtain ⟨z_x_0, z_x_1, z_x_2⟩ := cells3 hg
    clear hg
    have hlt7_x : n6 < NN7 := Nat.lt_of_lt_of_eq (World.block_lt_of_cell? _ _ z_x_0) hNN
    have hg : w8.heap[n7]? = some (.cells #[.bool (decide (y.num < 0)), .slice B7x0 (len y.num.natAbs) b7x0, .slice B7x1 (len (below y.den)) b7x1] 27 (0, 0)) := ((Below.refl _ w8).block _ (Array.getElem?_eq_some_iff.1 LRy8.out).1).trans LRy8.out
    obtain ⟨z_y_0, z_y_1, z_y_2⟩ := cells3 hg
    clear hg
    have hlt7_y : n7 < NN7 := Nat.lt_of_lt_of_eq (World.block_lt_of_cell? _ _ z_y_0) hNN
    have hg : w8.heap[w5.heap.size]? = some (.cells #[.bool (decide (P1.num < 0)), .slice C1 (len P1.num.natAbs) j1, .slice C2 (len (below P1.den)) j2, .bool (decide (P2.num < 0)), .slice C3 (len P2.num.natAbs) j3, .slice C4 (len (below P2.den)) j4] 53 (0, 0)) := ((Below.refl _ w8).block _ (Array.getElem?_eq_some_iff.1 LRpw8.out).1).trans LRpw8.out
    obtain ⟨z_pw_0, z_pw_1, z_pw_2, z_pw_3, z_pw_4, z_pw_5⟩ := cells6 hg
    clear hg
    have hlt7_pw : w5.heap.size < NN7 := Nat.lt_of_lt_of_eq (World.block_lt_of_cell? _ _ z_pw_0) hNN
    have hg : w8.heap[w7.heap.size]? = some (.cells #[.bool (decide (xn.num < 0)), .slice C5 (len xn.num.natAbs) j5, .slice C6 (len (below xn.den)) j6] 27 (0, 0)) := ((Below.refl _ w8).block _ (Array.getElem?_eq_some_iff.1 L8.out).1).trans L8.out
    obtain ⟨z_xn_0, z_xn_1, z_xn_2⟩ := cells3 hg
    clear hg
    have hlt7_xn : w7.heap.size < NN7 := Nat.lt_of_lt_of_eq (World.block_lt_of_cell? _ _ z_xn_0) hNN
    have H0 := Held0.start w8 NN7
    have H0' := H0
    unfold Held0 at H0'
    refine wp_region_held_drew (S := (fun w' => (∀ b o, b < NN7 → w'.cell? ⟨b, o, none⟩ = w8.cell? ⟨b, o, none⟩) ∧ Below (NN7) w8 w' ∧ Stay w8 w')) (by kernel_rfl) ?_ (fun hHeld => ?_)
    · (try dsimp only)
      exact H0'
    obtain ⟨w9, hw9⟩ : ∃ u, u = w8.drew := ⟨_, rfl⟩
    have b9 : Hid (Below w8.heap.size w8 w9) := by rw [hw9]; exact ⟨rfl, rfl, rfl, Nat.le_refl _, fun _ _ => rfl⟩
    rw [← hw9] at hHeld H0 ⊢
    clear hw9 H0' hNN
    as_aux_lemma =>
     refine tk (i := 0) (h := ?_)
     try simp only [Act.put, lt, ly, lu]
     refine tk (i := 1) (h := ?_)
     try simp only [Act.put, lt, ly, lu]
     refine tk (i := 2) (h := ?_)
     try simp only [Act.put, lt, ly, lu]
     refine tk (i := 3) (h := ?_)
     try simp only [Act.put, lt, ly, lu]
     refine tk (i := 4) (h := ?_)
     try simp only [Act.put, lt, ly, lu]
     refine tk (i := 5) (h := ?_)
     try simp only [Act.put, lt, ly, lu]
     refine tk (i := 6) (h := ?_)
     try simp only [Act.put, lt, ly, lu]
     refine tk (i := 7) (h := ?_)
     try simp only [Act.put, lt, ly, lu]
     refine tk (i := 8) (h := ?_)
     try simp only [Act.put, lt, ly, lu]
     refine wpAnyH_ready (rs := [9]) (by kernel_rfl) (by simp) (AllReadyH.cons (o := ?oq149) ?eq149 ?kq149 AllReadyH.nil)
     case eq149 => simp only [lg, lz, ls]; rfl
     intro K hK; go_simp; go_at_call 32
     refine (has_val i1.out (hRs8.out.keep b9.out) (hRx8.out.keep b9.out) z_a.out z_b.out z_x.out).mono ?_
     rintro e w10 ⟨rfl, b10⟩
     replace b10 := hid b10; have hk10 := hcall H0 HSZ7 b10.out; have hk10' := hk10; unfold Held0 at hk10'; clear hHeld H0
     refine hK.out _ _ ?_ (fun hHeld => ?_)
     · (try dsimp only); with_reducible exact hk10'
     clear hK K hk10'; try simp only [Act.put, lt, ly, lu]
     refine tk (i := 10) (h := ?_)
     try simp only [Act.put, lt, ly, lu]
     refine tk (i := 11) (h := ?_)
     try simp only [Act.put, lt, ly, lu]
     as_aux_lemma =>
      refine tk (i := 12) (h := ?_)
      try simp only [Act.put, lt, ly, lu]
      refine tk (i := 13) (h := ?_)
      try simp only [Act.put, lt, ly, lu]
      refine tk (i := 14) (h := ?_)
      try simp only [Act.put, lt, ly, lu]
      refine wpAnyH_ready (rs := [15]) (by kernel_rfl) (by simp) (AllReadyH.cons (o := ?oq155) ?eq155 ?kq155 AllReadyH.nil)
      case eq155 => simp only [lg, lz, ls]; rfl
      intro K hK; go_simp; go_at_call 32
      refine (has_val i2.out (hRt8.out.keep (Below.step b9.out b10.out)) (hRy8.out.keep (Below.step b9.out b10.out)) z_c.out z_d.out z_y.out).mono ?_
      rintro e w11 ⟨rfl, b11⟩
      replace b11 := hid b11; have hk11 := hcall hk10 HSZ7 b11.out; have hk11' := hk11; unfold Held0 at hk11'; clear hHeld hk10
      refine hK.out _ _ ?_ (fun hHeld => ?_)
      · (try dsimp only); with_reducible exact hk11'
      clear hK K hk11'; try simp only [Act.put, lt, ly, lu]
      refine tk (i := 16) (h := ?_)
      try simp only [Act.put, lt, ly, lu]
      refine tk (i := 17) (h := ?_)
      try simp only [Act.put, lt, ly, lu]
      refine tk (i := 18) (h := ?_)
      try simp only [Act.put, lt, ly, lu]
      refine tk (i := 19) (h := ?_)
      try simp only [Act.put, lt, ly, lu]
      refine tk (i := 20) (h := ?_)
      try simp only [Act.put, lt, ly, lu]
      refine tk (i := 22) (h := ?_)
      try simp only [Act.put, lt, ly, lu]
      refine tk (i := 23) (h := ?_)
      try simp only [Act.put, lt, ly, lu]
      refine wpAnyH_ready (rs := [21]) (by kernel_rfl) (by simp) (AllReadyH.cons (o := ?oq163) ?eq163 ?kq163 AllReadyH.nil)
      case eq163 => simp only [lg, lz, ls]; rfl
      intro K hK; go_simp; go_at_call 33
      refine (badd_val e_ac.out e_bd.out (hRs8.out.keep (Below.step (Below.step b9.out b10.out) b11.out)) (hRt8.out.keep (Below.step (Below.step b9.out b10.out) b11.out)) z_a.out z_b.out z_c.out z_d.out).mono ?_
      rintro e w12 ⟨v12, rfl, hv12, b12⟩
      obtain ⟨C7, j7, C8, j8, C9, j9, C10, j10, rfl, -, -⟩ := id hv12.opened
      replace hv12 := hid hv12
      replace b12 := hid b12; have hk12 := hcall hk11 HSZ7 b12.out; have hk12' := hk12; unfold Held0 at hk12'; clear hHeld hk11
      refine hK.out _ _ ?_ (fun hHeld => ?_)
      · (try dsimp only); with_reducible exact hk12'
      clear hK K hk12'; try simp only [Act.put, lt, ly, lu]
      as_aux_lemma =>
       refine wpAnyH_ready (rs := [24]) (by kernel_rfl) (by simp) (AllReadyH.cons (o := ?oq164) ?eq164 ?kq164 AllReadyH.nil)
       case eq164 => simp only [lg, lz, ls]; rfl
       intro K hK; go_simp; go_at_call 14
       refine (add_val e_sxy.out (hRx8.out.keep (Below.step (Below.step (Below.step b9.out b10.out) b11.out) b12.out)) (hRy8.out.keep (Below.step (Below.step (Below.step b9.out b10.out) b11.out) b12.out)) z_x.out z_y.out).mono ?_
       rintro e w13 ⟨v13, rfl, hv13, b13⟩
       obtain ⟨C11, j11, C12, j12, rfl, -, -⟩ := id hv13.opened; replace hv13 := hid hv13
       replace b13 := hid b13; have hk13 := hcall hk12 HSZ7 b13.out; have hk13' := hk13; unfold Held0 at hk13'; clear hHeld hk12
       refine hK.out _ _ ?_ (fun hHeld => ?_)
       · (try dsimp only); with_reducible exact hk13'
       clear hK K hk13'; try simp only [Act.put, lt, ly, lu]
       refine wpAnyH_ready (rs := [25]) (by kernel_rfl) (by simp) (AllReadyH.cons (o := ?oq165) ?eq165 ?kq165 AllReadyH.nil)
       case eq165 => simp only [lg, lz, ls]; rfl
       intro K hK; go_simp; go_at_call 32
       refine (has_val i3.out (hv12.out.keep b13.out) hv13.out z_ac.out z_bd.out z_sxy.out).mono ?_
       rintro e w14 ⟨rfl, b14⟩
       replace b14 := hid b14; have hk14 := hcall hk13 HSZ7 b14.out; have hk14' := hk14; unfold Held0 at hk14'; clear hHeld hk13
       refine hK.out _ _ ?_ (fun hHeld => ?_)
       · (try dsimp only); with_reducible exact hk14'
       clear hK K hk14'; try simp only [Act.put, lt, ly, lu]
       refine tk (i := 26) (h := ?_)
       try simp only [Act.put, lt, ly, lu]
       refine tk (i := 27) (h := ?_)
       try simp only [Act.put, lt, ly, lu]
       refine tk (i := 28) (h := ?_)
       try simp only [Act.put, lt, ly, lu]
       refine tk (i := 29) (h := ?_)
       try simp only [Act.put, lt, ly, lu]
       refine tk (i := 30) (h := ?_)
       try simp only [Act.put, lt, ly, lu]
       refine tk (i := 32) (h := ?_)
       try simp only [Act.put, lt, ly, lu]
       refine tk (i := 33) (h := ?_)
       try simp only [Act.put, lt, ly, lu]
       refine wpAnyH_ready (rs := [31]) (by kernel_rfl) (by simp) (AllReadyH.cons (o := ?oq173) ?eq173 ?kq173 AllReadyH.nil)
       case eq173 => simp only [lg, lz, ls]; rfl
       intro K hK; go_simp; go_at_call 34
       refine (bsub_val e_ad.out e_bc.out (hRs8.out.keep (Below.step (Below.step (Below.step (Below.step (Below.step b9.out b10.out) b11.out) b12.out) b13.out) b14.out)) (hRt8.out.keep (Below.step (Below.step (Below.step (Below.step (Below.step b9.out b10.out) b11.out) b12.out) b13.out) b14.out)) z_a.out z_b.out z_c.out z_d.out).mono ?_
       rintro e w15 ⟨v15, rfl, hv15, b15⟩
       obtain ⟨C13, j13, C14, j14, C15, j15, C16, j16, rfl, -, -⟩ := id hv15.opened
       replace hv15 := hid hv15
       replace b15 := hid b15; have hk15 := hcall hk14 HSZ7 b15.out; have hk15' := hk15; unfold Held0 at hk15'; clear hHeld hk14
       refine hK.out _ _ ?_ (fun hHeld => ?_)
       · (try dsimp only); with_reducible exact hk15'
       clear hK K hk15'; try simp only [Act.put, lt, ly, lu]
       refine wpAnyH_ready (rs := [34]) (by kernel_rfl) (by simp) (AllReadyH.cons (o := ?oq174) ?eq174 ?kq174 AllReadyH.nil)
       case eq174 => simp only [lg, lz, ls]; rfl
       intro K hK; go_simp; go_at_call 16
       refine (sub_val e_dxy.out (hRx8.out.keep (Below.step (Below.step (Below.step (Below.step (Below.step (Below.step b9.out b10.out) b11.out) b12.out) b13.out) b14.out) b15.out)) (hRy8.out.keep (Below.step (Below.step (Below.step (Below.step (Below.step (Below.step b9.out b10.out) b11.out) b12.out) b13.out) b14.out) b15.out)) z_x.out z_y.out).mono ?_
       rintro e w16 ⟨v16, rfl, hv16, b16⟩
       obtain ⟨C17, j17, C18, j18, rfl, -, -⟩ := id hv16.opened; replace hv16 := hid hv16
       replace b16 := hid b16; have hk16 := hcall hk15 HSZ7 b16.out; have hk16' := hk16; unfold Held0 at hk16'; clear hHeld hk15
       refine hK.out _ _ ?_ (fun hHeld => ?_)
       · (try dsimp only); with_reducible exact hk16'
       clear hK K hk16'; try simp only [Act.put, lt, ly, lu]
       refine wpAnyH_ready (rs := [35]) (by kernel_rfl) (by simp) (AllReadyH.cons (o := ?oq175) ?eq175 ?kq175 AllReadyH.nil)
       case eq175 => simp only [lg, lz, ls]; rfl
       intro K hK; go_simp; go_at_call 32
       refine (has_val i4.out (hv15.out.keep b16.out) hv16.out z_ad.out z_bc.out z_dxy.out).mono ?_
       rintro e w17 ⟨rfl, b17⟩
       replace b17 := hid b17; have hk17 := hcall hk16 HSZ7 b17.out; have hk17' := hk17; unfold Held0 at hk17'; clear hHeld hk16
       refine hK.out _ _ ?_ (fun hHeld => ?_)
       · (try dsimp only); with_reducible exact hk17'
       clear hK K hk17'; try simp only [Act.put, lt, ly, lu]
       as_aux_lemma =>
        refine tk (i := 36) (h := ?_)
        try simp only [Act.put, lt, ly, lu]
        refine tk (i := 37) (h := ?_)
        try simp only [Act.put, lt, ly, lu]
        refine tk (i := 38) (h := ?_)
        try simp only [Act.put, lt, ly, lu]
        refine tk (i := 39) (h := ?_)
        try simp only [Act.put, lt, ly, lu]
        refine tk (i := 40) (h := ?_)
        try simp only [Act.put, lt, ly, lu]
        refine tk (i := 42) (h := ?_)
        try simp only [Act.put, lt, ly, lu]
        refine tk (i := 43) (h := ?_)
        try simp only [Act.put, lt, ly, lu]
        refine wpAnyH_ready (rs := [41]) (by kernel_rfl) (by simp) (AllReadyH.cons (o := ?oq183) ?eq183 ?kq183 AllReadyH.nil)
        case eq183 => simp only [lg, lz, ls]; rfl
        intro K hK; go_simp; go_at_call 35
        refine (bmul_val e_m1.out e_m2.out (hRs8.out.keep (Below.step (Below.step (Below.step (Below.step (Below.step (Below.step (Below.step (Below.step b9.out b10.out) b11.out) b12.out) b13.out) b14.out) b15.out) b16.out) b17.out)) (hRt8.out.keep (Below.step (Below.step (Below.step (Below.step (Below.step (Below.step (Below.step (Below.step b9.out b10.out) b11.out) b12.out) b13.out) b14.out) b15.out) b16.out) b17.out)) z_a.out z_b.out z_c.out z_d.out).mono ?_
        rintro e w18 ⟨v18, rfl, hv18, b18⟩
        obtain ⟨C19, j19, C20, j20, C21, j21, C22, j22, rfl, -, -⟩ := id hv18.opened
        replace hv18 := hid hv18
        replace b18 := hid b18; have hk18 := hcall hk17 HSZ7 b18.out; have hk18' := hk18; unfold Held0 at hk18'; clear hHeld hk17
        refine hK.out _ _ ?_ (fun hHeld => ?_)
        · (try dsimp only); with_reducible exact hk18'
        clear hK K hk18'; try simp only [Act.put, lt, ly, lu]
        refine wpAnyH_ready (rs := [44]) (by kernel_rfl) (by simp) (AllReadyH.cons (o := ?oq184) ?eq184 ?kq184 AllReadyH.nil)
        case eq184 => simp only [lg, lz, ls]; rfl
        intro K hK; go_simp; go_at_call 15
        refine (mul_val' e_mxy.out (hRx8.out.keep (Below.step (Below.step (Below.step (Below.step (Below.step (Below.step (Below.step (Below.step (Below.step b9.out b10.out) b11.out) b12.out) b13.out) b14.out) b15.out) b16.out) b17.out) b18.out)) (hRy8.out.keep (Below.step (Below.step (Below.step (Below.step (Below.step (Below.step (Below.step (Below.step (Below.step b9.out b10.out) b11.out) b12.out) b13.out) b14.out) b15.out) b16.out) b17.out) b18.out)) z_x.out z_y.out).mono ?_
        rintro e w19 ⟨v19, rfl, hv19, b19⟩
        obtain ⟨C23, j23, C24, j24, rfl, -, -⟩ := id hv19.opened; replace hv19 := hid hv19
        replace b19 := hid b19; have hk19 := hcall hk18 HSZ7 b19.out; have hk19' := hk19; unfold Held0 at hk19'; clear hHeld hk18
        refine hK.out _ _ ?_ (fun hHeld => ?_)
        · (try dsimp only); with_reducible exact hk19'
        clear hK K hk19'; try simp only [Act.put, lt, ly, lu]
        refine wpAnyH_ready (rs := [45]) (by kernel_rfl) (by simp) (AllReadyH.cons (o := ?oq185) ?eq185 ?kq185 AllReadyH.nil)
        case eq185 => simp only [lg, lz, ls]; rfl
        intro K hK; go_simp; go_at_call 32
        refine (has_val i5.out (hv18.out.keep b19.out) hv19.out z_m1.out z_m2.out z_mxy.out).mono ?_
        rintro e w20 ⟨rfl, b20⟩
        replace b20 := hid b20; have hk20 := hcall hk19 HSZ7 b20.out; have hk20' := hk20; unfold Held0 at hk20'; clear hHeld hk19
        refine hK.out _ _ ?_ (fun hHeld => ?_)
        · (try dsimp only); with_reducible exact hk20'
        clear hK K hk20'; try simp only [Act.put, lt, ly, lu]
        refine tk (i := 46) (h := ?_)
        try simp only [Act.put, lt, ly, lu]
        refine tk (i := 47) (h := ?_)
        try simp only [Act.put, lt, ly, lu]
        as_aux_lemma =>
         refine tk (i := 48) (h := ?_)
         try simp only [Act.put, lt, ly, lu]
         refine tk (i := 49) (h := ?_)
         try simp only [Act.put, lt, ly, lu]
         refine tk (i := 51) (h := ?_)
         try simp only [Act.put, lt, ly, lu]
         refine wpAnyH_ready (rs := [50]) (by kernel_rfl) (by simp) (AllReadyH.cons (o := ?oq191) ?eq191 ?kq191 AllReadyH.nil)
         case eq191 => simp only [lg, lz, ls]; rfl
         intro K hK; go_simp; go_at_call 36
         refine (bneg_val e_nb.out e_na.out (hRs8.out.keep (Below.step (Below.step (Below.step (Below.step (Below.step (Below.step (Below.step (Below.step (Below.step (Below.step (Below.step b9.out b10.out) b11.out) b12.out) b13.out) b14.out) b15.out) b16.out) b17.out) b18.out) b19.out) b20.out)) z_a.out z_b.out).mono ?_
         rintro e w21 ⟨v21, rfl, hv21, b21⟩
         obtain ⟨C25, j25, C26, j26, C27, j27, C28, j28, rfl, -, -⟩ := id hv21.opened
         replace hv21 := hid hv21
         replace b21 := hid b21; have hk21 := hcall hk20 HSZ7 b21.out; have hk21' := hk21; unfold Held0 at hk21'; clear hHeld hk20
         refine hK.out _ _ ?_ (fun hHeld => ?_)
         · (try dsimp only); with_reducible exact hk21'
         clear hK K hk21'; try simp only [Act.put, lt, ly, lu]
         refine wpAnyH_ready (rs := [52]) (by kernel_rfl) (by simp) (AllReadyH.cons (o := ?oq192) ?eq192 ?kq192 AllReadyH.nil)
         case eq192 => simp only [lg, lz, ls]; rfl
         intro K hK; go_simp; go_at_call 17
         refine (neg_val e_nx.out (hRx8.out.keep (Below.step (Below.step (Below.step (Below.step (Below.step (Below.step (Below.step (Below.step (Below.step (Below.step (Below.step (Below.step b9.out b10.out) b11.out) b12.out) b13.out) b14.out) b15.out) b16.out) b17.out) b18.out) b19.out) b20.out) b21.out)) z_x.out).mono ?_
         rintro e w22 ⟨v22, rfl, hv22, b22⟩
         obtain ⟨C29, j29, C30, j30, rfl, -, -⟩ := id hv22.opened; replace hv22 := hid hv22
         replace b22 := hid b22; have hk22 := hcall hk21 HSZ7 b22.out; have hk22' := hk22; unfold Held0 at hk22'; clear hHeld hk21
         refine hK.out _ _ ?_ (fun hHeld => ?_)
         · (try dsimp only); with_reducible exact hk22'
         clear hK K hk22'; try simp only [Act.put, lt, ly, lu]
         refine wpAnyH_ready (rs := [53]) (by kernel_rfl) (by simp) (AllReadyH.cons (o := ?oq193) ?eq193 ?kq193 AllReadyH.nil)
         case eq193 => simp only [lg, lz, ls]; rfl
         intro K hK; go_simp; go_at_call 32
         refine (has_val i6.out (hv21.out.keep b22.out) hv22.out z_nb.out z_na.out z_nx.out).mono ?_
         rintro e w23 ⟨rfl, b23⟩
         replace b23 := hid b23; have hk23 := hcall hk22 HSZ7 b23.out; have hk23' := hk23; unfold Held0 at hk23'; clear hHeld hk22
         refine hK.out _ _ ?_ (fun hHeld => ?_)
         · (try dsimp only); with_reducible exact hk23'
         clear hK K hk23'; try simp only [Act.put, lt, ly, lu]
         refine tk (i := 54) (h := ?_)
         try simp only [Act.put, lt, ly, lu]
         refine tk (i := 55) (h := ?_)
         try simp only [Act.put, lt, ly, lu]
         refine tk (i := 56) (h := ?_)
         try simp only [Act.put, lt, ly, lu]
         refine tk (i := 57) (h := ?_)
         try simp only [Act.put, lt, ly, lu]
         refine tk (i := 59) (h := ?_)
         try simp only [Act.put, lt, ly, lu]
         refine wpAnyH_ready (rs := [58]) (by kernel_rfl) (by simp) (AllReadyH.cons (o := ?oq199) ?eq199 ?kq199 AllReadyH.nil)
         case eq199 => simp only [lg, lz, ls]; rfl
         intro K hK; go_simp; go_at_call 37
         refine (babs_val e_v1.out e_v2.out (hRs8.out.keep (Below.step (Below.step (Below.step (Below.step (Below.step (Below.step (Below.step (Below.step (Below.step (Below.step (Below.step (Below.step (Below.step (Below.step b9.out b10.out) b11.out) b12.out) b13.out) b14.out) b15.out) b16.out) b17.out) b18.out) b19.out) b20.out) b21.out) b22.out) b23.out)) z_a.out z_b.out).mono ?_
         rintro e w24 ⟨v24, rfl, hv24, b24⟩
         obtain ⟨C31, j31, C32, j32, C33, j33, C34, j34, rfl, -, -⟩ := id hv24.opened
         replace hv24 := hid hv24
         replace b24 := hid b24; have hk24 := hcall hk23 HSZ7 b24.out; have hk24' := hk24; unfold Held0 at hk24'; clear hHeld hk23
         refine hK.out _ _ ?_ (fun hHeld => ?_)
         · (try dsimp only); with_reducible exact hk24'
         clear hK K hk24'; try simp only [Act.put, lt, ly, lu]
         as_aux_lemma =>
          refine wpAnyH_ready (rs := [60]) (by kernel_rfl) (by simp) (AllReadyH.cons (o := ?oq200) ?eq200 ?kq200 AllReadyH.nil)
          case eq200 => simp only [lg, lz, ls]; rfl
          intro K hK; go_simp; go_at_call 38
          refine (nabs_val e_ax.out (hRx8.out.keep (Below.step (Below.step (Below.step (Below.step (Below.step (Below.step (Below.step (Below.step (Below.step (Below.step (Below.step (Below.step (Below.step (Below.step (Below.step b9.out b10.out) b11.out) b12.out) b13.out) b14.out) b15.out) b16.out) b17.out) b18.out) b19.out) b20.out) b21.out) b22.out) b23.out) b24.out)) z_x.out).mono ?_
          rintro e w25 ⟨v25, rfl, hv25, b25⟩
          obtain ⟨C35, j35, C36, j36, rfl, -, -⟩ := id hv25.opened; replace hv25 := hid hv25
          replace b25 := hid b25; have hk25 := hcall hk24 HSZ7 b25.out; have hk25' := hk25; unfold Held0 at hk25'; clear hHeld hk24
          refine hK.out _ _ ?_ (fun hHeld => ?_)
          · (try dsimp only); with_reducible exact hk25'
          clear hK K hk25'; try simp only [Act.put, lt, ly, lu]
          refine wpAnyH_ready (rs := [61]) (by kernel_rfl) (by simp) (AllReadyH.cons (o := ?oq201) ?eq201 ?kq201 AllReadyH.nil)
          case eq201 => simp only [lg, lz, ls]; rfl
          intro K hK; go_simp; go_at_call 32
          refine (has_val i7.out (hv24.out.keep b25.out) hv25.out z_v1.out z_v2.out z_ax.out).mono ?_
          rintro e w26 ⟨rfl, b26⟩
          replace b26 := hid b26; have hk26 := hcall hk25 HSZ7 b26.out; have hk26' := hk26; unfold Held0 at hk26'; clear hHeld hk25
          refine hK.out _ _ ?_ (fun hHeld => ?_)
          · (try dsimp only); with_reducible exact hk26'
          clear hK K hk26'; try simp only [Act.put, lt, ly, lu]
          refine tk (i := 62) (h := ?_)
          try simp only [Act.put, lt, ly, lu]
          refine tk (i := 63) (h := ?_)
          try simp only [Act.put, lt, ly, lu]
          refine tk (i := 64) (h := ?_)
          try simp only [Act.put, lt, ly, lu]
          refine tk (i := 65) (h := ?_)
          try simp only [Act.put, lt, ly, lu]
          refine tk (i := 66) (h := ?_)
          try simp only [Act.put, lt, ly, lu]
          refine wpAnyH_ready (rs := [67]) (by kernel_rfl) (by simp) (AllReadyH.cons (o := ?oq207) ?eq207 ?kq207 AllReadyH.nil)
          case eq207 => simp only [lg, lz, ls]; rfl
          intro K hK; go_simp; go_at_call 32
          refine (has_val iA.out (hRpw8.out.keep (Below.step (Below.step (Below.step (Below.step (Below.step (Below.step (Below.step (Below.step (Below.step (Below.step (Below.step (Below.step (Below.step (Below.step (Below.step (Below.step (Below.step b9.out b10.out) b11.out) b12.out) b13.out) b14.out) b15.out) b16.out) b17.out) b18.out) b19.out) b20.out) b21.out) b22.out) b23.out) b24.out) b25.out) b26.out)) (hRxn8.out.keep (Below.step (Below.step (Below.step (Below.step (Below.step (Below.step (Below.step (Below.step (Below.step (Below.step (Below.step (Below.step (Below.step (Below.step (Below.step (Below.step (Below.step b9.out b10.out) b11.out) b12.out) b13.out) b14.out) b15.out) b16.out) b17.out) b18.out) b19.out) b20.out) b21.out) b22.out) b23.out) b24.out) b25.out) b26.out)) z_P1.out z_P2.out z_xn.out).mono ?_
          rintro e w27 ⟨rfl, b27⟩
          replace b27 := hid b27; have hk27 := hcall hk26 HSZ7 b27.out; have hk27' := hk27; unfold Held0 at hk27'; clear hHeld hk26
          refine hK.out _ _ ?_ (fun hHeld => ?_)
          · (try dsimp only); with_reducible exact hk27'
          clear hK K hk27'; try simp only [Act.put, lt, ly, lu]
          refine tk (i := 68) (h := ?_)
          try simp only [Act.put, lt, ly, lu]
          refine tk (i := 69) (h := ?_)
          try simp only [Act.put, lt, ly, lu]
          refine tk (i := 70) (h := ?_)
          try simp only [Act.put, lt, ly, lu]
          refine tk (i := 71) (h := ?_)
          try simp only [Act.put, lt, ly, lu]
          as_aux_lemma =>
           refine tk (i := 72) (h := ?_)
           try simp only [Act.put, lt, ly, lu]
           refine tk (i := 74) (h := ?_)
           try simp only [Act.put, lt, ly, lu]
           refine wpAnyH_ready (rs := [73]) (by kernel_rfl) (by simp) (AllReadyH.cons (o := ?oq214) ?eq214 ?kq214 AllReadyH.nil)
           case eq214 => simp only [lg, lz, ls]; rfl
           intro K hK; go_simp; go_at_call 39
           refine (hull_val e_u1.out e_u2.out (hRs8.out.keep (Below.step (Below.step (Below.step (Below.step (Below.step (Below.step (Below.step (Below.step (Below.step (Below.step (Below.step (Below.step (Below.step (Below.step (Below.step (Below.step (Below.step (Below.step b9.out b10.out) b11.out) b12.out) b13.out) b14.out) b15.out) b16.out) b17.out) b18.out) b19.out) b20.out) b21.out) b22.out) b23.out) b24.out) b25.out) b26.out) b27.out)) (hRt8.out.keep (Below.step (Below.step (Below.step (Below.step (Below.step (Below.step (Below.step (Below.step (Below.step (Below.step (Below.step (Below.step (Below.step (Below.step (Below.step (Below.step (Below.step (Below.step b9.out b10.out) b11.out) b12.out) b13.out) b14.out) b15.out) b16.out) b17.out) b18.out) b19.out) b20.out) b21.out) b22.out) b23.out) b24.out) b25.out) b26.out) b27.out)) z_a.out z_b.out z_c.out z_d.out).mono ?_
           rintro e w28 ⟨v28, rfl, hv28, b28⟩
           obtain ⟨C37, j37, C38, j38, C39, j39, C40, j40, rfl, -, -⟩ := id hv28.opened
           replace hv28 := hid hv28
           replace b28 := hid b28; have hk28 := hcall hk27 HSZ7 b28.out; have hk28' := hk28; unfold Held0 at hk28'; clear hHeld hk27
           refine hK.out _ _ ?_ (fun hHeld => ?_)
           · (try dsimp only); with_reducible exact hk28'
           clear hK K hk28'; try simp only [Act.put, lt, ly, lu]
           refine wpAnyH_ready (rs := [75]) (by kernel_rfl) (by simp) (AllReadyH.cons (o := ?oq215) ?eq215 ?kq215 AllReadyH.nil)
           case eq215 => simp only [lg, lz, ls]; rfl
           intro K hK; go_simp; go_at_call 32
           refine (has_val i8.out hv28.out (hRx8.out.keep (Below.step (Below.step (Below.step (Below.step (Below.step (Below.step (Below.step (Below.step (Below.step (Below.step (Below.step (Below.step (Below.step (Below.step (Below.step (Below.step (Below.step (Below.step (Below.step b9.out b10.out) b11.out) b12.out) b13.out) b14.out) b15.out) b16.out) b17.out) b18.out) b19.out) b20.out) b21.out) b22.out) b23.out) b24.out) b25.out) b26.out) b27.out) b28.out)) z_u1.out z_u2.out z_x.out).mono ?_
           rintro e w29 ⟨rfl, b29⟩
           replace b29 := hid b29; have hk29 := hcall hk28 HSZ7 b29.out; have hk29' := hk29; unfold Held0 at hk29'; clear hHeld hk28
           refine hK.out _ _ ?_ (fun hHeld => ?_)
           · (try dsimp only); with_reducible exact hk29'
           clear hK K hk29'; try simp only [Act.put, lt, ly, lu]
           refine tk (i := 76) (h := ?_)
           try simp only [Act.put, lt, ly, lu]
           refine tk (i := 77) (h := ?_)
           try simp only [Act.put, lt, ly, lu]
           refine tk (i := 78) (h := ?_)
           try simp only [Act.put, lt, ly, lu]
           refine tk (i := 79) (h := ?_)
           try simp only [Act.put, lt, ly, lu]
           refine tk (i := 80) (h := ?_)
           try simp only [Act.put, lt, ly, lu]
           refine tk (i := 82) (h := ?_)
           try simp only [Act.put, lt, ly, lu]
           refine wpAnyH_ready (rs := [81]) (by kernel_rfl) (by simp) (AllReadyH.cons (o := ?oq222) ?eq222 ?kq222 AllReadyH.nil)
           case eq222 => simp only [lg, lz, ls]; rfl
           intro K hK; go_simp; go_at_call 39
           refine (hull_val e_u1.out e_u2.out (hRs8.out.keep (Below.step (Below.step (Below.step (Below.step (Below.step (Below.step (Below.step (Below.step (Below.step (Below.step (Below.step (Below.step (Below.step (Below.step (Below.step (Below.step (Below.step (Below.step (Below.step (Below.step b9.out b10.out) b11.out) b12.out) b13.out) b14.out) b15.out) b16.out) b17.out) b18.out) b19.out) b20.out) b21.out) b22.out) b23.out) b24.out) b25.out) b26.out) b27.out) b28.out) b29.out)) (hRt8.out.keep (Below.step (Below.step (Below.step (Below.step (Below.step (Below.step (Below.step (Below.step (Below.step (Below.step (Below.step (Below.step (Below.step (Below.step (Below.step (Below.step (Below.step (Below.step (Below.step (Below.step b9.out b10.out) b11.out) b12.out) b13.out) b14.out) b15.out) b16.out) b17.out) b18.out) b19.out) b20.out) b21.out) b22.out) b23.out) b24.out) b25.out) b26.out) b27.out) b28.out) b29.out)) z_a.out z_b.out z_c.out z_d.out).mono ?_
           rintro e w30 ⟨v30, rfl, hv30, b30⟩
           obtain ⟨C41, j41, C42, j42, C43, j43, C44, j44, rfl, -, -⟩ := id hv30.opened
           replace hv30 := hid hv30
           replace b30 := hid b30; have hk30 := hcall hk29 HSZ7 b30.out; have hk30' := hk30; unfold Held0 at hk30'; clear hHeld hk29
           refine hK.out _ _ ?_ (fun hHeld => ?_)
           · (try dsimp only); with_reducible exact hk30'
           clear hK K hk30'; try simp only [Act.put, lt, ly, lu]
           refine wpAnyH_ready (rs := [83]) (by kernel_rfl) (by simp) (AllReadyH.cons (o := ?oq223) ?eq223 ?kq223 AllReadyH.nil)
           case eq223 => simp only [lg, lz, ls]; rfl
           intro K hK; go_simp; go_at_call 32
           refine (has_val i9.out hv30.out (hRy8.out.keep (Below.step (Below.step (Below.step (Below.step (Below.step (Below.step (Below.step (Below.step (Below.step (Below.step (Below.step (Below.step (Below.step (Below.step (Below.step (Below.step (Below.step (Below.step (Below.step (Below.step (Below.step b9.out b10.out) b11.out) b12.out) b13.out) b14.out) b15.out) b16.out) b17.out) b18.out) b19.out) b20.out) b21.out) b22.out) b23.out) b24.out) b25.out) b26.out) b27.out) b28.out) b29.out) b30.out)) z_u1.out z_u2.out z_y.out).mono ?_
           rintro e w31 ⟨rfl, b31⟩
           replace b31 := hid b31; have hk31 := hcall hk30 HSZ7 b31.out; have hk31' := hk31; unfold Held0 at hk31'; clear hHeld hk30
           refine hK.out _ _ ?_ (fun hHeld => ?_)
           · (try dsimp only); with_reducible exact hk31'
           clear hK K hk31'; try simp only [Act.put, lt, ly, lu]
           as_aux_lemma =>
            refine tk (i := 84) (h := ?_)
            try simp only [Act.put, lt, ly, lu]
            refine tk (i := 85) (h := ?_)
            try simp only [Act.put, lt, ly, lu]
            refine wpAnyH_done (by kernel_rfl) ?_ _
            clear hHeld
            clear z_s_0 z_s_1 z_s_2 z_s_3 z_s_4 z_s_5 z_t_0 z_t_1 z_t_2 z_t_3 z_t_4 z_t_5 z_x_0 z_x_1 z_x_2 z_y_0 z_y_1 z_y_2 z_pw_0 z_pw_1 z_pw_2 z_pw_3 z_pw_4 z_pw_5 z_xn_0 z_xn_1 z_xn_2 hlt7_s hlt7_t hlt7_x hlt7_y hlt7_pw hlt7_xn
            clear hk31 HSZ7
            have hRs31 := hid (hRs8.out.keep (Below.step (Below.step (Below.step (Below.step (Below.step (Below.step (Below.step (Below.step (Below.step (Below.step (Below.step (Below.step (Below.step (Below.step (Below.step (Below.step (Below.step (Below.step (Below.step (Below.step (Below.step (Below.step b9.out b10.out) b11.out) b12.out) b13.out) b14.out) b15.out) b16.out) b17.out) b18.out) b19.out) b20.out) b21.out) b22.out) b23.out) b24.out) b25.out) b26.out) b27.out) b28.out) b29.out) b30.out) b31.out))
            have hRt31 := hid (hRt8.out.keep (Below.step (Below.step (Below.step (Below.step (Below.step (Below.step (Below.step (Below.step (Below.step (Below.step (Below.step (Below.step (Below.step (Below.step (Below.step (Below.step (Below.step (Below.step (Below.step (Below.step (Below.step (Below.step b9.out b10.out) b11.out) b12.out) b13.out) b14.out) b15.out) b16.out) b17.out) b18.out) b19.out) b20.out) b21.out) b22.out) b23.out) b24.out) b25.out) b26.out) b27.out) b28.out) b29.out) b30.out) b31.out))
            have hRx31 := hid (hRx8.out.keep (Below.step (Below.step (Below.step (Below.step (Below.step (Below.step (Below.step (Below.step (Below.step (Below.step (Below.step (Below.step (Below.step (Below.step (Below.step (Below.step (Below.step (Below.step (Below.step (Below.step (Below.step (Below.step b9.out b10.out) b11.out) b12.out) b13.out) b14.out) b15.out) b16.out) b17.out) b18.out) b19.out) b20.out) b21.out) b22.out) b23.out) b24.out) b25.out) b26.out) b27.out) b28.out) b29.out) b30.out) b31.out))
            have hRy31 := hid (hRy8.out.keep (Below.step (Below.step (Below.step (Below.step (Below.step (Below.step (Below.step (Below.step (Below.step (Below.step (Below.step (Below.step (Below.step (Below.step (Below.step (Below.step (Below.step (Below.step (Below.step (Below.step (Below.step (Below.step b9.out b10.out) b11.out) b12.out) b13.out) b14.out) b15.out) b16.out) b17.out) b18.out) b19.out) b20.out) b21.out) b22.out) b23.out) b24.out) b25.out) b26.out) b27.out) b28.out) b29.out) b30.out) b31.out))
            have hRpw31 := hid (hRpw8.out.keep (Below.step (Below.step (Below.step (Below.step (Below.step (Below.step (Below.step (Below.step (Below.step (Below.step (Below.step (Below.step (Below.step (Below.step (Below.step (Below.step (Below.step (Below.step (Below.step (Below.step (Below.step (Below.step b9.out b10.out) b11.out) b12.out) b13.out) b14.out) b15.out) b16.out) b17.out) b18.out) b19.out) b20.out) b21.out) b22.out) b23.out) b24.out) b25.out) b26.out) b27.out) b28.out) b29.out) b30.out) b31.out))
            have LRs31 : Hid (w31.heap[n3]? = some (.cells #[.bool (decide (a.num < 0)), .slice B3x0 (len a.num.natAbs) b3x0, .slice B3x1 (len (below a.den)) b3x1, .bool (decide (b.num < 0)), .slice B3x2 (len b.num.natAbs) b3x2, .slice B3x3 (len (below b.den)) b3x3] 53 (0, 0))) := ((Below.step (Below.step (Below.step (Below.step (Below.step (Below.step (Below.step (Below.step (Below.step (Below.step (Below.step (Below.step (Below.step (Below.step (Below.step (Below.step (Below.step (Below.step (Below.step (Below.step (Below.step (Below.step b9.out b10.out) b11.out) b12.out) b13.out) b14.out) b15.out) b16.out) b17.out) b18.out) b19.out) b20.out) b21.out) b22.out) b23.out) b24.out) b25.out) b26.out) b27.out) b28.out) b29.out) b30.out) b31.out).block _ (Array.getElem?_eq_some_iff.1 LRs8.out).1).trans LRs8.out
            have LRt31 : Hid (w31.heap[n4]? = some (.cells #[.bool (decide (c.num < 0)), .slice B4x0 (len c.num.natAbs) b4x0, .slice B4x1 (len (below c.den)) b4x1, .bool (decide (d.num < 0)), .slice B4x2 (len d.num.natAbs) b4x2, .slice B4x3 (len (below d.den)) b4x3] 53 (0, 0))) := ((Below.step (Below.step (Below.step (Below.step (Below.step (Below.step (Below.step (Below.step (Below.step (Below.step (Below.step (Below.step (Below.step (Below.step (Below.step (Below.step (Below.step (Below.step (Below.step (Below.step (Below.step (Below.step b9.out b10.out) b11.out) b12.out) b13.out) b14.out) b15.out) b16.out) b17.out) b18.out) b19.out) b20.out) b21.out) b22.out) b23.out) b24.out) b25.out) b26.out) b27.out) b28.out) b29.out) b30.out) b31.out).block _ (Array.getElem?_eq_some_iff.1 LRt8.out).1).trans LRt8.out
            have LRx31 : Hid (w31.heap[n6]? = some (.cells #[.bool (decide (x.num < 0)), .slice B6x0 (len x.num.natAbs) b6x0, .slice B6x1 (len (below x.den)) b6x1] 27 (0, 0))) := ((Below.step (Below.step (Below.step (Below.step (Below.step (Below.step (Below.step (Below.step (Below.step (Below.step (Below.step (Below.step (Below.step (Below.step (Below.step (Below.step (Below.step (Below.step (Below.step (Below.step (Below.step (Below.step b9.out b10.out) b11.out) b12.out) b13.out) b14.out) b15.out) b16.out) b17.out) b18.out) b19.out) b20.out) b21.out) b22.out) b23.out) b24.out) b25.out) b26.out) b27.out) b28.out) b29.out) b30.out) b31.out).block _ (Array.getElem?_eq_some_iff.1 LRx8.out).1).trans LRx8.out
            have LRy31 : Hid (w31.heap[n7]? = some (.cells #[.bool (decide (y.num < 0)), .slice B7x0 (len y.num.natAbs) b7x0, .slice B7x1 (len (below y.den)) b7x1] 27 (0, 0))) := ((Below.step (Below.step (Below.step (Below.step (Below.step (Below.step (Below.step (Below.step (Below.step (Below.step (Below.step (Below.step (Below.step (Below.step (Below.step (Below.step (Below.step (Below.step (Below.step (Below.step (Below.step (Below.step b9.out b10.out) b11.out) b12.out) b13.out) b14.out) b15.out) b16.out) b17.out) b18.out) b19.out) b20.out) b21.out) b22.out) b23.out) b24.out) b25.out) b26.out) b27.out) b28.out) b29.out) b30.out) b31.out).block _ (Array.getElem?_eq_some_iff.1 LRy8.out).1).trans LRy8.out
            have LRpw31 : Hid (w31.heap[w5.heap.size]? = some (.cells #[.bool (decide (P1.num < 0)), .slice C1 (len P1.num.natAbs) j1, .slice C2 (len (below P1.den)) j2, .bool (decide (P2.num < 0)), .slice C3 (len P2.num.natAbs) j3, .slice C4 (len (below P2.den)) j4] 53 (0, 0))) := ((Below.step (Below.step (Below.step (Below.step (Below.step (Below.step (Below.step (Below.step (Below.step (Below.step (Below.step (Below.step (Below.step (Below.step (Below.step (Below.step (Below.step (Below.step (Below.step (Below.step (Below.step (Below.step b9.out b10.out) b11.out) b12.out) b13.out) b14.out) b15.out) b16.out) b17.out) b18.out) b19.out) b20.out) b21.out) b22.out) b23.out) b24.out) b25.out) b26.out) b27.out) b28.out) b29.out) b30.out) b31.out).block _ (Array.getElem?_eq_some_iff.1 LRpw8.out).1).trans LRpw8.out
            have HMB31 := hid (cell_keep HMB8.out (Below.step (Below.step (Below.step (Below.step (Below.step (Below.step (Below.step (Below.step (Below.step (Below.step (Below.step (Below.step (Below.step (Below.step (Below.step (Below.step (Below.step (Below.step (Below.step (Below.step (Below.step (Below.step b9.out b10.out) b11.out) b12.out) b13.out) b14.out) b15.out) b16.out) b17.out) b18.out) b19.out) b20.out) b21.out) b22.out) b23.out) b24.out) b25.out) b26.out) b27.out) b28.out) b29.out) b30.out) b31.out))
            have HTB31 := hid (tab_keep HTB8.out (Below.step (Below.step (Below.step (Below.step (Below.step (Below.step (Below.step (Below.step (Below.step (Below.step (Below.step (Below.step (Below.step (Below.step (Below.step (Below.step (Below.step (Below.step (Below.step (Below.step (Below.step (Below.step b9.out b10.out) b11.out) b12.out) b13.out) b14.out) b15.out) b16.out) b17.out) b18.out) b19.out) b20.out) b21.out) b22.out) b23.out) b24.out) b25.out) b26.out) b27.out) b28.out) b29.out) b30.out) b31.out))
            have HBB31 := hid (Below.step HBB8.out (Below.step (Below.step (Below.step (Below.step (Below.step (Below.step (Below.step (Below.step (Below.step (Below.step (Below.step (Below.step (Below.step (Below.step (Below.step (Below.step (Below.step (Below.step (Below.step (Below.step (Below.step (Below.step b9.out b10.out) b11.out) b12.out) b13.out) b14.out) b15.out) b16.out) b17.out) b18.out) b19.out) b20.out) b21.out) b22.out) b23.out) b24.out) b25.out) b26.out) b27.out) b28.out) b29.out) b30.out) b31.out))
            clear hRs8 hRt8 hRx8 hRy8 hRpw8 LRs8 LRt8 LRx8 LRy8 LRpw8 HMB8 HTB8 HBB8 b9 b10 b11 b12 b13 b14 b15 b16 b17 b18 b19 b20 b21 b22 b23 b24 b25 b26 b27 b28 b29 b30 b31
            go_wp2_with fail
            refine hG9.out _ _ ?_
            exact holds_back zz_a.out zz_b.out zz_c.out zz_d.out zz_x.out zz_y.out hab.out hx.out hy.out hn6 e_P1.out e_P2.out hRs31.out LRs31.out hRt31.out LRt31.out hRx31.out LRx31.out hRy31.out LRy31.out hRpw31.out LRpw31.out HMB31.out HTB31.out HBB31.out
   try simp only [← hA4.out, Act.put, lt, ly, lu] at st4_2_67
   replace st4_2_67 := hid st4_2_67
   have st4_2_6 : ∀ (L : Array Bool) (u : World) (v36 v40 : Value) (n6 : Nat), L = #[true, true, true, true, true, true, true, true, true, false, false, false] → Hid (Held0 w3 NN4 w3 u) → Hid (IsNum u v36 x) → Hid (IsNum u v40 y) → Hid (Zero3 u n6) → NN4 ≤ n6 → F4 3 L (Act.put (Act.put (Act.put A4 (some 6) (.pointer (some ⟨n6, 0, none⟩))) (some 36) v36) (some 40) v40) u := by
    intro L u v36 v40 n6 hLL HK I36 I40 Z6 g6
    subst hLL
    rw [← hF4.out, ← hA4.out]
    try simp only [Act.put, lt, ly, lu]
    refine wpAnyH_ready (rs := [9]) (by kernel_rfl) (by simp) (AllReadyH.cons (o := ?o9q226) ?e9q226 ?k9q226 AllReadyH.nil)
    case e9q226 => simp only [lg, lz, ls] <;> rfl
    case k9q226 =>
     intro K hK
     go_simp
     have hb2 := zero_below u
     have Z2 := zero3_at u
     have hsz := hgrow HK.out HSZ4
     have HK2 := hcall HK.out HSZ4 hb2
     refine hK.out _ _ ?_ (fun hHeld => ?_)
     · (try dsimp only); exact HK2.1
     clear hK K; try simp only [Act.put, lt, ly, lu]
     rw [hF4.out]
     exact st4_2_67.out _ _ v36 v40 n6 u.heap.size (by kernel_rfl) HK2 (I36.out.keep hb2) (I40.out.keep hb2) (at_keep Z6.out hb2) g6 Z2 hsz (Nat.ne_of_lt (at_lt Z6.out))
   try simp only [← hA4.out, Act.put, lt, ly, lu] at st4_2_6
   replace st4_2_6 := hid st4_2_6
   have st4_2_7 : ∀ (L : Array Bool) (u : World) (v36 v40 : Value) (n7 : Nat), L = #[true, true, true, true, true, true, true, true, false, true, false, false] → Hid (Held0 w3 NN4 w3 u) → Hid (IsNum u v36 x) → Hid (IsNum u v40 y) → Hid (Zero3 u n7) → NN4 ≤ n7 → F4 3 L (Act.put (Act.put (Act.put A4 (some 7) (.pointer (some ⟨n7, 0, none⟩))) (some 36) v36) (some 40) v40) u := by
    intro L u v36 v40 n7 hLL HK I36 I40 Z7 g7
    subst hLL
    rw [← hF4.out, ← hA4.out]
    try simp only [Act.put, lt, ly, lu]
    refine wpAnyH_ready (rs := [8]) (by kernel_rfl) (by simp) (AllReadyH.cons (o := ?o8q227) ?e8q227 ?k8q227 AllReadyH.nil)
    case e8q227 => simp only [lg, lz, ls] <;> rfl
    case k8q227 =>
     intro K hK
     go_simp
     have hb2 := zero_below u
     have Z2 := zero3_at u
     have hsz := hgrow HK.out HSZ4
     have HK2 := hcall HK.out HSZ4 hb2
     refine hK.out _ _ ?_ (fun hHeld => ?_)
     · (try dsimp only); exact HK2.1
     clear hK K; try simp only [Act.put, lt, ly, lu]
     rw [hF4.out]
     exact st4_2_67.out _ _ v36 v40 u.heap.size n7 (by kernel_rfl) HK2 (I36.out.keep hb2) (I40.out.keep hb2) Z2 hsz (at_keep Z7.out hb2) g7 (Nat.ne_of_gt (at_lt Z7.out))
   try simp only [← hA4.out, Act.put, lt, ly, lu] at st4_2_7
   replace st4_2_7 := hid st4_2_7
   have st4_2_n : ∀ (L : Array Bool) (u : World) (v36 v40 : Value), L = #[true, true, true, true, true, true, true, true, false, false, false, false] → Hid (Held0 w3 NN4 w3 u) → Hid (IsNum u v36 x) → Hid (IsNum u v40 y) → F4 4 L (Act.put (Act.put A4 (some 36) v36) (some 40) v40) u := by
    intro L u v36 v40 hLL HK I36 I40
    subst hLL
    rw [← hF4.out, ← hA4.out]
    try simp only [Act.put, lt, ly, lu]
    refine wpAnyH_ready (rs := [8, 9]) (by kernel_rfl) (by simp) (AllReadyH.cons (o := ?o8q228) ?e8q228 ?k8q228 (AllReadyH.cons (o := ?o9q228) ?e9q228 ?k9q228 AllReadyH.nil))
    case e8q228 => simp only [lg, lz, ls] <;> rfl
    case e9q228 => simp only [lg, lz, ls] <;> rfl
    case k8q228 =>
     intro K hK
     go_simp
     have hb2 := zero_below u
     have Z2 := zero3_at u
     have hsz := hgrow HK.out HSZ4
     have HK2 := hcall HK.out HSZ4 hb2
     refine hK.out _ _ ?_ (fun hHeld => ?_)
     · (try dsimp only); exact HK2.1
     clear hK K; try simp only [Act.put, lt, ly, lu]
     rw [hF4.out]
     exact st4_2_6.out _ _ v36 v40 u.heap.size (by kernel_rfl) HK2 (I36.out.keep hb2) (I40.out.keep hb2) Z2 hsz
    case k9q228 =>
     intro K hK
     go_simp
     have hb2 := zero_below u
     have Z2 := zero3_at u
     have hsz := hgrow HK.out HSZ4
     have HK2 := hcall HK.out HSZ4 hb2
     refine hK.out _ _ ?_ (fun hHeld => ?_)
     · (try dsimp only); exact HK2.1
     clear hK K; try simp only [Act.put, lt, ly, lu]
     rw [hF4.out]
     exact st4_2_7.out _ _ v36 v40 u.heap.size (by kernel_rfl) HK2 (I36.out.keep hb2) (I40.out.keep hb2) Z2 hsz
   try simp only [← hA4.out, Act.put, lt, ly, lu] at st4_2_n
   replace st4_2_n := hid st4_2_n
   have st4_1_67 : ∀ (L : Array Bool) (u : World) (v36 : Value) (n6 n7 : Nat), L = #[true, true, true, true, true, true, true, false, true, true, false, false] → Hid (Held0 w3 NN4 w3 u) → Hid (IsNum u v36 x) → Hid (Zero3 u n6) → NN4 ≤ n6 → Hid (Zero3 u n7) → NN4 ≤ n7 → n6 ≠ n7 → F4 3 L (Act.put (Act.put (Act.put A4 (some 6) (.pointer (some ⟨n6, 0, none⟩))) (some 7) (.pointer (some ⟨n7, 0, none⟩))) (some 36) v36) u := by
    intro L u v36 n6 n7 hLL HK I36 Z6 g6 Z7 g7 ne6_7
    subst hLL
    rw [← hF4.out, ← hA4.out]
    try simp only [Act.put, lt, ly, lu]
    refine wpAnyH_ready (rs := [7]) (by kernel_rfl) (by simp) (AllReadyH.cons (o := ?o7q229) ?e7q229 ?k7q229 AllReadyH.nil)
    case e7q229 => simp only [lg, lz, ls] <;> rfl
    case k7q229 =>
     intro K hK
     go_simp
     go_at_call 30
     refine (at_val e_y.out (HK.out.2.2.box II4.out) hn z_c.out z_d.out).mono ?_
     rintro e u2 ⟨v2, rfl, hv2, hb2⟩
     have HK2 := hcall HK.out HSZ4 hb2
     refine hK.out _ _ ?_ (fun hHeld => ?_)
     · (try dsimp only); exact HK2.1
     clear hK K; try simp only [Act.put, lt, ly, lu]
     rw [hF4.out]
     exact st4_2_67.out _ _ v36 v2 n6 n7 (by kernel_rfl) HK2 (I36.out.keep hb2) hv2 (at_keep Z6.out hb2) g6 (at_keep Z7.out hb2) g7 ne6_7
   try simp only [← hA4.out, Act.put, lt, ly, lu] at st4_1_67
   replace st4_1_67 := hid st4_1_67
   have st4_1_6 : ∀ (L : Array Bool) (u : World) (v36 : Value) (n6 : Nat), L = #[true, true, true, true, true, true, true, false, true, false, false, false] → Hid (Held0 w3 NN4 w3 u) → Hid (IsNum u v36 x) → Hid (Zero3 u n6) → NN4 ≤ n6 → F4 4 L (Act.put (Act.put A4 (some 6) (.pointer (some ⟨n6, 0, none⟩))) (some 36) v36) u := by
    intro L u v36 n6 hLL HK I36 Z6 g6
    subst hLL
    rw [← hF4.out, ← hA4.out]
    try simp only [Act.put, lt, ly, lu]
    refine wpAnyH_ready (rs := [7, 9]) (by kernel_rfl) (by simp) (AllReadyH.cons (o := ?o7q230) ?e7q230 ?k7q230 (AllReadyH.cons (o := ?o9q230) ?e9q230 ?k9q230 AllReadyH.nil))
    case e7q230 => simp only [lg, lz, ls] <;> rfl
    case e9q230 => simp only [lg, lz, ls] <;> rfl
    case k7q230 =>
     intro K hK
     go_simp
     go_at_call 30
     refine (at_val e_y.out (HK.out.2.2.box II4.out) hn z_c.out z_d.out).mono ?_
     rintro e u2 ⟨v2, rfl, hv2, hb2⟩
     have HK2 := hcall HK.out HSZ4 hb2
     refine hK.out _ _ ?_ (fun hHeld => ?_)
     · (try dsimp only); exact HK2.1
     clear hK K; try simp only [Act.put, lt, ly, lu]
     rw [hF4.out]
     exact st4_2_6.out _ _ v36 v2 n6 (by kernel_rfl) HK2 (I36.out.keep hb2) hv2 (at_keep Z6.out hb2) g6
    case k9q230 =>
     intro K hK
     go_simp
     have hb2 := zero_below u
     have Z2 := zero3_at u
     have hsz := hgrow HK.out HSZ4
     have HK2 := hcall HK.out HSZ4 hb2
     refine hK.out _ _ ?_ (fun hHeld => ?_)
     · (try dsimp only); exact HK2.1
     clear hK K; try simp only [Act.put, lt, ly, lu]
     rw [hF4.out]
     exact st4_1_67.out _ _ v36 n6 u.heap.size (by kernel_rfl) HK2 (I36.out.keep hb2) (at_keep Z6.out hb2) g6 Z2 hsz (Nat.ne_of_lt (at_lt Z6.out))
   try simp only [← hA4.out, Act.put, lt, ly, lu] at st4_1_6
   replace st4_1_6 := hid st4_1_6
   have st4_1_7 : ∀ (L : Array Bool) (u : World) (v36 : Value) (n7 : Nat), L = #[true, true, true, true, true, true, true, false, false, true, false, false] → Hid (Held0 w3 NN4 w3 u) → Hid (IsNum u v36 x) → Hid (Zero3 u n7) → NN4 ≤ n7 → F4 4 L (Act.put (Act.put A4 (some 7) (.pointer (some ⟨n7, 0, none⟩))) (some 36) v36) u := by
    intro L u v36 n7 hLL HK I36 Z7 g7
    subst hLL
    rw [← hF4.out, ← hA4.out]
    try simp only [Act.put, lt, ly, lu]
    refine wpAnyH_ready (rs := [7, 8]) (by kernel_rfl) (by simp) (AllReadyH.cons (o := ?o7q231) ?e7q231 ?k7q231 (AllReadyH.cons (o := ?o8q231) ?e8q231 ?k8q231 AllReadyH.nil))
    case e7q231 => simp only [lg, lz, ls] <;> rfl
    case e8q231 => simp only [lg, lz, ls] <;> rfl
    case k7q231 =>
     intro K hK
     go_simp
     go_at_call 30
     refine (at_val e_y.out (HK.out.2.2.box II4.out) hn z_c.out z_d.out).mono ?_
     rintro e u2 ⟨v2, rfl, hv2, hb2⟩
     have HK2 := hcall HK.out HSZ4 hb2
     refine hK.out _ _ ?_ (fun hHeld => ?_)
     · (try dsimp only); exact HK2.1
     clear hK K; try simp only [Act.put, lt, ly, lu]
     rw [hF4.out]
     exact st4_2_7.out _ _ v36 v2 n7 (by kernel_rfl) HK2 (I36.out.keep hb2) hv2 (at_keep Z7.out hb2) g7
    case k8q231 =>
     intro K hK
     go_simp
     have hb2 := zero_below u
     have Z2 := zero3_at u
     have hsz := hgrow HK.out HSZ4
     have HK2 := hcall HK.out HSZ4 hb2
     refine hK.out _ _ ?_ (fun hHeld => ?_)
     · (try dsimp only); exact HK2.1
     clear hK K; try simp only [Act.put, lt, ly, lu]
     rw [hF4.out]
     exact st4_1_67.out _ _ v36 u.heap.size n7 (by kernel_rfl) HK2 (I36.out.keep hb2) Z2 hsz (at_keep Z7.out hb2) g7 (Nat.ne_of_gt (at_lt Z7.out))
   try simp only [← hA4.out, Act.put, lt, ly, lu] at st4_1_7
   replace st4_1_7 := hid st4_1_7
   have st4_1_n : ∀ (L : Array Bool) (u : World) (v36 : Value), L = #[true, true, true, true, true, true, true, false, false, false, false, false] → Hid (Held0 w3 NN4 w3 u) → Hid (IsNum u v36 x) → F4 5 L (Act.put A4 (some 36) v36) u := by
    intro L u v36 hLL HK I36
    subst hLL
    rw [← hF4.out, ← hA4.out]
    try simp only [Act.put, lt, ly, lu]
    refine wpAnyH_ready (rs := [7, 8, 9]) (by kernel_rfl) (by simp) (AllReadyH.cons (o := ?o7q232) ?e7q232 ?k7q232 (AllReadyH.cons (o := ?o8q232) ?e8q232 ?k8q232 (AllReadyH.cons (o := ?o9q232) ?e9q232 ?k9q232 AllReadyH.nil)))
    case e7q232 => simp only [lg, lz, ls] <;> rfl
    case e8q232 => simp only [lg, lz, ls] <;> rfl
    case e9q232 => simp only [lg, lz, ls] <;> rfl
    case k7q232 =>
     intro K hK
     go_simp
     go_at_call 30
     refine (at_val e_y.out (HK.out.2.2.box II4.out) hn z_c.out z_d.out).mono ?_
     rintro e u2 ⟨v2, rfl, hv2, hb2⟩
     have HK2 := hcall HK.out HSZ4 hb2
     refine hK.out _ _ ?_ (fun hHeld => ?_)
     · (try dsimp only); exact HK2.1
     clear hK K; try simp only [Act.put, lt, ly, lu]
     rw [hF4.out]
     exact st4_2_n.out _ _ v36 v2 (by kernel_rfl) HK2 (I36.out.keep hb2) hv2
    case k8q232 =>
     intro K hK
     go_simp
     have hb2 := zero_below u
     have Z2 := zero3_at u
     have hsz := hgrow HK.out HSZ4
     have HK2 := hcall HK.out HSZ4 hb2
     refine hK.out _ _ ?_ (fun hHeld => ?_)
     · (try dsimp only); exact HK2.1
     clear hK K; try simp only [Act.put, lt, ly, lu]
     rw [hF4.out]
     exact st4_1_6.out _ _ v36 u.heap.size (by kernel_rfl) HK2 (I36.out.keep hb2) Z2 hsz
    case k9q232 =>
     intro K hK
     go_simp
     have hb2 := zero_below u
     have Z2 := zero3_at u
     have hsz := hgrow HK.out HSZ4
     have HK2 := hcall HK.out HSZ4 hb2
     refine hK.out _ _ ?_ (fun hHeld => ?_)
     · (try dsimp only); exact HK2.1
     clear hK K; try simp only [Act.put, lt, ly, lu]
     rw [hF4.out]
     exact st4_1_7.out _ _ v36 u.heap.size (by kernel_rfl) HK2 (I36.out.keep hb2) Z2 hsz
   try simp only [← hA4.out, Act.put, lt, ly, lu] at st4_1_n
   replace st4_1_n := hid st4_1_n
   have st4_0_67 : ∀ (L : Array Bool) (u : World) (n6 n7 : Nat), L = #[true, true, true, false, true, true, true, false, true, true, false, false] → Hid (Held0 w3 NN4 w3 u) → Hid (Zero3 u n6) → NN4 ≤ n6 → Hid (Zero3 u n7) → NN4 ≤ n7 → n6 ≠ n7 → F4 4 L (Act.put (Act.put A4 (some 6) (.pointer (some ⟨n6, 0, none⟩))) (some 7) (.pointer (some ⟨n7, 0, none⟩))) u := by
    intro L u n6 n7 hLL HK Z6 g6 Z7 g7 ne6_7
    subst hLL
    rw [← hF4.out, ← hA4.out]
    try simp only [Act.put, lt, ly, lu]
    refine wpAnyH_ready (rs := [3]) (by kernel_rfl) (by simp) (AllReadyH.cons (o := ?o3q233) ?e3q233 ?k3q233 AllReadyH.nil)
    case e3q233 => simp only [lg, lz, ls] <;> rfl
    case k3q233 =>
     intro K hK
     go_simp
     go_at_call 30
     refine (at_val e_x.out (HK.out.2.2.box II3_4.out) hm z_a.out z_b.out).mono ?_
     rintro e u2 ⟨v2, rfl, hv2, hb2⟩
     have HK2 := hcall HK.out HSZ4 hb2
     refine hK.out _ _ ?_ (fun hHeld => ?_)
     · (try dsimp only); exact HK2.1
     clear hK K; try simp only [Act.put, lt, ly, lu]
     rw [hF4.out]
     exact st4_1_67.out _ _ v2 n6 n7 (by kernel_rfl) HK2 hv2 (at_keep Z6.out hb2) g6 (at_keep Z7.out hb2) g7 ne6_7
   try simp only [← hA4.out, Act.put, lt, ly, lu] at st4_0_67
   replace st4_0_67 := hid st4_0_67
   have st4_0_6 : ∀ (L : Array Bool) (u : World) (n6 : Nat), L = #[true, true, true, false, true, true, true, false, true, false, false, false] → Hid (Held0 w3 NN4 w3 u) → Hid (Zero3 u n6) → NN4 ≤ n6 → F4 5 L (Act.put A4 (some 6) (.pointer (some ⟨n6, 0, none⟩))) u := by
    intro L u n6 hLL HK Z6 g6
    subst hLL
    rw [← hF4.out, ← hA4.out]
    try simp only [Act.put, lt, ly, lu]
    refine wpAnyH_ready (rs := [3, 9]) (by kernel_rfl) (by simp) (AllReadyH.cons (o := ?o3q234) ?e3q234 ?k3q234 (AllReadyH.cons (o := ?o9q234) ?e9q234 ?k9q234 AllReadyH.nil))
    case e3q234 => simp only [lg, lz, ls] <;> rfl
    case e9q234 => simp only [lg, lz, ls] <;> rfl
    case k3q234 =>
     intro K hK
     go_simp
     go_at_call 30
     refine (at_val e_x.out (HK.out.2.2.box II3_4.out) hm z_a.out z_b.out).mono ?_
     rintro e u2 ⟨v2, rfl, hv2, hb2⟩
     have HK2 := hcall HK.out HSZ4 hb2
     refine hK.out _ _ ?_ (fun hHeld => ?_)
     · (try dsimp only); exact HK2.1
     clear hK K; try simp only [Act.put, lt, ly, lu]
     rw [hF4.out]
     exact st4_1_6.out _ _ v2 n6 (by kernel_rfl) HK2 hv2 (at_keep Z6.out hb2) g6
    case k9q234 =>
     intro K hK
     go_simp
     have hb2 := zero_below u
     have Z2 := zero3_at u
     have hsz := hgrow HK.out HSZ4
     have HK2 := hcall HK.out HSZ4 hb2
     refine hK.out _ _ ?_ (fun hHeld => ?_)
     · (try dsimp only); exact HK2.1
     clear hK K; try simp only [Act.put, lt, ly, lu]
     rw [hF4.out]
     exact st4_0_67.out _ _ n6 u.heap.size (by kernel_rfl) HK2 (at_keep Z6.out hb2) g6 Z2 hsz (Nat.ne_of_lt (at_lt Z6.out))
   try simp only [← hA4.out, Act.put, lt, ly, lu] at st4_0_6
   replace st4_0_6 := hid st4_0_6
   have st4_0_7 : ∀ (L : Array Bool) (u : World) (n7 : Nat), L = #[true, true, true, false, true, true, true, false, false, true, false, false] → Hid (Held0 w3 NN4 w3 u) → Hid (Zero3 u n7) → NN4 ≤ n7 → F4 5 L (Act.put A4 (some 7) (.pointer (some ⟨n7, 0, none⟩))) u := by
    intro L u n7 hLL HK Z7 g7
    subst hLL
    rw [← hF4.out, ← hA4.out]
    try simp only [Act.put, lt, ly, lu]
    refine wpAnyH_ready (rs := [3, 8]) (by kernel_rfl) (by simp) (AllReadyH.cons (o := ?o3q235) ?e3q235 ?k3q235 (AllReadyH.cons (o := ?o8q235) ?e8q235 ?k8q235 AllReadyH.nil))
    case e3q235 => simp only [lg, lz, ls] <;> rfl
    case e8q235 => simp only [lg, lz, ls] <;> rfl
    case k3q235 =>
     intro K hK
     go_simp
     go_at_call 30
     refine (at_val e_x.out (HK.out.2.2.box II3_4.out) hm z_a.out z_b.out).mono ?_
     rintro e u2 ⟨v2, rfl, hv2, hb2⟩
     have HK2 := hcall HK.out HSZ4 hb2
     refine hK.out _ _ ?_ (fun hHeld => ?_)
     · (try dsimp only); exact HK2.1
     clear hK K; try simp only [Act.put, lt, ly, lu]
     rw [hF4.out]
     exact st4_1_7.out _ _ v2 n7 (by kernel_rfl) HK2 hv2 (at_keep Z7.out hb2) g7
    case k8q235 =>
     intro K hK
     go_simp
     have hb2 := zero_below u
     have Z2 := zero3_at u
     have hsz := hgrow HK.out HSZ4
     have HK2 := hcall HK.out HSZ4 hb2
     refine hK.out _ _ ?_ (fun hHeld => ?_)
     · (try dsimp only); exact HK2.1
     clear hK K; try simp only [Act.put, lt, ly, lu]
     rw [hF4.out]
     exact st4_0_67.out _ _ u.heap.size n7 (by kernel_rfl) HK2 Z2 hsz (at_keep Z7.out hb2) g7 (Nat.ne_of_gt (at_lt Z7.out))
   try simp only [← hA4.out, Act.put, lt, ly, lu] at st4_0_7
   replace st4_0_7 := hid st4_0_7
   have st4_0_n : ∀ (L : Array Bool) (u : World), L = #[true, true, true, false, true, true, true, false, false, false, false, false] → Hid (Held0 w3 NN4 w3 u) → F4 6 L A4 u := by
    intro L u  hLL HK
    subst hLL
    rw [← hF4.out, ← hA4.out]
    try simp only [Act.put, lt, ly, lu]
    refine wpAnyH_ready (rs := [3, 8, 9]) (by kernel_rfl) (by simp) (AllReadyH.cons (o := ?o3q236) ?e3q236 ?k3q236 (AllReadyH.cons (o := ?o8q236) ?e8q236 ?k8q236 (AllReadyH.cons (o := ?o9q236) ?e9q236 ?k9q236 AllReadyH.nil)))
    case e3q236 => simp only [lg, lz, ls] <;> rfl
    case e8q236 => simp only [lg, lz, ls] <;> rfl
    case e9q236 => simp only [lg, lz, ls] <;> rfl
    case k3q236 =>
     intro K hK
     go_simp
     go_at_call 30
     refine (at_val e_x.out (HK.out.2.2.box II3_4.out) hm z_a.out z_b.out).mono ?_
     rintro e u2 ⟨v2, rfl, hv2, hb2⟩
     have HK2 := hcall HK.out HSZ4 hb2
     refine hK.out _ _ ?_ (fun hHeld => ?_)
     · (try dsimp only); exact HK2.1
     clear hK K; try simp only [Act.put, lt, ly, lu]
     rw [hF4.out]
     exact st4_1_n.out _ _ v2 (by kernel_rfl) HK2 hv2
    case k8q236 =>
     intro K hK
     go_simp
     have hb2 := zero_below u
     have Z2 := zero3_at u
     have hsz := hgrow HK.out HSZ4
     have HK2 := hcall HK.out HSZ4 hb2
     refine hK.out _ _ ?_ (fun hHeld => ?_)
     · (try dsimp only); exact HK2.1
     clear hK K; try simp only [Act.put, lt, ly, lu]
     rw [hF4.out]
     exact st4_0_6.out _ _ u.heap.size (by kernel_rfl) HK2 Z2 hsz
    case k9q236 =>
     intro K hK
     go_simp
     have hb2 := zero_below u
     have Z2 := zero3_at u
     have hsz := hgrow HK.out HSZ4
     have HK2 := hcall HK.out HSZ4 hb2
     refine hK.out _ _ ?_ (fun hHeld => ?_)
     · (try dsimp only); exact HK2.1
     clear hK K; try simp only [Act.put, lt, ly, lu]
     rw [hF4.out]
     exact st4_0_7.out _ _ u.heap.size (by kernel_rfl) HK2 Z2 hsz
   try simp only [← hA4.out, Act.put, lt, ly, lu] at st4_0_n
   replace st4_0_n := hid st4_0_n
   have HA := hA4.out
   subst HA
   exact st4_0_n.out _ _ (by kernel_rfl) H0h
  try simp only [← hA3.out, Act.put, lt, ly, lu] at st3_2_34
  replace st3_2_34 := hid st3_2_34
  have st3_2_3 : ∀ (L : Array Bool) (u : World) (v25 v28 : Value) (n3 : Nat), L = #[true, true, true, true, true, true, true, true, true, true, true, false, false, false, false] → Hid (Held0 w2 NN3 w2 u) → Hid (IsBox u v25 a b) → Hid (IsBox u v28 c d) → Hid (Zero6 u n3) → NN3 ≤ n3 → F3 4 L (Act.put (Act.put (Act.put A3 (some 3) (.pointer (some ⟨n3, 0, none⟩))) (some 25) v25) (some 28) v28) u := by
   intro L u v25 v28 n3 hLL HK I25 I28 Z3 g3
   subst hLL
   rw [← hF3.out, ← hA3.out]
   try simp only [Act.put, lt, ly, lu]
   refine wpAnyH_ready (rs := [11]) (by kernel_rfl) (by simp) (AllReadyH.cons (o := ?o11q237) ?e11q237 ?k11q237 AllReadyH.nil)
   case e11q237 => simp only [lg, lz, ls] <;> rfl
   case k11q237 =>
    intro K hK
    go_simp
    have hb2 := zero6_below u
    have Z2 := zero6_at u
    have hsz := hgrow HK.out HSZ3
    have HK2 := hcall HK.out HSZ3 hb2
    refine hK.out _ _ ?_ (fun hHeld => ?_)
    · (try dsimp only); exact HK2.1
    clear hK K; try simp only [Act.put, lt, ly, lu]
    rw [hF3.out]
    exact st3_2_34.out _ _ v25 v28 n3 u.heap.size (by kernel_rfl) HK2 (I25.out.keep hb2) (I28.out.keep hb2) (at_keep Z3.out hb2) g3 Z2 hsz (Nat.ne_of_lt (at_lt Z3.out))
  try simp only [← hA3.out, Act.put, lt, ly, lu] at st3_2_3
  replace st3_2_3 := hid st3_2_3
  have st3_2_4 : ∀ (L : Array Bool) (u : World) (v25 v28 : Value) (n4 : Nat), L = #[true, true, true, true, true, true, true, true, true, true, false, true, false, false, false] → Hid (Held0 w2 NN3 w2 u) → Hid (IsBox u v25 a b) → Hid (IsBox u v28 c d) → Hid (Zero6 u n4) → NN3 ≤ n4 → F3 4 L (Act.put (Act.put (Act.put A3 (some 4) (.pointer (some ⟨n4, 0, none⟩))) (some 25) v25) (some 28) v28) u := by
   intro L u v25 v28 n4 hLL HK I25 I28 Z4 g4
   subst hLL
   rw [← hF3.out, ← hA3.out]
   try simp only [Act.put, lt, ly, lu]
   refine wpAnyH_ready (rs := [10]) (by kernel_rfl) (by simp) (AllReadyH.cons (o := ?o10q238) ?e10q238 ?k10q238 AllReadyH.nil)
   case e10q238 => simp only [lg, lz, ls] <;> rfl
   case k10q238 =>
    intro K hK
    go_simp
    have hb2 := zero6_below u
    have Z2 := zero6_at u
    have hsz := hgrow HK.out HSZ3
    have HK2 := hcall HK.out HSZ3 hb2
    refine hK.out _ _ ?_ (fun hHeld => ?_)
    · (try dsimp only); exact HK2.1
    clear hK K; try simp only [Act.put, lt, ly, lu]
    rw [hF3.out]
    exact st3_2_34.out _ _ v25 v28 u.heap.size n4 (by kernel_rfl) HK2 (I25.out.keep hb2) (I28.out.keep hb2) Z2 hsz (at_keep Z4.out hb2) g4 (Nat.ne_of_gt (at_lt Z4.out))
  try simp only [← hA3.out, Act.put, lt, ly, lu] at st3_2_4
  replace st3_2_4 := hid st3_2_4
  have st3_2_n : ∀ (L : Array Bool) (u : World) (v25 v28 : Value), L = #[true, true, true, true, true, true, true, true, true, true, false, false, false, false, false] → Hid (Held0 w2 NN3 w2 u) → Hid (IsBox u v25 a b) → Hid (IsBox u v28 c d) → F3 5 L (Act.put (Act.put A3 (some 25) v25) (some 28) v28) u := by
   intro L u v25 v28 hLL HK I25 I28
   subst hLL
   rw [← hF3.out, ← hA3.out]
   try simp only [Act.put, lt, ly, lu]
   refine wpAnyH_ready (rs := [10, 11]) (by kernel_rfl) (by simp) (AllReadyH.cons (o := ?o10q239) ?e10q239 ?k10q239 (AllReadyH.cons (o := ?o11q239) ?e11q239 ?k11q239 AllReadyH.nil))
   case e10q239 => simp only [lg, lz, ls] <;> rfl
   case e11q239 => simp only [lg, lz, ls] <;> rfl
   case k10q239 =>
    intro K hK
    go_simp
    have hb2 := zero6_below u
    have Z2 := zero6_at u
    have hsz := hgrow HK.out HSZ3
    have HK2 := hcall HK.out HSZ3 hb2
    refine hK.out _ _ ?_ (fun hHeld => ?_)
    · (try dsimp only); exact HK2.1
    clear hK K; try simp only [Act.put, lt, ly, lu]
    rw [hF3.out]
    exact st3_2_3.out _ _ v25 v28 u.heap.size (by kernel_rfl) HK2 (I25.out.keep hb2) (I28.out.keep hb2) Z2 hsz
   case k11q239 =>
    intro K hK
    go_simp
    have hb2 := zero6_below u
    have Z2 := zero6_at u
    have hsz := hgrow HK.out HSZ3
    have HK2 := hcall HK.out HSZ3 hb2
    refine hK.out _ _ ?_ (fun hHeld => ?_)
    · (try dsimp only); exact HK2.1
    clear hK K; try simp only [Act.put, lt, ly, lu]
    rw [hF3.out]
    exact st3_2_4.out _ _ v25 v28 u.heap.size (by kernel_rfl) HK2 (I25.out.keep hb2) (I28.out.keep hb2) Z2 hsz
  try simp only [← hA3.out, Act.put, lt, ly, lu] at st3_2_n
  replace st3_2_n := hid st3_2_n
  have st3_1_34 : ∀ (L : Array Bool) (u : World) (v25 : Value) (n3 n4 : Nat), L = #[true, true, true, true, true, false, true, true, true, true, true, true, false, false, false] → Hid (Held0 w2 NN3 w2 u) → Hid (IsBox u v25 a b) → Hid (Zero6 u n3) → NN3 ≤ n3 → Hid (Zero6 u n4) → NN3 ≤ n4 → n3 ≠ n4 → F3 4 L (Act.put (Act.put (Act.put A3 (some 3) (.pointer (some ⟨n3, 0, none⟩))) (some 4) (.pointer (some ⟨n4, 0, none⟩))) (some 25) v25) u := by
   intro L u v25 n3 n4 hLL HK I25 Z3 g3 Z4 g4 ne3_4
   subst hLL
   rw [← hF3.out, ← hA3.out]
   try simp only [Act.put, lt, ly, lu]
   refine wpAnyH_ready (rs := [5]) (by kernel_rfl) (by simp) (AllReadyH.cons (o := ?o5q240) ?e5q240 ?k5q240 AllReadyH.nil)
   case e5q240 => simp only [lg, lz, ls] <;> rfl
   case k5q240 =>
    intro K hK
    go_simp
    go_at_call 29
    refine (box_to (cell_keep HMB2.out (below_eq HK.out.2.1 HSZ3.out)) ep3.out ep4.out l2.out h2.out).mono ?_
    rintro e u2 ⟨v2, rfl, hv2, hb2⟩
    have HK2 := hcall HK.out HSZ3 hb2
    refine hK.out _ _ ?_ (fun hHeld => ?_)
    · (try dsimp only); exact HK2.1
    clear hK K; try simp only [Act.put, lt, ly, lu]
    rw [hF3.out]
    exact st3_2_34.out _ _ v25 v2 n3 n4 (by kernel_rfl) HK2 (I25.out.keep hb2) hv2 (at_keep Z3.out hb2) g3 (at_keep Z4.out hb2) g4 ne3_4
  try simp only [← hA3.out, Act.put, lt, ly, lu] at st3_1_34
  replace st3_1_34 := hid st3_1_34
  have st3_1_3 : ∀ (L : Array Bool) (u : World) (v25 : Value) (n3 : Nat), L = #[true, true, true, true, true, false, true, true, true, true, true, false, false, false, false] → Hid (Held0 w2 NN3 w2 u) → Hid (IsBox u v25 a b) → Hid (Zero6 u n3) → NN3 ≤ n3 → F3 5 L (Act.put (Act.put A3 (some 3) (.pointer (some ⟨n3, 0, none⟩))) (some 25) v25) u := by
   intro L u v25 n3 hLL HK I25 Z3 g3
   subst hLL
   rw [← hF3.out, ← hA3.out]
   try simp only [Act.put, lt, ly, lu]
   refine wpAnyH_ready (rs := [5, 11]) (by kernel_rfl) (by simp) (AllReadyH.cons (o := ?o5q241) ?e5q241 ?k5q241 (AllReadyH.cons (o := ?o11q241) ?e11q241 ?k11q241 AllReadyH.nil))
   case e5q241 => simp only [lg, lz, ls] <;> rfl
   case e11q241 => simp only [lg, lz, ls] <;> rfl
   case k5q241 =>
    intro K hK
    go_simp
    go_at_call 29
    refine (box_to (cell_keep HMB2.out (below_eq HK.out.2.1 HSZ3.out)) ep3.out ep4.out l2.out h2.out).mono ?_
    rintro e u2 ⟨v2, rfl, hv2, hb2⟩
    have HK2 := hcall HK.out HSZ3 hb2
    refine hK.out _ _ ?_ (fun hHeld => ?_)
    · (try dsimp only); exact HK2.1
    clear hK K; try simp only [Act.put, lt, ly, lu]
    rw [hF3.out]
    exact st3_2_3.out _ _ v25 v2 n3 (by kernel_rfl) HK2 (I25.out.keep hb2) hv2 (at_keep Z3.out hb2) g3
   case k11q241 =>
    intro K hK
    go_simp
    have hb2 := zero6_below u
    have Z2 := zero6_at u
    have hsz := hgrow HK.out HSZ3
    have HK2 := hcall HK.out HSZ3 hb2
    refine hK.out _ _ ?_ (fun hHeld => ?_)
    · (try dsimp only); exact HK2.1
    clear hK K; try simp only [Act.put, lt, ly, lu]
    rw [hF3.out]
    exact st3_1_34.out _ _ v25 n3 u.heap.size (by kernel_rfl) HK2 (I25.out.keep hb2) (at_keep Z3.out hb2) g3 Z2 hsz (Nat.ne_of_lt (at_lt Z3.out))
  try simp only [← hA3.out, Act.put, lt, ly, lu] at st3_1_3
  replace st3_1_3 := hid st3_1_3
  have st3_1_4 : ∀ (L : Array Bool) (u : World) (v25 : Value) (n4 : Nat), L = #[true, true, true, true, true, false, true, true, true, true, false, true, false, false, false] → Hid (Held0 w2 NN3 w2 u) → Hid (IsBox u v25 a b) → Hid (Zero6 u n4) → NN3 ≤ n4 → F3 5 L (Act.put (Act.put A3 (some 4) (.pointer (some ⟨n4, 0, none⟩))) (some 25) v25) u := by
   intro L u v25 n4 hLL HK I25 Z4 g4
   subst hLL
   rw [← hF3.out, ← hA3.out]
   try simp only [Act.put, lt, ly, lu]
   refine wpAnyH_ready (rs := [5, 10]) (by kernel_rfl) (by simp) (AllReadyH.cons (o := ?o5q242) ?e5q242 ?k5q242 (AllReadyH.cons (o := ?o10q242) ?e10q242 ?k10q242 AllReadyH.nil))
   case e5q242 => simp only [lg, lz, ls] <;> rfl
   case e10q242 => simp only [lg, lz, ls] <;> rfl
   case k5q242 =>
    intro K hK
    go_simp
    go_at_call 29
    refine (box_to (cell_keep HMB2.out (below_eq HK.out.2.1 HSZ3.out)) ep3.out ep4.out l2.out h2.out).mono ?_
    rintro e u2 ⟨v2, rfl, hv2, hb2⟩
    have HK2 := hcall HK.out HSZ3 hb2
    refine hK.out _ _ ?_ (fun hHeld => ?_)
    · (try dsimp only); exact HK2.1
    clear hK K; try simp only [Act.put, lt, ly, lu]
    rw [hF3.out]
    exact st3_2_4.out _ _ v25 v2 n4 (by kernel_rfl) HK2 (I25.out.keep hb2) hv2 (at_keep Z4.out hb2) g4
   case k10q242 =>
    intro K hK
    go_simp
    have hb2 := zero6_below u
    have Z2 := zero6_at u
    have hsz := hgrow HK.out HSZ3
    have HK2 := hcall HK.out HSZ3 hb2
    refine hK.out _ _ ?_ (fun hHeld => ?_)
    · (try dsimp only); exact HK2.1
    clear hK K; try simp only [Act.put, lt, ly, lu]
    rw [hF3.out]
    exact st3_1_34.out _ _ v25 u.heap.size n4 (by kernel_rfl) HK2 (I25.out.keep hb2) Z2 hsz (at_keep Z4.out hb2) g4 (Nat.ne_of_gt (at_lt Z4.out))
  try simp only [← hA3.out, Act.put, lt, ly, lu] at st3_1_4
  replace st3_1_4 := hid st3_1_4
  have st3_1_n : ∀ (L : Array Bool) (u : World) (v25 : Value), L = #[true, true, true, true, true, false, true, true, true, true, false, false, false, false, false] → Hid (Held0 w2 NN3 w2 u) → Hid (IsBox u v25 a b) → F3 6 L (Act.put A3 (some 25) v25) u := by
   intro L u v25 hLL HK I25
   subst hLL
   rw [← hF3.out, ← hA3.out]
   try simp only [Act.put, lt, ly, lu]
   refine wpAnyH_ready (rs := [5, 10, 11]) (by kernel_rfl) (by simp) (AllReadyH.cons (o := ?o5q243) ?e5q243 ?k5q243 (AllReadyH.cons (o := ?o10q243) ?e10q243 ?k10q243 (AllReadyH.cons (o := ?o11q243) ?e11q243 ?k11q243 AllReadyH.nil)))
   case e5q243 => simp only [lg, lz, ls] <;> rfl
   case e10q243 => simp only [lg, lz, ls] <;> rfl
   case e11q243 => simp only [lg, lz, ls] <;> rfl
   case k5q243 =>
    intro K hK
    go_simp
    go_at_call 29
    refine (box_to (cell_keep HMB2.out (below_eq HK.out.2.1 HSZ3.out)) ep3.out ep4.out l2.out h2.out).mono ?_
    rintro e u2 ⟨v2, rfl, hv2, hb2⟩
    have HK2 := hcall HK.out HSZ3 hb2
    refine hK.out _ _ ?_ (fun hHeld => ?_)
    · (try dsimp only); exact HK2.1
    clear hK K; try simp only [Act.put, lt, ly, lu]
    rw [hF3.out]
    exact st3_2_n.out _ _ v25 v2 (by kernel_rfl) HK2 (I25.out.keep hb2) hv2
   case k10q243 =>
    intro K hK
    go_simp
    have hb2 := zero6_below u
    have Z2 := zero6_at u
    have hsz := hgrow HK.out HSZ3
    have HK2 := hcall HK.out HSZ3 hb2
    refine hK.out _ _ ?_ (fun hHeld => ?_)
    · (try dsimp only); exact HK2.1
    clear hK K; try simp only [Act.put, lt, ly, lu]
    rw [hF3.out]
    exact st3_1_3.out _ _ v25 u.heap.size (by kernel_rfl) HK2 (I25.out.keep hb2) Z2 hsz
   case k11q243 =>
    intro K hK
    go_simp
    have hb2 := zero6_below u
    have Z2 := zero6_at u
    have hsz := hgrow HK.out HSZ3
    have HK2 := hcall HK.out HSZ3 hb2
    refine hK.out _ _ ?_ (fun hHeld => ?_)
    · (try dsimp only); exact HK2.1
    clear hK K; try simp only [Act.put, lt, ly, lu]
    rw [hF3.out]
    exact st3_1_4.out _ _ v25 u.heap.size (by kernel_rfl) HK2 (I25.out.keep hb2) Z2 hsz
  try simp only [← hA3.out, Act.put, lt, ly, lu] at st3_1_n
  replace st3_1_n := hid st3_1_n
  have st3_0_34 : ∀ (L : Array Bool) (u : World) (n3 n4 : Nat), L = #[true, true, false, true, true, false, true, true, true, true, true, true, false, false, false] → Hid (Held0 w2 NN3 w2 u) → Hid (Zero6 u n3) → NN3 ≤ n3 → Hid (Zero6 u n4) → NN3 ≤ n4 → n3 ≠ n4 → F3 5 L (Act.put (Act.put A3 (some 3) (.pointer (some ⟨n3, 0, none⟩))) (some 4) (.pointer (some ⟨n4, 0, none⟩))) u := by
   intro L u n3 n4 hLL HK Z3 g3 Z4 g4 ne3_4
   subst hLL
   rw [← hF3.out, ← hA3.out]
   try simp only [Act.put, lt, ly, lu]
   refine wpAnyH_ready (rs := [2]) (by kernel_rfl) (by simp) (AllReadyH.cons (o := ?o2q244) ?e2q244 ?k2q244 AllReadyH.nil)
   case e2q244 => simp only [lg, lz, ls] <;> rfl
   case k2q244 =>
    intro K hK
    go_simp
    go_at_call 29
    refine (box_to (cell_keep HMB2.out (below_eq HK.out.2.1 HSZ3.out)) ep1.out ep2.out l1.out h1.out).mono ?_
    rintro e u2 ⟨v2, rfl, hv2, hb2⟩
    have HK2 := hcall HK.out HSZ3 hb2
    refine hK.out _ _ ?_ (fun hHeld => ?_)
    · (try dsimp only); exact HK2.1
    clear hK K; try simp only [Act.put, lt, ly, lu]
    rw [hF3.out]
    exact st3_1_34.out _ _ v2 n3 n4 (by kernel_rfl) HK2 hv2 (at_keep Z3.out hb2) g3 (at_keep Z4.out hb2) g4 ne3_4
  try simp only [← hA3.out, Act.put, lt, ly, lu] at st3_0_34
  replace st3_0_34 := hid st3_0_34
  have st3_0_3 : ∀ (L : Array Bool) (u : World) (n3 : Nat), L = #[true, true, false, true, true, false, true, true, true, true, true, false, false, false, false] → Hid (Held0 w2 NN3 w2 u) → Hid (Zero6 u n3) → NN3 ≤ n3 → F3 6 L (Act.put A3 (some 3) (.pointer (some ⟨n3, 0, none⟩))) u := by
   intro L u n3 hLL HK Z3 g3
   subst hLL
   rw [← hF3.out, ← hA3.out]
   try simp only [Act.put, lt, ly, lu]
   refine wpAnyH_ready (rs := [2, 11]) (by kernel_rfl) (by simp) (AllReadyH.cons (o := ?o2q245) ?e2q245 ?k2q245 (AllReadyH.cons (o := ?o11q245) ?e11q245 ?k11q245 AllReadyH.nil))
   case e2q245 => simp only [lg, lz, ls] <;> rfl
   case e11q245 => simp only [lg, lz, ls] <;> rfl
   case k2q245 =>
    intro K hK
    go_simp
    go_at_call 29
    refine (box_to (cell_keep HMB2.out (below_eq HK.out.2.1 HSZ3.out)) ep1.out ep2.out l1.out h1.out).mono ?_
    rintro e u2 ⟨v2, rfl, hv2, hb2⟩
    have HK2 := hcall HK.out HSZ3 hb2
    refine hK.out _ _ ?_ (fun hHeld => ?_)
    · (try dsimp only); exact HK2.1
    clear hK K; try simp only [Act.put, lt, ly, lu]
    rw [hF3.out]
    exact st3_1_3.out _ _ v2 n3 (by kernel_rfl) HK2 hv2 (at_keep Z3.out hb2) g3
   case k11q245 =>
    intro K hK
    go_simp
    have hb2 := zero6_below u
    have Z2 := zero6_at u
    have hsz := hgrow HK.out HSZ3
    have HK2 := hcall HK.out HSZ3 hb2
    refine hK.out _ _ ?_ (fun hHeld => ?_)
    · (try dsimp only); exact HK2.1
    clear hK K; try simp only [Act.put, lt, ly, lu]
    rw [hF3.out]
    exact st3_0_34.out _ _ n3 u.heap.size (by kernel_rfl) HK2 (at_keep Z3.out hb2) g3 Z2 hsz (Nat.ne_of_lt (at_lt Z3.out))
  try simp only [← hA3.out, Act.put, lt, ly, lu] at st3_0_3
  replace st3_0_3 := hid st3_0_3
  have st3_0_4 : ∀ (L : Array Bool) (u : World) (n4 : Nat), L = #[true, true, false, true, true, false, true, true, true, true, false, true, false, false, false] → Hid (Held0 w2 NN3 w2 u) → Hid (Zero6 u n4) → NN3 ≤ n4 → F3 6 L (Act.put A3 (some 4) (.pointer (some ⟨n4, 0, none⟩))) u := by
   intro L u n4 hLL HK Z4 g4
   subst hLL
   rw [← hF3.out, ← hA3.out]
   try simp only [Act.put, lt, ly, lu]
   refine wpAnyH_ready (rs := [2, 10]) (by kernel_rfl) (by simp) (AllReadyH.cons (o := ?o2q246) ?e2q246 ?k2q246 (AllReadyH.cons (o := ?o10q246) ?e10q246 ?k10q246 AllReadyH.nil))
   case e2q246 => simp only [lg, lz, ls] <;> rfl
   case e10q246 => simp only [lg, lz, ls] <;> rfl
   case k2q246 =>
    intro K hK
    go_simp
    go_at_call 29
    refine (box_to (cell_keep HMB2.out (below_eq HK.out.2.1 HSZ3.out)) ep1.out ep2.out l1.out h1.out).mono ?_
    rintro e u2 ⟨v2, rfl, hv2, hb2⟩
    have HK2 := hcall HK.out HSZ3 hb2
    refine hK.out _ _ ?_ (fun hHeld => ?_)
    · (try dsimp only); exact HK2.1
    clear hK K; try simp only [Act.put, lt, ly, lu]
    rw [hF3.out]
    exact st3_1_4.out _ _ v2 n4 (by kernel_rfl) HK2 hv2 (at_keep Z4.out hb2) g4
   case k10q246 =>
    intro K hK
    go_simp
    have hb2 := zero6_below u
    have Z2 := zero6_at u
    have hsz := hgrow HK.out HSZ3
    have HK2 := hcall HK.out HSZ3 hb2
    refine hK.out _ _ ?_ (fun hHeld => ?_)
    · (try dsimp only); exact HK2.1
    clear hK K; try simp only [Act.put, lt, ly, lu]
    rw [hF3.out]
    exact st3_0_34.out _ _ u.heap.size n4 (by kernel_rfl) HK2 Z2 hsz (at_keep Z4.out hb2) g4 (Nat.ne_of_gt (at_lt Z4.out))
  try simp only [← hA3.out, Act.put, lt, ly, lu] at st3_0_4
  replace st3_0_4 := hid st3_0_4
  have st3_0_n : ∀ (L : Array Bool) (u : World), L = #[true, true, false, true, true, false, true, true, true, true, false, false, false, false, false] → Hid (Held0 w2 NN3 w2 u) → F3 7 L A3 u := by
   intro L u  hLL HK
   subst hLL
   rw [← hF3.out, ← hA3.out]
   try simp only [Act.put, lt, ly, lu]
   refine wpAnyH_ready (rs := [2, 10, 11]) (by kernel_rfl) (by simp) (AllReadyH.cons (o := ?o2q247) ?e2q247 ?k2q247 (AllReadyH.cons (o := ?o10q247) ?e10q247 ?k10q247 (AllReadyH.cons (o := ?o11q247) ?e11q247 ?k11q247 AllReadyH.nil)))
   case e2q247 => simp only [lg, lz, ls] <;> rfl
   case e10q247 => simp only [lg, lz, ls] <;> rfl
   case e11q247 => simp only [lg, lz, ls] <;> rfl
   case k2q247 =>
    intro K hK
    go_simp
    go_at_call 29
    refine (box_to (cell_keep HMB2.out (below_eq HK.out.2.1 HSZ3.out)) ep1.out ep2.out l1.out h1.out).mono ?_
    rintro e u2 ⟨v2, rfl, hv2, hb2⟩
    have HK2 := hcall HK.out HSZ3 hb2
    refine hK.out _ _ ?_ (fun hHeld => ?_)
    · (try dsimp only); exact HK2.1
    clear hK K; try simp only [Act.put, lt, ly, lu]
    rw [hF3.out]
    exact st3_1_n.out _ _ v2 (by kernel_rfl) HK2 hv2
   case k10q247 =>
    intro K hK
    go_simp
    have hb2 := zero6_below u
    have Z2 := zero6_at u
    have hsz := hgrow HK.out HSZ3
    have HK2 := hcall HK.out HSZ3 hb2
    refine hK.out _ _ ?_ (fun hHeld => ?_)
    · (try dsimp only); exact HK2.1
    clear hK K; try simp only [Act.put, lt, ly, lu]
    rw [hF3.out]
    exact st3_0_3.out _ _ u.heap.size (by kernel_rfl) HK2 Z2 hsz
   case k11q247 =>
    intro K hK
    go_simp
    have hb2 := zero6_below u
    have Z2 := zero6_at u
    have hsz := hgrow HK.out HSZ3
    have HK2 := hcall HK.out HSZ3 hb2
    refine hK.out _ _ ?_ (fun hHeld => ?_)
    · (try dsimp only); exact HK2.1
    clear hK K; try simp only [Act.put, lt, ly, lu]
    rw [hF3.out]
    exact st3_0_4.out _ _ u.heap.size (by kernel_rfl) HK2 Z2 hsz
  try simp only [← hA3.out, Act.put, lt, ly, lu] at st3_0_n
  replace st3_0_n := hid st3_0_n
  have HA := hA3.out
  subst HA
  exact st3_0_n.out _ _ (by kernel_rfl) H0h

theorem holds_any {w : World} {s1 s2 s3 s4 s5 s6 : ByteArray} {m n p : Nat} {mx : Int} (hm : m ≤ 255) (hn : n ≤ 255) (hp : p ≤ 255) (hM : w.cell? ⟨1, 0, none⟩ = some (.int .i64 mx)) (hT : TabAt 0 Lib.deBruijn64tab w) :
    Calls Tryz.prog 6 #[.agg #[.string s1, .string s2, .string s3, .string s4, .string s5, .string s6, .int .u8 (m : Nat), .int .u8 (n : Nat), .int .u8 (p : Nat)]] w (BoolRet w true) := by
  rcases hw : [s1, s2, s3, s4, s5, s6].any (fun s => decide (40 < s.size)) with _ | _
  · exact holds_main rfl rfl rfl rfl rfl rfl rfl rfl hw hm hn hp hM hT
  · exact holds_wide hw hM hT
end Go.Proofs.YtlffafddmmhbmaaGreatDoor
