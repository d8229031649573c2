/-
  Contracts of the functions that the law calls, for every input (GrA).
-/
import Derived.Test.YtpfnckhfklgoaaaGreatDoorP03
set_option linter.all false
namespace Go.Proofs.YtpfnckhfklgoaaaGreatDoor
open Go.RowKit
open Vx
open Lib (hid)
open List renaming getElem?_toArray → lg, getElem?_cons_zero → lz, getElem?_cons_succ → ls, setIfInBounds_toArray → lt, set_cons_zero → ly, set_cons_succ → lu

theorem wp_letter {P : Program} {c : Code} {Q : Exit → Act → World → Prop} {a : Act} {w : World} (h : ∀ A0, a = A0 → c.wp P Q A0 w) : c.wp P Q a w := h _ rfl
theorem cmpQ_zero {x y : Rat} : cmpQ x y = 0 ↔ x = y := by
  have h1 := cmpQ_lt0 (x := x) (y := y)
  have h2 := cmpQ_gt0 (x := x) (y := y)
  constructor
  · intro h
    have i1 : ¬ x < y := fun k => by have := h1.2 k; omega
    have i2 : ¬ y < x := fun k => by have := h2.2 k; omega
    grind
  · rintro rfl
    exact cmpQ_same x

set_option maxRecDepth 100000 in
set_option maxHeartbeats 40000000 in
theorem grows_wide {w : World} {s1 s2 s3 s4 s5 s6 : ByteArray} {m n p : Nat} {mx : Int} (hw : [s1, s2, s3, s4, s5, s6].any (fun s => decide (40 < s.size)) = true) (hM : w.cell? ⟨1, 0, none⟩ = some (.int .i64 mx)) (hT : TabAt 0 Lib.deBruijn64tab w) :
    Calls Tryz.prog 7 #[.agg #[.string s1, .string s2, .string s3, .string s4, .string s5, .string s6, .int .u8 (m : Nat), .int .u8 (n : Nat), .int .u8 (p : Nat)]] w (BoolRet w true) := by
  replace hM := hid hM
  replace hT := hid hT
  replace hw := hid hw
  obtain ⟨w1, hw1⟩ : ∃ u, u = w.alloc (.cells #[.string s1, .string s2, .string s3, .string s4, .string s5, .string s6, .int .u8 (m : Nat), .int .u8 (n : Nat), .int .u8 (p : Nat)] 50) := ⟨_, rfl⟩
  have b1 : Hid (Below w.heap.size w w1) := by rw [hw1]; exact (Below.refl _ _).alloc (Nat.le_refl _) _
  have L1 : Hid (w1.heap[w.heap.size]? = some (.cells #[.string s1, .string s2, .string s3, .string s4, .string s5, .string s6, .int .u8 (m : Nat), .int .u8 (n : Nat), .int .u8 (p : Nat)] 50 (0, 0))) := by rw [hw1]; exact heap_alloc_new w _
  have hg : w1.heap[w.heap.size]? = some (.cells #[.string s1, .string s2, .string s3, .string s4, .string s5, .string s6, .int .u8 (m : Nat), .int .u8 (n : Nat), .int .u8 (p : Nat)] 50 (0, 0)) := ((Below.refl _ w1).block _ (Array.getElem?_eq_some_iff.1 L1.out).1).trans L1.out
  have z_pair_0 : w1.cell? ⟨w.heap.size, 0, none⟩ = some (.string s1) := cell_of_row _ _ _ _ _ _ hg
  have z_pair_1 : w1.cell? ⟨w.heap.size, 1, none⟩ = some (.string s2) := cell_of_row _ _ _ _ _ _ hg
  have z_pair_2 : w1.cell? ⟨w.heap.size, 2, none⟩ = some (.string s3) := cell_of_row _ _ _ _ _ _ hg
  have z_pair_3 : w1.cell? ⟨w.heap.size, 3, none⟩ = some (.string s4) := cell_of_row _ _ _ _ _ _ hg
  have z_pair_4 : w1.cell? ⟨w.heap.size, 4, none⟩ = some (.string s5) := cell_of_row _ _ _ _ _ _ hg
  have z_pair_5 : w1.cell? ⟨w.heap.size, 5, none⟩ = some (.string s6) := cell_of_row _ _ _ _ _ _ hg
  have z_pair_6 : w1.cell? ⟨w.heap.size, 6, none⟩ = some (.int .u8 (m : Nat)) := cell_of_row _ _ _ _ _ _ hg
  have z_pair_7 : w1.cell? ⟨w.heap.size, 7, none⟩ = some (.int .u8 (n : Nat)) := cell_of_row _ _ _ _ _ _ hg
  have z_pair_8 : w1.cell? ⟨w.heap.size, 8, none⟩ = some (.int .u8 (p : Nat)) := cell_of_row _ _ _ _ _ _ hg
  clear hg
  go_enter Tryz.func7, Tryz.ntmps7
  go_upto_region 1 with fail
  rw [← hw1]
  clear hw1
  have HX := hid (wide_val (w := w1) (m := m) (n := n) (p := p) hw.out)
  go_wp2_with fail
  refine (HX.out).mono ?_
  rintro e w2 ⟨rfl, b2⟩
  replace b2 := hid b2
  clear HX
  clear z_pair_0 z_pair_1 z_pair_2 z_pair_3 z_pair_4 z_pair_5 z_pair_6 z_pair_7 z_pair_8
  have HX := hid (known_any (cell_keep hM.out (Below.step b1.out b2.out)) (tab_keep hT.out (Below.step b1.out b2.out)))
  go_wp2_with fail
  refine (HX.out).mono ?_
  rintro e w3 ⟨rfl, b3⟩
  replace b3 := hid b3
  clear HX
  have HE := hid (Below.step (Below.step b1.out b2.out) b3.out)
  go_wp2_with fail
  go_ret
  exact ⟨rfl, HE.out⟩

set_option maxRecDepth 100000 in
set_option maxHeartbeats 40000000 in
theorem grows_main {w : World} {s1 s2 s3 s4 s5 s6 : ByteArray} {m n p : Nat} {mx : Int} {p1 p2 p3 p4 p5 p6 a b c d e f : Rat} (ep1 : (parseV s1).1 = p1) (ep2 : (parseV s2).1 = p2) (ep3 : (parseV s3).1 = p3) (ep4 : (parseV s4).1 = p4) (ep5 : (parseV s5).1 = p5) (ep6 : (parseV s6).1 = p6) (l1 : a = if p2 < p1 then p2 else p1) (h1 : b = if p2 < p1 then p1 else p2) (l2 : c = if p4 < p3 then p4 else p3) (h2 : d = if p4 < p3 then p3 else p4) (l3 : e = if p6 < p5 then p6 else p5) (h3 : f = if p6 < p5 then p5 else p6) (hw : [s1, s2, s3, s4, s5, s6].any (fun s => decide (40 < s.size)) = false) (hm : m ≤ 255) (hn : n ≤ 255) (hM : w.cell? ⟨1, 0, none⟩ = some (.int .i64 mx)) (hT : TabAt 0 Lib.deBruijn64tab w) :
    Calls Tryz.prog 7 #[.agg #[.string s1, .string s2, .string s3, .string s4, .string s5, .string s6, .int .u8 (m : Nat), .int .u8 (n : Nat), .int .u8 (p : Nat)]] w (BoolRet w true) := by
  obtain ⟨zz_a, zz_b, hab⟩ := siz_box ep1 ep2 l1 h1
  obtain ⟨zz_c, zz_d, hcd⟩ := siz_box ep3 ep4 l2 h2
  obtain ⟨zz_e, zz_f, hef⟩ := siz_box ep5 ep6 l3 h3
  obtain ⟨A, e_A⟩ : ∃ z : Rat, leastOf a [b, e, f] = z := ⟨_, rfl⟩
  obtain ⟨B, e_B⟩ : ∃ z : Rat, greatestOf a [b, e, f] = z := ⟨_, rfl⟩
  obtain ⟨i1, i2, i3, i4, i5, i6, i7⟩ := gr_facts hab hcd hef e_A e_B
  obtain ⟨jh1, jh2, jh3, jh4, jh5, jh6⟩ := hull_is hab hef e_A e_B
  have zz_A : siz A ≤ 4100 := siz_l4 e_A zz_a zz_b zz_e zz_f
  have zz_B : siz B ≤ 4100 := siz_g4 e_B zz_a zz_b zz_e zz_f
  obtain ⟨ac, e_ac⟩ : ∃ z : Rat, a + c = z := ⟨_, rfl⟩
  obtain ⟨bd, e_bd⟩ : ∃ z : Rat, b + d = z := ⟨_, rfl⟩
  obtain ⟨Ac, e_Ac⟩ : ∃ z : Rat, A + c = z := ⟨_, rfl⟩
  obtain ⟨Bd, e_Bd⟩ : ∃ z : Rat, B + d = z := ⟨_, rfl⟩
  obtain ⟨ad, e_ad⟩ : ∃ z : Rat, a - d = z := ⟨_, rfl⟩
  obtain ⟨bc, e_bc⟩ : ∃ z : Rat, b - c = z := ⟨_, rfl⟩
  obtain ⟨Ad, e_Ad⟩ : ∃ z : Rat, A - d = z := ⟨_, rfl⟩
  obtain ⟨Bc, e_Bc⟩ : ∃ z : Rat, B - c = z := ⟨_, rfl⟩
  obtain ⟨cb, e_cb⟩ : ∃ z : Rat, c - b = z := ⟨_, rfl⟩
  obtain ⟨da, e_da⟩ : ∃ z : Rat, d - a = z := ⟨_, rfl⟩
  obtain ⟨cB, e_cB⟩ : ∃ z : Rat, c - B = z := ⟨_, rfl⟩
  obtain ⟨dA, e_dA⟩ : ∃ z : Rat, d - A = z := ⟨_, rfl⟩
  rw [e_ac, e_bd, e_Ac, e_Bd] at i3
  rw [e_ad, e_bc, e_Ad, e_Bc] at i4
  rw [e_cb, e_da, e_cB, e_dA] at i5
  obtain ⟨m1, e_m1⟩ : ∃ z : Rat, leastOf (a * c) [a * d, b * c, b * d] = z := ⟨_, rfl⟩
  obtain ⟨m2, e_m2⟩ : ∃ z : Rat, greatestOf (a * c) [a * d, b * c, b * d] = z := ⟨_, rfl⟩
  obtain ⟨M1, e_M1⟩ : ∃ z : Rat, leastOf (A * c) [A * d, B * c, B * d] = z := ⟨_, rfl⟩
  obtain ⟨M2, e_M2⟩ : ∃ z : Rat, greatestOf (A * c) [A * d, B * c, B * d] = z := ⟨_, rfl⟩
  obtain ⟨v1, e_v1⟩ : ∃ z : Rat, absLo a b = z := ⟨_, rfl⟩
  obtain ⟨v2, e_v2⟩ : ∃ z : Rat, absHi a b = z := ⟨_, rfl⟩
  obtain ⟨V1, e_V1⟩ : ∃ z : Rat, absLo A B = z := ⟨_, rfl⟩
  obtain ⟨V2, e_V2⟩ : ∃ z : Rat, absHi A B = z := ⟨_, rfl⟩
  rw [e_m1, e_m2, e_M1, e_M2] at i6
  rw [e_v1, e_v2, e_V1, e_V2] at i7
  have z_a : Hid (siz a ≤ 536870912) := by show _ ≤ _; exact Nat.le_trans zz_a (by omega)
  have z_b : Hid (siz b ≤ 536870912) := by show _ ≤ _; exact Nat.le_trans zz_b (by omega)
  have z_c : Hid (siz c ≤ 536870912) := by show _ ≤ _; exact Nat.le_trans zz_c (by omega)
  have z_d : Hid (siz d ≤ 536870912) := by show _ ≤ _; exact Nat.le_trans zz_d (by omega)
  have z_e : Hid (siz e ≤ 536870912) := by show _ ≤ _; exact Nat.le_trans zz_e (by omega)
  have z_f : Hid (siz f ≤ 536870912) := by show _ ≤ _; exact Nat.le_trans zz_f (by omega)
  have z_A : Hid (siz A ≤ 536870912) := by show _ ≤ _; exact Nat.le_trans zz_A (by omega)
  have z_B : Hid (siz B ≤ 536870912) := by show _ ≤ _; exact Nat.le_trans zz_B (by omega)
  have z_ac : Hid (siz ac ≤ 536870912) := by show _ ≤ _; rw [← e_ac]; have i1 := siz_add a c; omega
  have z_bd : Hid (siz bd ≤ 536870912) := by show _ ≤ _; rw [← e_bd]; have i1 := siz_add b d; omega
  have z_Ac : Hid (siz Ac ≤ 536870912) := by show _ ≤ _; rw [← e_Ac]; have i1 := siz_add A c; omega
  have z_Bd : Hid (siz Bd ≤ 536870912) := by show _ ≤ _; rw [← e_Bd]; have i1 := siz_add B d; omega
  have z_ad : Hid (siz ad ≤ 536870912) := by show _ ≤ _; rw [← e_ad]; have i1 := siz_sub a d; omega
  have z_bc : Hid (siz bc ≤ 536870912) := by show _ ≤ _; rw [← e_bc]; have i1 := siz_sub b c; omega
  have z_Ad : Hid (siz Ad ≤ 536870912) := by show _ ≤ _; rw [← e_Ad]; have i1 := siz_sub A d; omega
  have z_Bc : Hid (siz Bc ≤ 536870912) := by show _ ≤ _; rw [← e_Bc]; have i1 := siz_sub B c; omega
  have z_cb : Hid (siz cb ≤ 536870912) := by show _ ≤ _; rw [← e_cb]; have i1 := siz_sub c b; omega
  have z_da : Hid (siz da ≤ 536870912) := by show _ ≤ _; rw [← e_da]; have i1 := siz_sub d a; omega
  have z_cB : Hid (siz cB ≤ 536870912) := by show _ ≤ _; rw [← e_cB]; have i1 := siz_sub c B; omega
  have z_dA : Hid (siz dA ≤ 536870912) := by show _ ≤ _; rw [← e_dA]; have i1 := siz_sub d A; omega
  have z_m1 : Hid (siz m1 ≤ 536870912) := by show _ ≤ _; exact siz_l4 e_m1 (Nat.le_trans (siz_mul a c) (by omega)) (Nat.le_trans (siz_mul a d) (by omega)) (Nat.le_trans (siz_mul b c) (by omega)) (Nat.le_trans (siz_mul b d) (by omega))
  have z_m2 : Hid (siz m2 ≤ 536870912) := by show _ ≤ _; exact siz_g4 e_m2 (Nat.le_trans (siz_mul a c) (by omega)) (Nat.le_trans (siz_mul a d) (by omega)) (Nat.le_trans (siz_mul b c) (by omega)) (Nat.le_trans (siz_mul b d) (by omega))
  have z_M1 : Hid (siz M1 ≤ 536870912) := by show _ ≤ _; exact siz_l4 e_M1 (Nat.le_trans (siz_mul A c) (by omega)) (Nat.le_trans (siz_mul A d) (by omega)) (Nat.le_trans (siz_mul B c) (by omega)) (Nat.le_trans (siz_mul B d) (by omega))
  have z_M2 : Hid (siz M2 ≤ 536870912) := by show _ ≤ _; exact siz_g4 e_M2 (Nat.le_trans (siz_mul A c) (by omega)) (Nat.le_trans (siz_mul A d) (by omega)) (Nat.le_trans (siz_mul B c) (by omega)) (Nat.le_trans (siz_mul B d) (by omega))
  have z_v1 : Hid (siz v1 ≤ 536870912) := by show _ ≤ _; rw [← e_v1]; exact siz_absLo (by omega) (Nat.le_trans zz_a (by omega)) (Nat.le_trans zz_b (by omega))
  have z_v2 : Hid (siz v2 ≤ 536870912) := by show _ ≤ _; rw [← e_v2]; exact siz_absHi (by omega) (Nat.le_trans zz_a (by omega)) (Nat.le_trans zz_b (by omega))
  have z_V1 : Hid (siz V1 ≤ 536870912) := by show _ ≤ _; rw [← e_V1]; exact siz_absLo (by omega) (Nat.le_trans zz_A (by omega)) (Nat.le_trans zz_B (by omega))
  have z_V2 : Hid (siz V2 ≤ 536870912) := by show _ ≤ _; rw [← e_V2]; exact siz_absHi (by omega) (Nat.le_trans zz_A (by omega)) (Nat.le_trans zz_B (by omega))
  replace ep1 := hid ep1
  replace ep2 := hid ep2
  replace ep3 := hid ep3
  replace ep4 := hid ep4
  replace ep5 := hid ep5
  replace ep6 := hid ep6
  replace l1 := hid l1
  replace h1 := hid h1
  replace l2 := hid l2
  replace h2 := hid h2
  replace l3 := hid l3
  replace h3 := hid h3
  replace i1 := hid i1
  replace i2 := hid i2
  replace i3 := hid i3
  replace i4 := hid i4
  replace i5 := hid i5
  replace i6 := hid i6
  replace i7 := hid i7
  replace jh1 := hid jh1
  replace jh2 := hid jh2
  replace jh3 := hid jh3
  replace jh4 := hid jh4
  replace jh5 := hid jh5
  replace jh6 := hid jh6
  replace hab := hid hab
  replace hcd := hid hcd
  replace hef := hid hef
  replace zz_a := hid zz_a
  replace zz_b := hid zz_b
  replace zz_c := hid zz_c
  replace zz_d := hid zz_d
  replace zz_e := hid zz_e
  replace zz_f := hid zz_f
  replace zz_A := hid zz_A
  replace zz_B := hid zz_B
  replace e_A := hid e_A
  replace e_B := hid e_B
  replace e_ac := hid e_ac
  replace e_bd := hid e_bd
  replace e_Ac := hid e_Ac
  replace e_Bd := hid e_Bd
  replace e_ad := hid e_ad
  replace e_bc := hid e_bc
  replace e_Ad := hid e_Ad
  replace e_Bc := hid e_Bc
  replace e_cb := hid e_cb
  replace e_da := hid e_da
  replace e_cB := hid e_cB
  replace e_dA := hid e_dA
  replace e_m1 := hid e_m1
  replace e_m2 := hid e_m2
  replace e_M1 := hid e_M1
  replace e_M2 := hid e_M2
  replace e_v1 := hid e_v1
  replace e_v2 := hid e_v2
  replace e_V1 := hid e_V1
  replace e_V2 := hid e_V2
  replace hM := hid hM
  replace hT := hid hT
  replace hw := hid hw
  obtain ⟨w1, hw1⟩ : ∃ u, u = w.alloc (.cells #[.string s1, .string s2, .string s3, .string s4, .string s5, .string s6, .int .u8 (m : Nat), .int .u8 (n : Nat), .int .u8 (p : Nat)] 50) := ⟨_, rfl⟩
  have b1 : Hid (Below w.heap.size w w1) := by rw [hw1]; exact (Below.refl _ _).alloc (Nat.le_refl _) _
  have L1 : Hid (w1.heap[w.heap.size]? = some (.cells #[.string s1, .string s2, .string s3, .string s4, .string s5, .string s6, .int .u8 (m : Nat), .int .u8 (n : Nat), .int .u8 (p : Nat)] 50 (0, 0))) := by rw [hw1]; exact heap_alloc_new w _
  have hg : w1.heap[w.heap.size]? = some (.cells #[.string s1, .string s2, .string s3, .string s4, .string s5, .string s6, .int .u8 (m : Nat), .int .u8 (n : Nat), .int .u8 (p : Nat)] 50 (0, 0)) := ((Below.refl _ w1).block _ (Array.getElem?_eq_some_iff.1 L1.out).1).trans L1.out
  have z_pair_0 : w1.cell? ⟨w.heap.size, 0, none⟩ = some (.string s1) := cell_of_row _ _ _ _ _ _ hg
  have z_pair_1 : w1.cell? ⟨w.heap.size, 1, none⟩ = some (.string s2) := cell_of_row _ _ _ _ _ _ hg
  have z_pair_2 : w1.cell? ⟨w.heap.size, 2, none⟩ = some (.string s3) := cell_of_row _ _ _ _ _ _ hg
  have z_pair_3 : w1.cell? ⟨w.heap.size, 3, none⟩ = some (.string s4) := cell_of_row _ _ _ _ _ _ hg
  have z_pair_4 : w1.cell? ⟨w.heap.size, 4, none⟩ = some (.string s5) := cell_of_row _ _ _ _ _ _ hg
  have z_pair_5 : w1.cell? ⟨w.heap.size, 5, none⟩ = some (.string s6) := cell_of_row _ _ _ _ _ _ hg
  have z_pair_6 : w1.cell? ⟨w.heap.size, 6, none⟩ = some (.int .u8 (m : Nat)) := cell_of_row _ _ _ _ _ _ hg
  have z_pair_7 : w1.cell? ⟨w.heap.size, 7, none⟩ = some (.int .u8 (n : Nat)) := cell_of_row _ _ _ _ _ _ hg
  have z_pair_8 : w1.cell? ⟨w.heap.size, 8, none⟩ = some (.int .u8 (p : Nat)) := cell_of_row _ _ _ _ _ _ hg
  clear hg
  go_enter Tryz.func7, Tryz.ntmps7
  go_upto_region 1 with fail
  rw [← hw1]
  clear hw1
  have HX := hid (wide_val (w := w1) (m := m) (n := n) (p := p) hw.out)
  go_wp2_with fail
  refine (HX.out).mono ?_
  rintro e w2 ⟨rfl, b2⟩
  replace b2 := hid b2
  clear HX
  clear z_pair_0 z_pair_1 z_pair_2 z_pair_3 z_pair_4 z_pair_5 z_pair_6 z_pair_7 z_pair_8
  have LRpair2 : Hid (w2.heap[w.heap.size]? = some (.cells #[.string s1, .string s2, .string s3, .string s4, .string s5, .string s6, .int .u8 (m : Nat), .int .u8 (n : Nat), .int .u8 (p : Nat)] 50 (0, 0))) := (b2.out.block _ (Array.getElem?_eq_some_iff.1 L1.out).1).trans L1.out
  have HMB2 := hid (cell_keep hM.out (Below.step b1.out b2.out))
  have HTB2 := hid (tab_keep hT.out (Below.step b1.out b2.out))
  have HBB2 := hid (Below.step b1.out b2.out)
  clear L1 hM hT b1 b2
  go_wp2_with fail
  obtain ⟨NN3, hNN⟩ : ∃ n : Nat, w2.heap.size = n := ⟨_, rfl⟩
  have HSZ3 : Hid (w2.heap.size = NN3) := hNN
  have hg : w2.heap[w.heap.size]? = some (.cells #[.string s1, .string s2, .string s3, .string s4, .string s5, .string s6, .int .u8 (m : Nat), .int .u8 (n : Nat), .int .u8 (p : Nat)] 50 (0, 0)) := ((Below.refl _ w2).block _ (Array.getElem?_eq_some_iff.1 LRpair2.out).1).trans LRpair2.out
  have z_pair_0 : w2.cell? ⟨w.heap.size, 0, none⟩ = some (.string s1) := cell_of_row _ _ _ _ _ _ hg
  have z_pair_1 : w2.cell? ⟨w.heap.size, 1, none⟩ = some (.string s2) := cell_of_row _ _ _ _ _ _ hg
  have z_pair_2 : w2.cell? ⟨w.heap.size, 2, none⟩ = some (.string s3) := cell_of_row _ _ _ _ _ _ hg
  have z_pair_3 : w2.cell? ⟨w.heap.size, 3, none⟩ = some (.string s4) := cell_of_row _ _ _ _ _ _ hg
  have z_pair_4 : w2.cell? ⟨w.heap.size, 4, none⟩ = some (.string s5) := cell_of_row _ _ _ _ _ _ hg
  have z_pair_5 : w2.cell? ⟨w.heap.size, 5, none⟩ = some (.string s6) := cell_of_row _ _ _ _ _ _ hg
  have z_pair_6 : w2.cell? ⟨w.heap.size, 6, none⟩ = some (.int .u8 (m : Nat)) := cell_of_row _ _ _ _ _ _ hg
  have z_pair_7 : w2.cell? ⟨w.heap.size, 7, none⟩ = some (.int .u8 (n : Nat)) := cell_of_row _ _ _ _ _ _ hg
  have z_pair_8 : w2.cell? ⟨w.heap.size, 8, none⟩ = some (.int .u8 (p : Nat)) := cell_of_row _ _ _ _ _ _ hg
  clear hg
  have hlt3_pair : w.heap.size < NN3 := Nat.lt_of_lt_of_eq (World.block_lt_of_cell? _ _ z_pair_0) hNN
  have H0 := Held0.start w2 NN3
  refine wp_region_held_drew (S := (fun w' => (∀ b o, b < NN3 → w'.cell? ⟨b, o, none⟩ = w2.cell? ⟨b, o, none⟩))) (by kernel_rfl) ?_ (fun hHeld => ?_)
  · (try dsimp only)
    exact H0.1
  obtain ⟨wd3, hwd⟩ : ∃ u, u = w2.drew := ⟨_, rfl⟩
  rw [← hwd] at hHeld H0 ⊢
  clear hwd hNN
  refine wpAnyH_take (i := 0) (v := ?vq1) (oi := ?oq1) ?eq1 ?aq1 ?bq1 ?cq1 ?dq1 ?yq1 ?sq1 ?rq1
  case eq1 => simp only [lg, lz, ls]; rfl
  case aq1 | bq1 | cq1 => kernel_rfl
  case dq1 => exact fun _ _ _ h => h
  case yq1 => refine Or.inl ⟨by rfl, ?_⟩; intro w hSw; (try dsimp only at hSw); go_simp; try with_reducible rfl
  case sq1 => assumption
  try simp only [Act.put, lt, ly, lu]
  refine wpAnyH_take (i := 1) (v := ?vq2) (oi := ?oq2) ?eq2 ?aq2 ?bq2 ?cq2 ?dq2 ?yq2 ?sq2 ?rq2
  case eq2 => simp only [lg, lz, ls]; rfl
  case aq2 | bq2 | cq2 => kernel_rfl
  case dq2 => exact fun _ _ _ h => h
  case yq2 => refine Or.inl ⟨by rfl, ?_⟩; intro w hSw; (try dsimp only at hSw); go_simp; try with_reducible rfl
  case sq2 => assumption
  try simp only [Act.put, lt, ly, lu]
  refine wpAnyH_take (i := 3) (v := ?vq3) (oi := ?oq3) ?eq3 ?aq3 ?bq3 ?cq3 ?dq3 ?yq3 ?sq3 ?rq3
  case eq3 => simp only [lg, lz, ls]; rfl
  case aq3 | bq3 | cq3 => kernel_rfl
  case dq3 => exact fun _ _ _ h => h
  case yq3 => refine Or.inl ⟨by rfl, ?_⟩; intro w hSw; (try dsimp only at hSw); go_simp; try with_reducible rfl
  case sq3 => assumption
  try simp only [Act.put, lt, ly, lu]
  refine wpAnyH_take (i := 4) (v := ?vq4) (oi := ?oq4) ?eq4 ?aq4 ?bq4 ?cq4 ?dq4 ?yq4 ?sq4 ?rq4
  case eq4 => simp only [lg, lz, ls]; rfl
  case aq4 | bq4 | cq4 => kernel_rfl
  case dq4 => exact fun _ _ _ h => h
  case yq4 => refine Or.inl ⟨by rfl, ?_⟩; intro w hSw; (try dsimp only at hSw); go_simp; try with_reducible rfl
  case sq4 => assumption
  try simp only [Act.put, lt, ly, lu]
  refine wpAnyH_take (i := 6) (v := ?vq5) (oi := ?oq5) ?eq5 ?aq5 ?bq5 ?cq5 ?dq5 ?yq5 ?sq5 ?rq5
  case eq5 => simp only [lg, lz, ls]; rfl
  case aq5 | bq5 | cq5 => kernel_rfl
  case dq5 => exact fun _ _ _ h => h
  case yq5 => refine Or.inl ⟨by rfl, ?_⟩; intro w hSw; (try dsimp only at hSw); go_simp; try with_reducible rfl
  case sq5 => assumption
  try simp only [Act.put, lt, ly, lu]
  refine wpAnyH_take (i := 7) (v := ?vq6) (oi := ?oq6) ?eq6 ?aq6 ?bq6 ?cq6 ?dq6 ?yq6 ?sq6 ?rq6
  case eq6 => simp only [lg, lz, ls]; rfl
  case aq6 | bq6 | cq6 => kernel_rfl
  case dq6 => exact fun _ _ _ h => h
  case yq6 => refine Or.inl ⟨by rfl, ?_⟩; intro w hSw; (try dsimp only at hSw); go_simp; try with_reducible rfl
  case sq6 => assumption
  try simp only [Act.put, lt, ly, lu]
  generalize hF3 : wpAnyH _ _ _ _ _ = F3
  replace hF3 := hid hF3
  refine letters ?_
  intro A3 hA3
  replace hA3 := hid hA3
  have H0h := hid H0
  clear H0 hHeld
  have st3_3_345 : ∀ (L : Array Bool) (u : World) (v19 v22 v25 : Value) (n3 n4 n5 : Nat), L = #[true, true, true, true, true, true, true, true, true, true, true, true, false, false, false] → Hid (Held0 w2 NN3 w2 u) → Hid (IsBox u v19 a b) → Hid (IsBox u v22 c d) → Hid (IsBox u v25 e f) → Hid (Zero6 u n3) → NN3 ≤ n3 → Hid (Zero6 u n4) → NN3 ≤ n4 → Hid (Zero6 u n5) → NN3 ≤ n5 → n3 ≠ n4 → n3 ≠ n5 → n4 ≠ n5 → F3 3 L (Act.put (Act.put (Act.put (Act.put (Act.put (Act.put A3 (some 3) (.pointer (some ⟨n3, 0, none⟩))) (some 4) (.pointer (some ⟨n4, 0, none⟩))) (some 5) (.pointer (some ⟨n5, 0, none⟩))) (some 19) v19) (some 22) v22) (some 25) v25) u := by
   intro L u v19 v22 v25 n3 n4 n5 hLL HK I19 I22 I25 Z3 g3 Z4 g4 Z5 g5 ne3_4 ne3_5 ne4_5
   subst hLL
   rw [← hF3.out, ← hA3.out]
   try simp only [Act.put, lt, ly, lu]
   clear H0h z_pair_0 z_pair_1 z_pair_2 z_pair_3 z_pair_4 z_pair_5 z_pair_6 z_pair_7 z_pair_8 hlt3_pair
   obtain ⟨B3x0, b3x0, B3x1, b3x1, B3x2, b3x2, B3x3, b3x3, rfl, -, -⟩ := id I19.out.opened
   obtain ⟨B4x0, b4x0, B4x1, b4x1, B4x2, b4x2, B4x3, b4x3, rfl, -, -⟩ := id I22.out.opened
   obtain ⟨B5x0, b5x0, B5x1, b5x1, B5x2, b5x2, B5x3, b5x3, rfl, -, -⟩ := id I25.out.opened
   refine wpAnyH_ready (rs := [12]) (by kernel_rfl) (by simp) ?_
   refine AllReadyH.cons (o := ?oq7) ?eq7 ?kq7 AllReadyH.nil
   case eq7 => simp only [lg, lz, ls]; rfl
   intro K hK
   have q0 : u.cell? ⟨n3, 0, none⟩ = some (.bool false) := cell_of_row _ _ _ _ _ _ Z3.out
   have F0 : u.frozen? ⟨n3, 0, none⟩ = false := frozen_of_row u n3 0 _ _ Z3.out
   have q1 : u.cell? ⟨n3, 1, none⟩ = some (.slice none 0 0) := cell_of_row _ _ _ _ _ _ Z3.out
   have F1 : u.frozen? ⟨n3, 1, none⟩ = false := frozen_of_row u n3 1 _ _ Z3.out
   have q2 : u.cell? ⟨n3, 2, none⟩ = some (.slice none 0 0) := cell_of_row _ _ _ _ _ _ Z3.out
   have F2 : u.frozen? ⟨n3, 2, none⟩ = false := frozen_of_row u n3 2 _ _ Z3.out
   have q3 : u.cell? ⟨n3, 3, none⟩ = some (.bool false) := cell_of_row _ _ _ _ _ _ Z3.out
   have F3 : u.frozen? ⟨n3, 3, none⟩ = false := frozen_of_row u n3 3 _ _ Z3.out
   have q4 : u.cell? ⟨n3, 4, none⟩ = some (.slice none 0 0) := cell_of_row _ _ _ _ _ _ Z3.out
   have F4 : u.frozen? ⟨n3, 4, none⟩ = false := frozen_of_row u n3 4 _ _ Z3.out
   have q5 : u.cell? ⟨n3, 5, none⟩ = some (.slice none 0 0) := cell_of_row _ _ _ _ _ _ Z3.out
   have F5 : u.frozen? ⟨n3, 5, none⟩ = false := frozen_of_row u n3 5 _ _ Z3.out
   go_simp
   clear q0 F0 q1 F1 q2 F2 q3 F3 q4 F4 q5 F5
   obtain ⟨us3_3, hw⟩ : ∃ z, z = ((((((u.setCell ⟨n3, 0, none⟩ (.bool (decide (a.num < 0)))).setCell ⟨n3, 1, none⟩ (.slice B3x0 (len a.num.natAbs) b3x0)).setCell ⟨n3, 2, none⟩ (.slice B3x1 (len (below a.den)) b3x1)).setCell ⟨n3, 3, none⟩ (.bool (decide (b.num < 0)))).setCell ⟨n3, 4, none⟩ (.slice B3x2 (len b.num.natAbs) b3x2)).setCell ⟨n3, 5, none⟩ (.slice B3x3 (len (below b.den)) b3x3)) := ⟨_, rfl⟩
   obtain ⟨HK3, ZZ3, II3, OT, OB, ON⟩ := put6_all hw HK.out Z3.out g3 I19.out
   rw [← hw]
   clear hw
   replace HK3 := hid HK3
   replace ZZ3 := hid ZZ3
   replace II3 := hid II3
   have ZZ4_3 := hid (OT _ _ (Ne.symm ne3_4) Z4.out)
   have II4_3 := hid (OB _ _ _ I22.out)
   have ZZ5_3 := hid (OT _ _ (Ne.symm ne3_5) Z5.out)
   have II5_3 := hid (OB _ _ _ I25.out)
   refine hK.out _ _ ?_ (fun hHeld => ?_)
   · (try dsimp only)
     exact HK3.out.1
   clear hK K hHeld OT OB ON HK Z3 I19 Z4 I22 Z5 I25
   try simp only [Act.put, lt, ly, lu]
   refine wpAnyH_ready (rs := [13]) (by kernel_rfl) (by simp) ?_
   refine AllReadyH.cons (o := ?oq8) ?eq8 ?kq8 AllReadyH.nil
   case eq8 => simp only [lg, lz, ls]; rfl
   intro K hK
   have q0 : us3_3.cell? ⟨n4, 0, none⟩ = some (.bool false) := cell_of_row _ _ _ _ _ _ ZZ4_3.out
   have F0 : us3_3.frozen? ⟨n4, 0, none⟩ = false := frozen_of_row us3_3 n4 0 _ _ ZZ4_3.out
   have q1 : us3_3.cell? ⟨n4, 1, none⟩ = some (.slice none 0 0) := cell_of_row _ _ _ _ _ _ ZZ4_3.out
   have F1 : us3_3.frozen? ⟨n4, 1, none⟩ = false := frozen_of_row us3_3 n4 1 _ _ ZZ4_3.out
   have q2 : us3_3.cell? ⟨n4, 2, none⟩ = some (.slice none 0 0) := cell_of_row _ _ _ _ _ _ ZZ4_3.out
   have F2 : us3_3.frozen? ⟨n4, 2, none⟩ = false := frozen_of_row us3_3 n4 2 _ _ ZZ4_3.out
   have q3 : us3_3.cell? ⟨n4, 3, none⟩ = some (.bool false) := cell_of_row _ _ _ _ _ _ ZZ4_3.out
   have F3 : us3_3.frozen? ⟨n4, 3, none⟩ = false := frozen_of_row us3_3 n4 3 _ _ ZZ4_3.out
   have q4 : us3_3.cell? ⟨n4, 4, none⟩ = some (.slice none 0 0) := cell_of_row _ _ _ _ _ _ ZZ4_3.out
   have F4 : us3_3.frozen? ⟨n4, 4, none⟩ = false := frozen_of_row us3_3 n4 4 _ _ ZZ4_3.out
   have q5 : us3_3.cell? ⟨n4, 5, none⟩ = some (.slice none 0 0) := cell_of_row _ _ _ _ _ _ ZZ4_3.out
   have F5 : us3_3.frozen? ⟨n4, 5, none⟩ = false := frozen_of_row us3_3 n4 5 _ _ ZZ4_3.out
   go_simp
   clear q0 F0 q1 F1 q2 F2 q3 F3 q4 F4 q5 F5
   obtain ⟨us3_4, hw⟩ : ∃ z, z = ((((((us3_3.setCell ⟨n4, 0, none⟩ (.bool (decide (c.num < 0)))).setCell ⟨n4, 1, none⟩ (.slice B4x0 (len c.num.natAbs) b4x0)).setCell ⟨n4, 2, none⟩ (.slice B4x1 (len (below c.den)) b4x1)).setCell ⟨n4, 3, none⟩ (.bool (decide (d.num < 0)))).setCell ⟨n4, 4, none⟩ (.slice B4x2 (len d.num.natAbs) b4x2)).setCell ⟨n4, 5, none⟩ (.slice B4x3 (len (below d.den)) b4x3)) := ⟨_, rfl⟩
   obtain ⟨HK4, ZZ4, II4, OT, OB, ON⟩ := put6_all hw HK3.out ZZ4_3.out g4 II4_3.out
   rw [← hw]
   clear hw
   replace HK4 := hid HK4
   replace ZZ4 := hid ZZ4
   replace II4 := hid II4
   have ZZ3_4 := hid (OT _ _ ne3_4 ZZ3.out)
   have II3_4 := hid (OB _ _ _ II3.out)
   have ZZ5_4 := hid (OT _ _ (Ne.symm ne4_5) ZZ5_3.out)
   have II5_4 := hid (OB _ _ _ II5_3.out)
   refine hK.out _ _ ?_ (fun hHeld => ?_)
   · (try dsimp only)
     exact HK4.out.1
   clear hK K hHeld OT OB ON HK3 ZZ4_3 II4_3 ZZ3 II3 ZZ5_3 II5_3
   try simp only [Act.put, lt, ly, lu]
   refine wpAnyH_ready (rs := [14]) (by kernel_rfl) (by simp) ?_
   refine AllReadyH.cons (o := ?oq9) ?eq9 ?kq9 AllReadyH.nil
   case eq9 => simp only [lg, lz, ls]; rfl
   intro K hK
   have q0 : us3_4.cell? ⟨n5, 0, none⟩ = some (.bool false) := cell_of_row _ _ _ _ _ _ ZZ5_4.out
   have F0 : us3_4.frozen? ⟨n5, 0, none⟩ = false := frozen_of_row us3_4 n5 0 _ _ ZZ5_4.out
   have q1 : us3_4.cell? ⟨n5, 1, none⟩ = some (.slice none 0 0) := cell_of_row _ _ _ _ _ _ ZZ5_4.out
   have F1 : us3_4.frozen? ⟨n5, 1, none⟩ = false := frozen_of_row us3_4 n5 1 _ _ ZZ5_4.out
   have q2 : us3_4.cell? ⟨n5, 2, none⟩ = some (.slice none 0 0) := cell_of_row _ _ _ _ _ _ ZZ5_4.out
   have F2 : us3_4.frozen? ⟨n5, 2, none⟩ = false := frozen_of_row us3_4 n5 2 _ _ ZZ5_4.out
   have q3 : us3_4.cell? ⟨n5, 3, none⟩ = some (.bool false) := cell_of_row _ _ _ _ _ _ ZZ5_4.out
   have F3 : us3_4.frozen? ⟨n5, 3, none⟩ = false := frozen_of_row us3_4 n5 3 _ _ ZZ5_4.out
   have q4 : us3_4.cell? ⟨n5, 4, none⟩ = some (.slice none 0 0) := cell_of_row _ _ _ _ _ _ ZZ5_4.out
   have F4 : us3_4.frozen? ⟨n5, 4, none⟩ = false := frozen_of_row us3_4 n5 4 _ _ ZZ5_4.out
   have q5 : us3_4.cell? ⟨n5, 5, none⟩ = some (.slice none 0 0) := cell_of_row _ _ _ _ _ _ ZZ5_4.out
   have F5 : us3_4.frozen? ⟨n5, 5, none⟩ = false := frozen_of_row us3_4 n5 5 _ _ ZZ5_4.out
   go_simp
   clear q0 F0 q1 F1 q2 F2 q3 F3 q4 F4 q5 F5
   obtain ⟨us3_5, hw⟩ : ∃ z, z = ((((((us3_4.setCell ⟨n5, 0, none⟩ (.bool (decide (e.num < 0)))).setCell ⟨n5, 1, none⟩ (.slice B5x0 (len e.num.natAbs) b5x0)).setCell ⟨n5, 2, none⟩ (.slice B5x1 (len (below e.den)) b5x1)).setCell ⟨n5, 3, none⟩ (.bool (decide (f.num < 0)))).setCell ⟨n5, 4, none⟩ (.slice B5x2 (len f.num.natAbs) b5x2)).setCell ⟨n5, 5, none⟩ (.slice B5x3 (len (below f.den)) b5x3)) := ⟨_, rfl⟩
   obtain ⟨HK5, ZZ5, II5, OT, OB, ON⟩ := put6_all hw HK4.out ZZ5_4.out g5 II5_4.out
   rw [← hw]
   clear hw
   replace HK5 := hid HK5
   replace ZZ5 := hid ZZ5
   replace II5 := hid II5
   have ZZ3_5 := hid (OT _ _ ne3_5 ZZ3_4.out)
   have II3_5 := hid (OB _ _ _ II3_4.out)
   have ZZ4_5 := hid (OT _ _ ne4_5 ZZ4.out)
   have II4_5 := hid (OB _ _ _ II4.out)
   refine hK.out _ _ ?_ (fun hHeld => ?_)
   · (try dsimp only)
     exact HK5.out.1
   clear hK K hHeld OT OB ON HK4 ZZ5_4 II5_4 ZZ3_4 II3_4 ZZ4 II4
   try simp only [Act.put, lt, ly, lu]
   refine wpAnyH_done (by kernel_rfl) ?_ _
   obtain ⟨w3, hwq⟩ : ∃ z, z = us3_5 := ⟨_, rfl⟩
   rw [← hwq] at HK5 ZZ3_5 ZZ4_5 ZZ5 II3_5 II4_5 II5 ⊢
   clear hwq hF3 hA3
   have b3 : Hid (Below w2.heap.size w2 w3) := below_eq HK5.out.2.1 HSZ3.out
   clear HK5 HSZ3
   have LRpair3 : Hid (w3.heap[w.heap.size]? = some (.cells #[.string s1, .string s2, .string s3, .string s4, .string s5, .string s6, .int .u8 (m : Nat), .int .u8 (n : Nat), .int .u8 (p : Nat)] 50 (0, 0))) := (b3.out.block _ (Array.getElem?_eq_some_iff.1 LRpair2.out).1).trans LRpair2.out
   have HMB3 := hid (cell_keep HMB2.out b3.out)
   have HTB3 := hid (tab_keep HTB2.out b3.out)
   have HBB3 := hid (Below.step HBB2.out b3.out)
   clear LRpair2 HMB2 HTB2 HBB2 b3
   have hg : w3.heap[n3]? = some (.cells #[.bool (decide (a.num < 0)), .slice B3x0 (len a.num.natAbs) b3x0, .slice B3x1 (len (below a.den)) b3x1, .bool (decide (b.num < 0)), .slice B3x2 (len b.num.natAbs) b3x2, .slice B3x3 (len (below b.den)) b3x3] 53 (0, 0)) := ((Below.refl _ w3).block _ (Array.getElem?_eq_some_iff.1 ZZ3_5.out).1).trans ZZ3_5.out
   obtain ⟨z_s_0, z_s_1, z_s_2, z_s_3, z_s_4, z_s_5⟩ := cells6 hg
   clear hg
   have hg : w3.heap[n5]? = some (.cells #[.bool (decide (e.num < 0)), .slice B5x0 (len e.num.natAbs) b5x0, .slice B5x1 (len (below e.den)) b5x1, .bool (decide (f.num < 0)), .slice B5x2 (len f.num.natAbs) b5x2, .slice B5x3 (len (below f.den)) b5x3] 53 (0, 0)) := ((Below.refl _ w3).block _ (Array.getElem?_eq_some_iff.1 ZZ5.out).1).trans ZZ5.out
   obtain ⟨z_cx_0, z_cx_1, z_cx_2, z_cx_3, z_cx_4, z_cx_5⟩ := cells6 hg
   clear hg
   have HX := hid (hull_val e_A.out e_B.out II3_5.out II5.out z_a.out z_b.out z_e.out z_f.out)
   go_wp2_with fail
   refine (HX.out).mono ?_
   rintro e w4 ⟨v4, rfl, hv4, b4⟩
   obtain ⟨C1, j1, C2, j2, C3, j3, C4, j4, rfl, hp4, hq4⟩ := id hv4.opened
   replace hv4 := hid hv4
   clear hp4 hq4
   replace b4 := hid b4
   clear HX
   clear z_s_0 z_s_1 z_s_2 z_s_3 z_s_4 z_s_5 z_cx_0 z_cx_1 z_cx_2 z_cx_3 z_cx_4 z_cx_5
   go_upto_region 5 with fail
   obtain ⟨w5, hw5⟩ : ∃ u, u = w4.alloc (.cells #[.bool (decide (A.num < 0)), .slice C1 (len A.num.natAbs) j1, .slice C2 (len (below A.den)) j2, .bool (decide (B.num < 0)), .slice C3 (len B.num.natAbs) j3, .slice C4 (len (below B.den)) j4] 53) := ⟨_, rfl⟩
   have b5 : Hid (Below w4.heap.size w4 w5) := by rw [hw5]; exact (Below.refl _ _).alloc (Nat.le_refl _) _
   have L5 : Hid (w5.heap[w4.heap.size]? = some (.cells #[.bool (decide (A.num < 0)), .slice C1 (len A.num.natAbs) j1, .slice C2 (len (below A.den)) j2, .bool (decide (B.num < 0)), .slice C3 (len B.num.natAbs) j3, .slice C4 (len (below B.den)) j4] 53 (0, 0))) := by rw [hw5]; exact heap_alloc_new w4 _
   rw [← hw5]
   clear hw5
   have hRs5 := hid (II3_5.out.keep (Below.step b4.out b5.out))
   have hRt5 := hid (II4_5.out.keep (Below.step b4.out b5.out))
   have hRcx5 := hid (II5.out.keep (Below.step b4.out b5.out))
   have hRbig5 := hid (hv4.out.keep b5.out)
   have LRpair5 : Hid (w5.heap[w.heap.size]? = some (.cells #[.string s1, .string s2, .string s3, .string s4, .string s5, .string s6, .int .u8 (m : Nat), .int .u8 (n : Nat), .int .u8 (p : Nat)] 50 (0, 0))) := ((Below.step b4.out b5.out).block _ (Array.getElem?_eq_some_iff.1 LRpair3.out).1).trans LRpair3.out
   have LRs5 : Hid (w5.heap[n3]? = some (.cells #[.bool (decide (a.num < 0)), .slice B3x0 (len a.num.natAbs) b3x0, .slice B3x1 (len (below a.den)) b3x1, .bool (decide (b.num < 0)), .slice B3x2 (len b.num.natAbs) b3x2, .slice B3x3 (len (below b.den)) b3x3] 53 (0, 0))) := ((Below.step b4.out b5.out).block _ (Array.getElem?_eq_some_iff.1 ZZ3_5.out).1).trans ZZ3_5.out
   have LRt5 : Hid (w5.heap[n4]? = some (.cells #[.bool (decide (c.num < 0)), .slice B4x0 (len c.num.natAbs) b4x0, .slice B4x1 (len (below c.den)) b4x1, .bool (decide (d.num < 0)), .slice B4x2 (len d.num.natAbs) b4x2, .slice B4x3 (len (below d.den)) b4x3] 53 (0, 0))) := ((Below.step b4.out b5.out).block _ (Array.getElem?_eq_some_iff.1 ZZ4_5.out).1).trans ZZ4_5.out
   have LRcx5 : Hid (w5.heap[n5]? = some (.cells #[.bool (decide (e.num < 0)), .slice B5x0 (len e.num.natAbs) b5x0, .slice B5x1 (len (below e.den)) b5x1, .bool (decide (f.num < 0)), .slice B5x2 (len f.num.natAbs) b5x2, .slice B5x3 (len (below f.den)) b5x3] 53 (0, 0))) := ((Below.step b4.out b5.out).block _ (Array.getElem?_eq_some_iff.1 ZZ5.out).1).trans ZZ5.out
   have HMB5 := hid (cell_keep HMB3.out (Below.step b4.out b5.out))
   have HTB5 := hid (tab_keep HTB3.out (Below.step b4.out b5.out))
   have HBB5 := hid (Below.step HBB3.out (Below.step b4.out b5.out))
   clear II3_5 II4_5 II5 hv4 LRpair3 ZZ3_5 ZZ4_5 ZZ5 HMB3 HTB3 HBB3 b4 b5
   go_wp2_with fail
   obtain ⟨NN5, hNN⟩ : ∃ n : Nat, w5.heap.size = n := ⟨_, rfl⟩
   have HSZ5 : Hid (w5.heap.size = NN5) := hNN
   have hg : w5.heap[n3]? = some (.cells #[.bool (decide (a.num < 0)), .slice B3x0 (len a.num.natAbs) b3x0, .slice B3x1 (len (below a.den)) b3x1, .bool (decide (b.num < 0)), .slice B3x2 (len b.num.natAbs) b3x2, .slice B3x3 (len (below b.den)) b3x3] 53 (0, 0)) := ((Below.refl _ w5).block _ (Array.getElem?_eq_some_iff.1 LRs5.out).1).trans LRs5.out
   obtain ⟨z_s_0, z_s_1, z_s_2, z_s_3, z_s_4, z_s_5⟩ := cells6 hg
   clear hg
   have hlt5_s : n3 < NN5 := Nat.lt_of_lt_of_eq (World.block_lt_of_cell? _ _ z_s_0) hNN
   have hg : w5.heap[n4]? = some (.cells #[.bool (decide (c.num < 0)), .slice B4x0 (len c.num.natAbs) b4x0, .slice B4x1 (len (below c.den)) b4x1, .bool (decide (d.num < 0)), .slice B4x2 (len d.num.natAbs) b4x2, .slice B4x3 (len (below d.den)) b4x3] 53 (0, 0)) := ((Below.refl _ w5).block _ (Array.getElem?_eq_some_iff.1 LRt5.out).1).trans LRt5.out
   obtain ⟨z_t_0, z_t_1, z_t_2, z_t_3, z_t_4, z_t_5⟩ := cells6 hg
   clear hg
   have hlt5_t : n4 < NN5 := Nat.lt_of_lt_of_eq (World.block_lt_of_cell? _ _ z_t_0) hNN
   have hg : w5.heap[n5]? = some (.cells #[.bool (decide (e.num < 0)), .slice B5x0 (len e.num.natAbs) b5x0, .slice B5x1 (len (below e.den)) b5x1, .bool (decide (f.num < 0)), .slice B5x2 (len f.num.natAbs) b5x2, .slice B5x3 (len (below f.den)) b5x3] 53 (0, 0)) := ((Below.refl _ w5).block _ (Array.getElem?_eq_some_iff.1 LRcx5.out).1).trans LRcx5.out
   obtain ⟨z_cx_0, z_cx_1, z_cx_2, z_cx_3, z_cx_4, z_cx_5⟩ := cells6 hg
   clear hg
   have hlt5_cx : n5 < NN5 := Nat.lt_of_lt_of_eq (World.block_lt_of_cell? _ _ z_cx_0) hNN
   have hg : w5.heap[w4.heap.size]? = some (.cells #[.bool (decide (A.num < 0)), .slice C1 (len A.num.natAbs) j1, .slice C2 (len (below A.den)) j2, .bool (decide (B.num < 0)), .slice C3 (len B.num.natAbs) j3, .slice C4 (len (below B.den)) j4] 53 (0, 0)) := ((Below.refl _ w5).block _ (Array.getElem?_eq_some_iff.1 L5.out).1).trans L5.out
   obtain ⟨z_big_0, z_big_1, z_big_2, z_big_3, z_big_4, z_big_5⟩ := cells6 hg
   clear hg
   have hlt5_big : w4.heap.size < NN5 := Nat.lt_of_lt_of_eq (World.block_lt_of_cell? _ _ z_big_0) hNN
   have H0 := Held0.start w5 NN5
   have H0' := H0
   unfold Held0 at H0'
   refine wp_region_held_drew (S := (fun w' => (∀ b o, b < NN5 → w'.cell? ⟨b, o, none⟩ = w5.cell? ⟨b, o, none⟩) ∧ Below (NN5) w5 w' ∧ Stay w5 w')) (by kernel_rfl) ?_ (fun hHeld => ?_)
   · (try dsimp only)
     exact H0'
   obtain ⟨w6, hw6⟩ : ∃ u, u = w5.drew := ⟨_, rfl⟩
   have b6 : Hid (Below w5.heap.size w5 w6) := by rw [hw6]; exact ⟨rfl, rfl, rfl, Nat.le_refl _, fun _ _ => rfl⟩
   rw [← hw6] at hHeld H0 ⊢
   clear hw6 H0' hNN
   refine wpAnyH_take (i := 0) (v := ?vq10) (oi := ?oq10) ?eq10 ?aq10 ?bq10 ?cq10 ?dq10 ?yq10 ?sq10 ?rq10
   case eq10 => simp only [lg, lz, ls]; rfl
   case aq10 | bq10 | cq10 => kernel_rfl
   case dq10 => exact fun _ _ _ h => h
   case yq10 => refine Or.inl ⟨by rfl, ?_⟩; intro w hSw; (try dsimp only at hSw); go_simp; try with_reducible rfl
   case sq10 => assumption
   try simp only [Act.put, lt, ly, lu]
   refine wpAnyH_take (i := 1) (v := ?vq11) (oi := ?oq11) ?eq11 ?aq11 ?bq11 ?cq11 ?dq11 ?yq11 ?sq11 ?rq11
   case eq11 => simp only [lg, lz, ls]; rfl
   case aq11 | bq11 | cq11 => kernel_rfl
   case dq11 => exact fun _ _ _ h => h
   case yq11 => refine Or.inl ⟨by rfl, ?_⟩; intro w hSw; (try dsimp only at hSw); go_simp; try with_reducible rfl
   case sq11 => assumption
   try simp only [Act.put, lt, ly, lu]
   refine wpAnyH_ready (rs := [2]) (by kernel_rfl) (by simp) (AllReadyH.cons (o := ?oq12) ?eq12 ?kq12 AllReadyH.nil)
   case eq12 => simp only [lg, lz, ls]; rfl
   intro K hK; go_simp; go_at_call 45
   refine (inside_val i1.out (hRs5.out.keep b6.out) (hRbig5.out.keep b6.out) z_a.out z_b.out z_A.out z_B.out).mono ?_
   rintro e w7 ⟨rfl, b7⟩
   replace b7 := hid b7; have hk7 := hcall H0 HSZ5 b7.out; have hk7' := hk7; unfold Held0 at hk7'; clear hHeld H0
   refine hK.out _ _ ?_ (fun hHeld => ?_)
   · (try dsimp only); with_reducible exact hk7'
   clear hK K hk7'; try simp only [Act.put, lt, ly, lu]
   refine wpAnyH_take (i := 3) (v := ?vq13) (oi := ?oq13) ?eq13 ?aq13 ?bq13 ?cq13 ?dq13 ?yq13 ?sq13 ?rq13
   case eq13 => simp only [lg, lz, ls]; rfl
   case aq13 | bq13 | cq13 => kernel_rfl
   case dq13 => exact fun _ _ _ h => h
   case yq13 => refine Or.inl ⟨by rfl, ?_⟩; intro w hSw; (try dsimp only at hSw); go_simp; try with_reducible rfl
   case sq13 => assumption
   try simp only [Act.put, lt, ly, lu]
   refine wpAnyH_take (i := 4) (v := ?vq14) (oi := ?oq14) ?eq14 ?aq14 ?bq14 ?cq14 ?dq14 ?yq14 ?sq14 ?rq14
   case eq14 => simp only [lg, lz, ls]; rfl
   case aq14 | bq14 | cq14 => kernel_rfl
   case dq14 => exact fun _ _ _ h => h
   case yq14 => refine Or.inl ⟨by rfl, ?_⟩; intro w hSw; (try dsimp only at hSw); go_simp; try with_reducible rfl
   case sq14 => assumption
   try simp only [Act.put, lt, ly, lu]
   refine wpAnyH_take (i := 5) (v := ?vq15) (oi := ?oq15) ?eq15 ?aq15 ?bq15 ?cq15 ?dq15 ?yq15 ?sq15 ?rq15
   case eq15 => simp only [lg, lz, ls]; rfl
   case aq15 | bq15 | cq15 => kernel_rfl
   case dq15 => exact fun _ _ _ h => h
   case yq15 => refine Or.inl ⟨by rfl, ?_⟩; intro w hSw; (try dsimp only at hSw); go_simp; try with_reducible rfl
   case sq15 => assumption
   try simp only [Act.put, lt, ly, lu]
   refine wpAnyH_take (i := 6) (v := ?vq16) (oi := ?oq16) ?eq16 ?aq16 ?bq16 ?cq16 ?dq16 ?yq16 ?sq16 ?rq16
   case eq16 => simp only [lg, lz, ls]; rfl
   case aq16 | bq16 | cq16 => kernel_rfl
   case dq16 => exact fun _ _ _ h => h
   case yq16 => refine Or.inl ⟨by rfl, ?_⟩; intro w hSw; (try dsimp only at hSw); go_simp; try with_reducible rfl
   case sq16 => assumption
   try simp only [Act.put, lt, ly, lu]
   refine wpAnyH_ready (rs := [7]) (by kernel_rfl) (by simp) (AllReadyH.cons (o := ?oq17) ?eq17 ?kq17 AllReadyH.nil)
   case eq17 => simp only [lg, lz, ls]; rfl
   intro K hK; go_simp; go_at_call 45
   refine (inside_val i2.out (hRcx5.out.keep (Below.step b6.out b7.out)) (hRbig5.out.keep (Below.step b6.out b7.out)) z_e.out z_f.out z_A.out z_B.out).mono ?_
   rintro e w8 ⟨rfl, b8⟩
   replace b8 := hid b8; have hk8 := hcall hk7 HSZ5 b8.out; have hk8' := hk8; unfold Held0 at hk8'; clear hHeld hk7
   refine hK.out _ _ ?_ (fun hHeld => ?_)
   · (try dsimp only); with_reducible exact hk8'
   clear hK K hk8'; try simp only [Act.put, lt, ly, lu]
   refine wpAnyH_take (i := 8) (v := ?vq18) (oi := ?oq18) ?eq18 ?aq18 ?bq18 ?cq18 ?dq18 ?yq18 ?sq18 ?rq18
   case eq18 => simp only [lg, lz, ls]; rfl
   case aq18 | bq18 | cq18 => kernel_rfl
   case dq18 => exact fun _ _ _ h => h
   case yq18 => refine Or.inl ⟨by rfl, ?_⟩; intro w hSw; (try dsimp only at hSw); go_simp; try with_reducible rfl
   case sq18 => assumption
   try simp only [Act.put, lt, ly, lu]
   refine wpAnyH_take (i := 9) (v := ?vq19) (oi := ?oq19) ?eq19 ?aq19 ?bq19 ?cq19 ?dq19 ?yq19 ?sq19 ?rq19
   case eq19 => simp only [lg, lz, ls]; rfl
   case aq19 | bq19 | cq19 => kernel_rfl
   case dq19 => exact fun _ _ _ h => h
   case yq19 => refine Or.inl ⟨by rfl, ?_⟩; intro w hSw; (try dsimp only at hSw); go_simp; try with_reducible rfl
   case sq19 => assumption
   try simp only [Act.put, lt, ly, lu]
   refine wpAnyH_take (i := 10) (v := ?vq20) (oi := ?oq20) ?eq20 ?aq20 ?bq20 ?cq20 ?dq20 ?yq20 ?sq20 ?rq20
   case eq20 => simp only [lg, lz, ls]; rfl
   case aq20 | bq20 | cq20 => kernel_rfl
   case dq20 => exact fun _ _ _ h => h
   case yq20 => refine Or.inl ⟨by rfl, ?_⟩; intro w hSw; (try dsimp only at hSw); go_simp; try with_reducible rfl
   case sq20 => assumption
   try simp only [Act.put, lt, ly, lu]
   refine wpAnyH_take (i := 11) (v := ?vq21) (oi := ?oq21) ?eq21 ?aq21 ?bq21 ?cq21 ?dq21 ?yq21 ?sq21 ?rq21
   case eq21 => simp only [lg, lz, ls]; rfl
   case aq21 | bq21 | cq21 => kernel_rfl
   case dq21 => exact fun _ _ _ h => h
   case yq21 => refine Or.inl ⟨by rfl, ?_⟩; intro w hSw; (try dsimp only at hSw); go_simp; try with_reducible rfl
   case sq21 => assumption
   try simp only [Act.put, lt, ly, lu]
   refine wpAnyH_take (i := 12) (v := ?vq22) (oi := ?oq22) ?eq22 ?aq22 ?bq22 ?cq22 ?dq22 ?yq22 ?sq22 ?rq22
   case eq22 => simp only [lg, lz, ls]; rfl
   case aq22 | bq22 | cq22 => kernel_rfl
   case dq22 => exact fun _ _ _ h => h
   case yq22 => refine Or.inl ⟨by rfl, ?_⟩; intro w hSw; (try dsimp only at hSw); go_simp; try with_reducible rfl
   case sq22 => assumption
   try simp only [Act.put, lt, ly, lu]
   refine wpAnyH_take (i := 14) (v := ?vq23) (oi := ?oq23) ?eq23 ?aq23 ?bq23 ?cq23 ?dq23 ?yq23 ?sq23 ?rq23
   case eq23 => simp only [lg, lz, ls]; rfl
   case aq23 | bq23 | cq23 => kernel_rfl
   case dq23 => exact fun _ _ _ h => h
   case yq23 => refine Or.inl ⟨by rfl, ?_⟩; intro w hSw; (try dsimp only at hSw); go_simp; try with_reducible rfl
   case sq23 => assumption
   try simp only [Act.put, lt, ly, lu]
   refine wpAnyH_take (i := 15) (v := ?vq24) (oi := ?oq24) ?eq24 ?aq24 ?bq24 ?cq24 ?dq24 ?yq24 ?sq24 ?rq24
   case eq24 => simp only [lg, lz, ls]; rfl
   case aq24 | bq24 | cq24 => kernel_rfl
   case dq24 => exact fun _ _ _ h => h
   case yq24 => refine Or.inl ⟨by rfl, ?_⟩; intro w hSw; (try dsimp only at hSw); go_simp; try with_reducible rfl
   case sq24 => assumption
   try simp only [Act.put, lt, ly, lu]
   refine wpAnyH_ready (rs := [13]) (by kernel_rfl) (by simp) (AllReadyH.cons (o := ?oq25) ?eq25 ?kq25 AllReadyH.nil)
   case eq25 => simp only [lg, lz, ls]; rfl
   intro K hK; go_simp; go_at_call 33
   refine (badd_val e_ac.out e_bd.out (hRs5.out.keep (Below.step (Below.step b6.out b7.out) b8.out)) (hRt5.out.keep (Below.step (Below.step b6.out b7.out) b8.out)) z_a.out z_b.out z_c.out z_d.out).mono ?_
   rintro e w9 ⟨v9, rfl, hv9, b9⟩
   obtain ⟨C5, j5, C6, j6, C7, j7, C8, j8, rfl, -, -⟩ := id hv9.opened
   replace hv9 := hid hv9
   replace b9 := hid b9; have hk9 := hcall hk8 HSZ5 b9.out; have hk9' := hk9; unfold Held0 at hk9'; clear hHeld hk8
   refine hK.out _ _ ?_ (fun hHeld => ?_)
   · (try dsimp only); with_reducible exact hk9'
   clear hK K hk9'; try simp only [Act.put, lt, ly, lu]
   refine wpAnyH_ready (rs := [16]) (by kernel_rfl) (by simp) (AllReadyH.cons (o := ?oq26) ?eq26 ?kq26 AllReadyH.nil)
   case eq26 => simp only [lg, lz, ls]; rfl
   intro K hK; go_simp; go_at_call 33
   refine (badd_val e_Ac.out e_Bd.out (hRbig5.out.keep (Below.step (Below.step (Below.step b6.out b7.out) b8.out) b9.out)) (hRt5.out.keep (Below.step (Below.step (Below.step b6.out b7.out) b8.out) b9.out)) z_A.out z_B.out z_c.out z_d.out).mono ?_
   rintro e w10 ⟨v10, rfl, hv10, b10⟩
   obtain ⟨C9, j9, C10, j10, C11, j11, C12, j12, rfl, -, -⟩ := id hv10.opened
   replace hv10 := hid hv10
   replace b10 := hid b10; have hk10 := hcall hk9 HSZ5 b10.out; have hk10' := hk10; unfold Held0 at hk10'; clear hHeld hk9
   refine hK.out _ _ ?_ (fun hHeld => ?_)
   · (try dsimp only); with_reducible exact hk10'
   clear hK K hk10'; try simp only [Act.put, lt, ly, lu]
   refine wpAnyH_ready (rs := [17]) (by kernel_rfl) (by simp) (AllReadyH.cons (o := ?oq27) ?eq27 ?kq27 AllReadyH.nil)
   case eq27 => simp only [lg, lz, ls]; rfl
   intro K hK; go_simp; go_at_call 45
   refine (inside_val i3.out (hv9.out.keep b10.out) hv10.out z_ac.out z_bd.out z_Ac.out z_Bd.out).mono ?_
   rintro e w11 ⟨rfl, b11⟩
   replace b11 := hid b11; have hk11 := hcall hk10 HSZ5 b11.out; have hk11' := hk11; unfold Held0 at hk11'; clear hHeld hk10
   refine hK.out _ _ ?_ (fun hHeld => ?_)
   · (try dsimp only); with_reducible exact hk11'
   clear hK K hk11'; try simp only [Act.put, lt, ly, lu]
   refine wpAnyH_take (i := 18) (v := ?vq28) (oi := ?oq28) ?eq28 ?aq28 ?bq28 ?cq28 ?dq28 ?yq28 ?sq28 ?rq28
   case eq28 => simp only [lg, lz, ls]; rfl
   case aq28 | bq28 | cq28 => kernel_rfl
   case dq28 => exact fun _ _ _ h => h
   case yq28 => refine Or.inl ⟨by rfl, ?_⟩; intro w hSw; (try dsimp only at hSw); go_simp; try with_reducible rfl
   case sq28 => assumption
   try simp only [Act.put, lt, ly, lu]
   refine wpAnyH_take (i := 19) (v := ?vq29) (oi := ?oq29) ?eq29 ?aq29 ?bq29 ?cq29 ?dq29 ?yq29 ?sq29 ?rq29
   case eq29 => simp only [lg, lz, ls]; rfl
   case aq29 | bq29 | cq29 => kernel_rfl
   case dq29 => exact fun _ _ _ h => h
   case yq29 => refine Or.inl ⟨by rfl, ?_⟩; intro w hSw; (try dsimp only at hSw); go_simp; try with_reducible rfl
   case sq29 => assumption
   try simp only [Act.put, lt, ly, lu]
   refine wpAnyH_take (i := 20) (v := ?vq30) (oi := ?oq30) ?eq30 ?aq30 ?bq30 ?cq30 ?dq30 ?yq30 ?sq30 ?rq30
   case eq30 => simp only [lg, lz, ls]; rfl
   case aq30 | bq30 | cq30 => kernel_rfl
   case dq30 => exact fun _ _ _ h => h
   case yq30 => refine Or.inl ⟨by rfl, ?_⟩; intro w hSw; (try dsimp only at hSw); go_simp; try with_reducible rfl
   case sq30 => assumption
   try simp only [Act.put, lt, ly, lu]
   refine wpAnyH_take (i := 21) (v := ?vq31) (oi := ?oq31) ?eq31 ?aq31 ?bq31 ?cq31 ?dq31 ?yq31 ?sq31 ?rq31
   case eq31 => simp only [lg, lz, ls]; rfl
   case aq31 | bq31 | cq31 => kernel_rfl
   case dq31 => exact fun _ _ _ h => h
   case yq31 => refine Or.inl ⟨by rfl, ?_⟩; intro w hSw; (try dsimp only at hSw); go_simp; try with_reducible rfl
   case sq31 => assumption
   try simp only [Act.put, lt, ly, lu]
   refine wpAnyH_take (i := 22) (v := ?vq32) (oi := ?oq32) ?eq32 ?aq32 ?bq32 ?cq32 ?dq32 ?yq32 ?sq32 ?rq32
   case eq32 => simp only [lg, lz, ls]; rfl
   case aq32 | bq32 | cq32 => kernel_rfl
   case dq32 => exact fun _ _ _ h => h
   case yq32 => refine Or.inl ⟨by rfl, ?_⟩; intro w hSw; (try dsimp only at hSw); go_simp; try with_reducible rfl
   case sq32 => assumption
   try simp only [Act.put, lt, ly, lu]
   refine wpAnyH_take (i := 24) (v := ?vq33) (oi := ?oq33) ?eq33 ?aq33 ?bq33 ?cq33 ?dq33 ?yq33 ?sq33 ?rq33
   case eq33 => simp only [lg, lz, ls]; rfl
   case aq33 | bq33 | cq33 => kernel_rfl
   case dq33 => exact fun _ _ _ h => h
   case yq33 => refine Or.inl ⟨by rfl, ?_⟩; intro w hSw; (try dsimp only at hSw); go_simp; try with_reducible rfl
   case sq33 => assumption
   try simp only [Act.put, lt, ly, lu]
   refine wpAnyH_take (i := 25) (v := ?vq34) (oi := ?oq34) ?eq34 ?aq34 ?bq34 ?cq34 ?dq34 ?yq34 ?sq34 ?rq34
   case eq34 => simp only [lg, lz, ls]; rfl
   case aq34 | bq34 | cq34 => kernel_rfl
   case dq34 => exact fun _ _ _ h => h
   case yq34 => refine Or.inl ⟨by rfl, ?_⟩; intro w hSw; (try dsimp only at hSw); go_simp; try with_reducible rfl
   case sq34 => assumption
   try simp only [Act.put, lt, ly, lu]
   refine wpAnyH_ready (rs := [23]) (by kernel_rfl) (by simp) (AllReadyH.cons (o := ?oq35) ?eq35 ?kq35 AllReadyH.nil)
   case eq35 => simp only [lg, lz, ls]; rfl
   intro K hK; go_simp; go_at_call 34
   refine (bsub_val e_ad.out e_bc.out (hRs5.out.keep (Below.step (Below.step (Below.step (Below.step (Below.step b6.out b7.out) b8.out) b9.out) b10.out) b11.out)) (hRt5.out.keep (Below.step (Below.step (Below.step (Below.step (Below.step b6.out b7.out) b8.out) b9.out) b10.out) b11.out)) z_a.out z_b.out z_c.out z_d.out).mono ?_
   rintro e w12 ⟨v12, rfl, hv12, b12⟩
   obtain ⟨C13, j13, C14, j14, C15, j15, C16, j16, rfl, -, -⟩ := id hv12.opened
   replace hv12 := hid hv12
   replace b12 := hid b12; have hk12 := hcall hk11 HSZ5 b12.out; have hk12' := hk12; unfold Held0 at hk12'; clear hHeld hk11
   refine hK.out _ _ ?_ (fun hHeld => ?_)
   · (try dsimp only); with_reducible exact hk12'
   clear hK K hk12'; try simp only [Act.put, lt, ly, lu]
   refine wpAnyH_ready (rs := [26]) (by kernel_rfl) (by simp) (AllReadyH.cons (o := ?oq36) ?eq36 ?kq36 AllReadyH.nil)
   case eq36 => simp only [lg, lz, ls]; rfl
   intro K hK; go_simp; go_at_call 34
   refine (bsub_val e_Ad.out e_Bc.out (hRbig5.out.keep (Below.step (Below.step (Below.step (Below.step (Below.step (Below.step b6.out b7.out) b8.out) b9.out) b10.out) b11.out) b12.out)) (hRt5.out.keep (Below.step (Below.step (Below.step (Below.step (Below.step (Below.step b6.out b7.out) b8.out) b9.out) b10.out) b11.out) b12.out)) z_A.out z_B.out z_c.out z_d.out).mono ?_
   rintro e w13 ⟨v13, rfl, hv13, b13⟩
   obtain ⟨C17, j17, C18, j18, C19, j19, C20, j20, rfl, -, -⟩ := id hv13.opened
   replace hv13 := hid hv13
   replace b13 := hid b13; have hk13 := hcall hk12 HSZ5 b13.out; have hk13' := hk13; unfold Held0 at hk13'; clear hHeld hk12
   refine hK.out _ _ ?_ (fun hHeld => ?_)
   · (try dsimp only); with_reducible exact hk13'
   clear hK K hk13'; try simp only [Act.put, lt, ly, lu]
   refine wpAnyH_ready (rs := [27]) (by kernel_rfl) (by simp) (AllReadyH.cons (o := ?oq37) ?eq37 ?kq37 AllReadyH.nil)
   case eq37 => simp only [lg, lz, ls]; rfl
   intro K hK; go_simp; go_at_call 45
   refine (inside_val i4.out (hv12.out.keep b13.out) hv13.out z_ad.out z_bc.out z_Ad.out z_Bc.out).mono ?_
   rintro e w14 ⟨rfl, b14⟩
   replace b14 := hid b14; have hk14 := hcall hk13 HSZ5 b14.out; have hk14' := hk14; unfold Held0 at hk14'; clear hHeld hk13
   refine hK.out _ _ ?_ (fun hHeld => ?_)
   · (try dsimp only); with_reducible exact hk14'
   clear hK K hk14'; try simp only [Act.put, lt, ly, lu]
   refine wpAnyH_take (i := 28) (v := ?vq38) (oi := ?oq38) ?eq38 ?aq38 ?bq38 ?cq38 ?dq38 ?yq38 ?sq38 ?rq38
   case eq38 => simp only [lg, lz, ls]; rfl
   case aq38 | bq38 | cq38 => kernel_rfl
   case dq38 => exact fun _ _ _ h => h
   case yq38 => refine Or.inl ⟨by rfl, ?_⟩; intro w hSw; (try dsimp only at hSw); go_simp; try with_reducible rfl
   case sq38 => assumption
   try simp only [Act.put, lt, ly, lu]
   refine wpAnyH_take (i := 29) (v := ?vq39) (oi := ?oq39) ?eq39 ?aq39 ?bq39 ?cq39 ?dq39 ?yq39 ?sq39 ?rq39
   case eq39 => simp only [lg, lz, ls]; rfl
   case aq39 | bq39 | cq39 => kernel_rfl
   case dq39 => exact fun _ _ _ h => h
   case yq39 => refine Or.inl ⟨by rfl, ?_⟩; intro w hSw; (try dsimp only at hSw); go_simp; try with_reducible rfl
   case sq39 => assumption
   try simp only [Act.put, lt, ly, lu]
   refine wpAnyH_take (i := 30) (v := ?vq40) (oi := ?oq40) ?eq40 ?aq40 ?bq40 ?cq40 ?dq40 ?yq40 ?sq40 ?rq40
   case eq40 => simp only [lg, lz, ls]; rfl
   case aq40 | bq40 | cq40 => kernel_rfl
   case dq40 => exact fun _ _ _ h => h
   case yq40 => refine Or.inl ⟨by rfl, ?_⟩; intro w hSw; (try dsimp only at hSw); go_simp; try with_reducible rfl
   case sq40 => assumption
   try simp only [Act.put, lt, ly, lu]
   refine wpAnyH_take (i := 31) (v := ?vq41) (oi := ?oq41) ?eq41 ?aq41 ?bq41 ?cq41 ?dq41 ?yq41 ?sq41 ?rq41
   case eq41 => simp only [lg, lz, ls]; rfl
   case aq41 | bq41 | cq41 => kernel_rfl
   case dq41 => exact fun _ _ _ h => h
   case yq41 => refine Or.inl ⟨by rfl, ?_⟩; intro w hSw; (try dsimp only at hSw); go_simp; try with_reducible rfl
   case sq41 => assumption
   try simp only [Act.put, lt, ly, lu]
   refine wpAnyH_take (i := 32) (v := ?vq42) (oi := ?oq42) ?eq42 ?aq42 ?bq42 ?cq42 ?dq42 ?yq42 ?sq42 ?rq42
   case eq42 => simp only [lg, lz, ls]; rfl
   case aq42 | bq42 | cq42 => kernel_rfl
   case dq42 => exact fun _ _ _ h => h
   case yq42 => refine Or.inl ⟨by rfl, ?_⟩; intro w hSw; (try dsimp only at hSw); go_simp; try with_reducible rfl
   case sq42 => assumption
   try simp only [Act.put, lt, ly, lu]
   refine wpAnyH_take (i := 34) (v := ?vq43) (oi := ?oq43) ?eq43 ?aq43 ?bq43 ?cq43 ?dq43 ?yq43 ?sq43 ?rq43
   case eq43 => simp only [lg, lz, ls]; rfl
   case aq43 | bq43 | cq43 => kernel_rfl
   case dq43 => exact fun _ _ _ h => h
   case yq43 => refine Or.inl ⟨by rfl, ?_⟩; intro w hSw; (try dsimp only at hSw); go_simp; try with_reducible rfl
   case sq43 => assumption
   try simp only [Act.put, lt, ly, lu]
   refine wpAnyH_take (i := 35) (v := ?vq44) (oi := ?oq44) ?eq44 ?aq44 ?bq44 ?cq44 ?dq44 ?yq44 ?sq44 ?rq44
   case eq44 => simp only [lg, lz, ls]; rfl
   case aq44 | bq44 | cq44 => kernel_rfl
   case dq44 => exact fun _ _ _ h => h
   case yq44 => refine Or.inl ⟨by rfl, ?_⟩; intro w hSw; (try dsimp only at hSw); go_simp; try with_reducible rfl
   case sq44 => assumption
   try simp only [Act.put, lt, ly, lu]
   refine wpAnyH_ready (rs := [33]) (by kernel_rfl) (by simp) (AllReadyH.cons (o := ?oq45) ?eq45 ?kq45 AllReadyH.nil)
   case eq45 => simp only [lg, lz, ls]; rfl
   intro K hK; go_simp; go_at_call 34
   refine (bsub_val e_cb.out e_da.out (hRt5.out.keep (Below.step (Below.step (Below.step (Below.step (Below.step (Below.step (Below.step (Below.step b6.out b7.out) b8.out) b9.out) b10.out) b11.out) b12.out) b13.out) b14.out)) (hRs5.out.keep (Below.step (Below.step (Below.step (Below.step (Below.step (Below.step (Below.step (Below.step b6.out b7.out) b8.out) b9.out) b10.out) b11.out) b12.out) b13.out) b14.out)) z_c.out z_d.out z_a.out z_b.out).mono ?_
   rintro e w15 ⟨v15, rfl, hv15, b15⟩
   obtain ⟨C21, j21, C22, j22, C23, j23, C24, j24, rfl, -, -⟩ := id hv15.opened
   replace hv15 := hid hv15
   replace b15 := hid b15; have hk15 := hcall hk14 HSZ5 b15.out; have hk15' := hk15; unfold Held0 at hk15'; clear hHeld hk14
   refine hK.out _ _ ?_ (fun hHeld => ?_)
   · (try dsimp only); with_reducible exact hk15'
   clear hK K hk15'; try simp only [Act.put, lt, ly, lu]
   refine wpAnyH_ready (rs := [36]) (by kernel_rfl) (by simp) (AllReadyH.cons (o := ?oq46) ?eq46 ?kq46 AllReadyH.nil)
   case eq46 => simp only [lg, lz, ls]; rfl
   intro K hK; go_simp; go_at_call 34
   refine (bsub_val e_cB.out e_dA.out (hRt5.out.keep (Below.step (Below.step (Below.step (Below.step (Below.step (Below.step (Below.step (Below.step (Below.step b6.out b7.out) b8.out) b9.out) b10.out) b11.out) b12.out) b13.out) b14.out) b15.out)) (hRbig5.out.keep (Below.step (Below.step (Below.step (Below.step (Below.step (Below.step (Below.step (Below.step (Below.step b6.out b7.out) b8.out) b9.out) b10.out) b11.out) b12.out) b13.out) b14.out) b15.out)) z_c.out z_d.out z_A.out z_B.out).mono ?_
   rintro e w16 ⟨v16, rfl, hv16, b16⟩
   obtain ⟨C25, j25, C26, j26, C27, j27, C28, j28, rfl, -, -⟩ := id hv16.opened
   replace hv16 := hid hv16
   replace b16 := hid b16; have hk16 := hcall hk15 HSZ5 b16.out; have hk16' := hk16; unfold Held0 at hk16'; clear hHeld hk15
   refine hK.out _ _ ?_ (fun hHeld => ?_)
   · (try dsimp only); with_reducible exact hk16'
   clear hK K hk16'; try simp only [Act.put, lt, ly, lu]
   refine wpAnyH_ready (rs := [37]) (by kernel_rfl) (by simp) (AllReadyH.cons (o := ?oq47) ?eq47 ?kq47 AllReadyH.nil)
   case eq47 => simp only [lg, lz, ls]; rfl
   intro K hK; go_simp; go_at_call 45
   refine (inside_val i5.out (hv15.out.keep b16.out) hv16.out z_cb.out z_da.out z_cB.out z_dA.out).mono ?_
   rintro e w17 ⟨rfl, b17⟩
   replace b17 := hid b17; have hk17 := hcall hk16 HSZ5 b17.out; have hk17' := hk17; unfold Held0 at hk17'; clear hHeld hk16
   refine hK.out _ _ ?_ (fun hHeld => ?_)
   · (try dsimp only); with_reducible exact hk17'
   clear hK K hk17'; try simp only [Act.put, lt, ly, lu]
   refine wpAnyH_take (i := 38) (v := ?vq48) (oi := ?oq48) ?eq48 ?aq48 ?bq48 ?cq48 ?dq48 ?yq48 ?sq48 ?rq48
   case eq48 => simp only [lg, lz, ls]; rfl
   case aq48 | bq48 | cq48 => kernel_rfl
   case dq48 => exact fun _ _ _ h => h
   case yq48 => refine Or.inl ⟨by rfl, ?_⟩; intro w hSw; (try dsimp only at hSw); go_simp; try with_reducible rfl
   case sq48 => assumption
   try simp only [Act.put, lt, ly, lu]
   refine wpAnyH_take (i := 39) (v := ?vq49) (oi := ?oq49) ?eq49 ?aq49 ?bq49 ?cq49 ?dq49 ?yq49 ?sq49 ?rq49
   case eq49 => simp only [lg, lz, ls]; rfl
   case aq49 | bq49 | cq49 => kernel_rfl
   case dq49 => exact fun _ _ _ h => h
   case yq49 => refine Or.inl ⟨by rfl, ?_⟩; intro w hSw; (try dsimp only at hSw); go_simp; try with_reducible rfl
   case sq49 => assumption
   try simp only [Act.put, lt, ly, lu]
   refine wpAnyH_take (i := 40) (v := ?vq50) (oi := ?oq50) ?eq50 ?aq50 ?bq50 ?cq50 ?dq50 ?yq50 ?sq50 ?rq50
   case eq50 => simp only [lg, lz, ls]; rfl
   case aq50 | bq50 | cq50 => kernel_rfl
   case dq50 => exact fun _ _ _ h => h
   case yq50 => refine Or.inl ⟨by rfl, ?_⟩; intro w hSw; (try dsimp only at hSw); go_simp; try with_reducible rfl
   case sq50 => assumption
   try simp only [Act.put, lt, ly, lu]
   refine wpAnyH_take (i := 41) (v := ?vq51) (oi := ?oq51) ?eq51 ?aq51 ?bq51 ?cq51 ?dq51 ?yq51 ?sq51 ?rq51
   case eq51 => simp only [lg, lz, ls]; rfl
   case aq51 | bq51 | cq51 => kernel_rfl
   case dq51 => exact fun _ _ _ h => h
   case yq51 => refine Or.inl ⟨by rfl, ?_⟩; intro w hSw; (try dsimp only at hSw); go_simp; try with_reducible rfl
   case sq51 => assumption
   try simp only [Act.put, lt, ly, lu]
   refine wpAnyH_take (i := 42) (v := ?vq52) (oi := ?oq52) ?eq52 ?aq52 ?bq52 ?cq52 ?dq52 ?yq52 ?sq52 ?rq52
   case eq52 => simp only [lg, lz, ls]; rfl
   case aq52 | bq52 | cq52 => kernel_rfl
   case dq52 => exact fun _ _ _ h => h
   case yq52 => refine Or.inl ⟨by rfl, ?_⟩; intro w hSw; (try dsimp only at hSw); go_simp; try with_reducible rfl
   case sq52 => assumption
   try simp only [Act.put, lt, ly, lu]
   refine wpAnyH_take (i := 44) (v := ?vq53) (oi := ?oq53) ?eq53 ?aq53 ?bq53 ?cq53 ?dq53 ?yq53 ?sq53 ?rq53
   case eq53 => simp only [lg, lz, ls]; rfl
   case aq53 | bq53 | cq53 => kernel_rfl
   case dq53 => exact fun _ _ _ h => h
   case yq53 => refine Or.inl ⟨by rfl, ?_⟩; intro w hSw; (try dsimp only at hSw); go_simp; try with_reducible rfl
   case sq53 => assumption
   try simp only [Act.put, lt, ly, lu]
   refine wpAnyH_take (i := 45) (v := ?vq54) (oi := ?oq54) ?eq54 ?aq54 ?bq54 ?cq54 ?dq54 ?yq54 ?sq54 ?rq54
   case eq54 => simp only [lg, lz, ls]; rfl
   case aq54 | bq54 | cq54 => kernel_rfl
   case dq54 => exact fun _ _ _ h => h
   case yq54 => refine Or.inl ⟨by rfl, ?_⟩; intro w hSw; (try dsimp only at hSw); go_simp; try with_reducible rfl
   case sq54 => assumption
   try simp only [Act.put, lt, ly, lu]
   refine wpAnyH_ready (rs := [43]) (by kernel_rfl) (by simp) (AllReadyH.cons (o := ?oq55) ?eq55 ?kq55 AllReadyH.nil)
   case eq55 => simp only [lg, lz, ls]; rfl
   intro K hK; go_simp; go_at_call 35
   refine (bmul_val e_m1.out e_m2.out (hRs5.out.keep (Below.step (Below.step (Below.step (Below.step (Below.step (Below.step (Below.step (Below.step (Below.step (Below.step (Below.step b6.out b7.out) b8.out) b9.out) b10.out) b11.out) b12.out) b13.out) b14.out) b15.out) b16.out) b17.out)) (hRt5.out.keep (Below.step (Below.step (Below.step (Below.step (Below.step (Below.step (Below.step (Below.step (Below.step (Below.step (Below.step b6.out b7.out) b8.out) b9.out) b10.out) b11.out) b12.out) b13.out) b14.out) b15.out) b16.out) b17.out)) z_a.out z_b.out z_c.out z_d.out).mono ?_
   rintro e w18 ⟨v18, rfl, hv18, b18⟩
   obtain ⟨C29, j29, C30, j30, C31, j31, C32, j32, rfl, -, -⟩ := id hv18.opened
   replace hv18 := hid hv18
   replace b18 := hid b18; have hk18 := hcall hk17 HSZ5 b18.out; have hk18' := hk18; unfold Held0 at hk18'; clear hHeld hk17
   refine hK.out _ _ ?_ (fun hHeld => ?_)
   · (try dsimp only); with_reducible exact hk18'
   clear hK K hk18'; try simp only [Act.put, lt, ly, lu]
   refine wpAnyH_ready (rs := [46]) (by kernel_rfl) (by simp) (AllReadyH.cons (o := ?oq56) ?eq56 ?kq56 AllReadyH.nil)
   case eq56 => simp only [lg, lz, ls]; rfl
   intro K hK; go_simp; go_at_call 35
   refine (bmul_val e_M1.out e_M2.out (hRbig5.out.keep (Below.step (Below.step (Below.step (Below.step (Below.step (Below.step (Below.step (Below.step (Below.step (Below.step (Below.step (Below.step b6.out b7.out) b8.out) b9.out) b10.out) b11.out) b12.out) b13.out) b14.out) b15.out) b16.out) b17.out) b18.out)) (hRt5.out.keep (Below.step (Below.step (Below.step (Below.step (Below.step (Below.step (Below.step (Below.step (Below.step (Below.step (Below.step (Below.step b6.out b7.out) b8.out) b9.out) b10.out) b11.out) b12.out) b13.out) b14.out) b15.out) b16.out) b17.out) b18.out)) z_A.out z_B.out z_c.out z_d.out).mono ?_
   rintro e w19 ⟨v19, rfl, hv19, b19⟩
   obtain ⟨C33, j33, C34, j34, C35, j35, C36, j36, rfl, -, -⟩ := id hv19.opened
   replace hv19 := hid hv19
   replace b19 := hid b19; have hk19 := hcall hk18 HSZ5 b19.out; have hk19' := hk19; unfold Held0 at hk19'; clear hHeld hk18
   refine hK.out _ _ ?_ (fun hHeld => ?_)
   · (try dsimp only); with_reducible exact hk19'
   clear hK K hk19'; try simp only [Act.put, lt, ly, lu]
   refine wpAnyH_ready (rs := [47]) (by kernel_rfl) (by simp) (AllReadyH.cons (o := ?oq57) ?eq57 ?kq57 AllReadyH.nil)
   case eq57 => simp only [lg, lz, ls]; rfl
   intro K hK; go_simp; go_at_call 45
   refine (inside_val i6.out (hv18.out.keep b19.out) hv19.out z_m1.out z_m2.out z_M1.out z_M2.out).mono ?_
   rintro e w20 ⟨rfl, b20⟩
   replace b20 := hid b20; have hk20 := hcall hk19 HSZ5 b20.out; have hk20' := hk20; unfold Held0 at hk20'; clear hHeld hk19
   refine hK.out _ _ ?_ (fun hHeld => ?_)
   · (try dsimp only); with_reducible exact hk20'
   clear hK K hk20'; try simp only [Act.put, lt, ly, lu]
   refine wpAnyH_take (i := 48) (v := ?vq58) (oi := ?oq58) ?eq58 ?aq58 ?bq58 ?cq58 ?dq58 ?yq58 ?sq58 ?rq58
   case eq58 => simp only [lg, lz, ls]; rfl
   case aq58 | bq58 | cq58 => kernel_rfl
   case dq58 => exact fun _ _ _ h => h
   case yq58 => refine Or.inl ⟨by rfl, ?_⟩; intro w hSw; (try dsimp only at hSw); go_simp; try with_reducible rfl
   case sq58 => assumption
   try simp only [Act.put, lt, ly, lu]
   refine wpAnyH_take (i := 49) (v := ?vq59) (oi := ?oq59) ?eq59 ?aq59 ?bq59 ?cq59 ?dq59 ?yq59 ?sq59 ?rq59
   case eq59 => simp only [lg, lz, ls]; rfl
   case aq59 | bq59 | cq59 => kernel_rfl
   case dq59 => exact fun _ _ _ h => h
   case yq59 => refine Or.inl ⟨by rfl, ?_⟩; intro w hSw; (try dsimp only at hSw); go_simp; try with_reducible rfl
   case sq59 => assumption
   try simp only [Act.put, lt, ly, lu]
   refine wpAnyH_take (i := 50) (v := ?vq60) (oi := ?oq60) ?eq60 ?aq60 ?bq60 ?cq60 ?dq60 ?yq60 ?sq60 ?rq60
   case eq60 => simp only [lg, lz, ls]; rfl
   case aq60 | bq60 | cq60 => kernel_rfl
   case dq60 => exact fun _ _ _ h => h
   case yq60 => refine Or.inl ⟨by rfl, ?_⟩; intro w hSw; (try dsimp only at hSw); go_simp; try with_reducible rfl
   case sq60 => assumption
   try simp only [Act.put, lt, ly, lu]
   refine wpAnyH_take (i := 51) (v := ?vq61) (oi := ?oq61) ?eq61 ?aq61 ?bq61 ?cq61 ?dq61 ?yq61 ?sq61 ?rq61
   case eq61 => simp only [lg, lz, ls]; rfl
   case aq61 | bq61 | cq61 => kernel_rfl
   case dq61 => exact fun _ _ _ h => h
   case yq61 => refine Or.inl ⟨by rfl, ?_⟩; intro w hSw; (try dsimp only at hSw); go_simp; try with_reducible rfl
   case sq61 => assumption
   try simp only [Act.put, lt, ly, lu]
   refine wpAnyH_take (i := 53) (v := ?vq62) (oi := ?oq62) ?eq62 ?aq62 ?bq62 ?cq62 ?dq62 ?yq62 ?sq62 ?rq62
   case eq62 => simp only [lg, lz, ls]; rfl
   case aq62 | bq62 | cq62 => kernel_rfl
   case dq62 => exact fun _ _ _ h => h
   case yq62 => refine Or.inl ⟨by rfl, ?_⟩; intro w hSw; (try dsimp only at hSw); go_simp; try with_reducible rfl
   case sq62 => assumption
   try simp only [Act.put, lt, ly, lu]
   refine wpAnyH_ready (rs := [52]) (by kernel_rfl) (by simp) (AllReadyH.cons (o := ?oq63) ?eq63 ?kq63 AllReadyH.nil)
   case eq63 => simp only [lg, lz, ls]; rfl
   intro K hK; go_simp; go_at_call 37
   refine (babs_val e_v1.out e_v2.out (hRs5.out.keep (Below.step (Below.step (Below.step (Below.step (Below.step (Below.step (Below.step (Below.step (Below.step (Below.step (Below.step (Below.step (Below.step (Below.step b6.out b7.out) b8.out) b9.out) b10.out) b11.out) b12.out) b13.out) b14.out) b15.out) b16.out) b17.out) b18.out) b19.out) b20.out)) z_a.out z_b.out).mono ?_
   rintro e w21 ⟨v21, rfl, hv21, b21⟩
   obtain ⟨C37, j37, C38, j38, C39, j39, C40, j40, rfl, -, -⟩ := id hv21.opened
   replace hv21 := hid hv21
   replace b21 := hid b21; have hk21 := hcall hk20 HSZ5 b21.out; have hk21' := hk21; unfold Held0 at hk21'; clear hHeld hk20
   refine hK.out _ _ ?_ (fun hHeld => ?_)
   · (try dsimp only); with_reducible exact hk21'
   clear hK K hk21'; try simp only [Act.put, lt, ly, lu]
   refine wpAnyH_ready (rs := [54]) (by kernel_rfl) (by simp) (AllReadyH.cons (o := ?oq64) ?eq64 ?kq64 AllReadyH.nil)
   case eq64 => simp only [lg, lz, ls]; rfl
   intro K hK; go_simp; go_at_call 37
   refine (babs_val e_V1.out e_V2.out (hRbig5.out.keep (Below.step (Below.step (Below.step (Below.step (Below.step (Below.step (Below.step (Below.step (Below.step (Below.step (Below.step (Below.step (Below.step (Below.step (Below.step b6.out b7.out) b8.out) b9.out) b10.out) b11.out) b12.out) b13.out) b14.out) b15.out) b16.out) b17.out) b18.out) b19.out) b20.out) b21.out)) z_A.out z_B.out).mono ?_
   rintro e w22 ⟨v22, rfl, hv22, b22⟩
   obtain ⟨C41, j41, C42, j42, C43, j43, C44, j44, rfl, -, -⟩ := id hv22.opened
   replace hv22 := hid hv22
   replace b22 := hid b22; have hk22 := hcall hk21 HSZ5 b22.out; have hk22' := hk22; unfold Held0 at hk22'; clear hHeld hk21
   refine hK.out _ _ ?_ (fun hHeld => ?_)
   · (try dsimp only); with_reducible exact hk22'
   clear hK K hk22'; try simp only [Act.put, lt, ly, lu]
   refine wpAnyH_ready (rs := [55]) (by kernel_rfl) (by simp) (AllReadyH.cons (o := ?oq65) ?eq65 ?kq65 AllReadyH.nil)
   case eq65 => simp only [lg, lz, ls]; rfl
   intro K hK; go_simp; go_at_call 45
   refine (inside_val i7.out (hv21.out.keep b22.out) hv22.out z_v1.out z_v2.out z_V1.out z_V2.out).mono ?_
   rintro e w23 ⟨rfl, b23⟩
   replace b23 := hid b23; have hk23 := hcall hk22 HSZ5 b23.out; have hk23' := hk23; unfold Held0 at hk23'; clear hHeld hk22
   refine hK.out _ _ ?_ (fun hHeld => ?_)
   · (try dsimp only); with_reducible exact hk23'
   clear hK K hk23'; try simp only [Act.put, lt, ly, lu]
   refine wpAnyH_take (i := 56) (v := ?vq66) (oi := ?oq66) ?eq66 ?aq66 ?bq66 ?cq66 ?dq66 ?yq66 ?sq66 ?rq66
   case eq66 => simp only [lg, lz, ls]; rfl
   case aq66 | bq66 | cq66 => kernel_rfl
   case dq66 => exact fun _ _ _ h => h
   case yq66 => refine Or.inl ⟨by rfl, ?_⟩; intro w hSw; (try dsimp only at hSw); go_simp; try with_reducible rfl
   case sq66 => assumption
   try simp only [Act.put, lt, ly, lu]
   refine wpAnyH_take (i := 57) (v := ?vq67) (oi := ?oq67) ?eq67 ?aq67 ?bq67 ?cq67 ?dq67 ?yq67 ?sq67 ?rq67
   case eq67 => simp only [lg, lz, ls]; rfl
   case aq67 | bq67 | cq67 => kernel_rfl
   case dq67 => exact fun _ _ _ h => h
   case yq67 => refine Or.inl ⟨by rfl, ?_⟩; intro w hSw; (try dsimp only at hSw); go_simp; try with_reducible rfl
   case sq67 => assumption
   try simp only [Act.put, lt, ly, lu]
   refine wpAnyH_done (by kernel_rfl) ?_ _
   clear hHeld
   clear z_s_0 z_s_1 z_s_2 z_s_3 z_s_4 z_s_5 z_t_0 z_t_1 z_t_2 z_t_3 z_t_4 z_t_5 z_cx_0 z_cx_1 z_cx_2 z_cx_3 z_cx_4 z_cx_5 z_big_0 z_big_1 z_big_2 z_big_3 z_big_4 z_big_5 hlt5_s hlt5_t hlt5_cx hlt5_big
   clear hk23 HSZ5
   have hRs23 := hid (hRs5.out.keep (Below.step (Below.step (Below.step (Below.step (Below.step (Below.step (Below.step (Below.step (Below.step (Below.step (Below.step (Below.step (Below.step (Below.step (Below.step (Below.step (Below.step b6.out b7.out) b8.out) b9.out) b10.out) b11.out) b12.out) b13.out) b14.out) b15.out) b16.out) b17.out) b18.out) b19.out) b20.out) b21.out) b22.out) b23.out))
   have hRt23 := hid (hRt5.out.keep (Below.step (Below.step (Below.step (Below.step (Below.step (Below.step (Below.step (Below.step (Below.step (Below.step (Below.step (Below.step (Below.step (Below.step (Below.step (Below.step (Below.step b6.out b7.out) b8.out) b9.out) b10.out) b11.out) b12.out) b13.out) b14.out) b15.out) b16.out) b17.out) b18.out) b19.out) b20.out) b21.out) b22.out) b23.out))
   have hRcx23 := hid (hRcx5.out.keep (Below.step (Below.step (Below.step (Below.step (Below.step (Below.step (Below.step (Below.step (Below.step (Below.step (Below.step (Below.step (Below.step (Below.step (Below.step (Below.step (Below.step b6.out b7.out) b8.out) b9.out) b10.out) b11.out) b12.out) b13.out) b14.out) b15.out) b16.out) b17.out) b18.out) b19.out) b20.out) b21.out) b22.out) b23.out))
   have hRbig23 := hid (hRbig5.out.keep (Below.step (Below.step (Below.step (Below.step (Below.step (Below.step (Below.step (Below.step (Below.step (Below.step (Below.step (Below.step (Below.step (Below.step (Below.step (Below.step (Below.step b6.out b7.out) b8.out) b9.out) b10.out) b11.out) b12.out) b13.out) b14.out) b15.out) b16.out) b17.out) b18.out) b19.out) b20.out) b21.out) b22.out) b23.out))
   have LRpair23 : Hid (w23.heap[w.heap.size]? = some (.cells #[.string s1, .string s2, .string s3, .string s4, .string s5, .string s6, .int .u8 (m : Nat), .int .u8 (n : Nat), .int .u8 (p : Nat)] 50 (0, 0))) := ((Below.step (Below.step (Below.step (Below.step (Below.step (Below.step (Below.step (Below.step (Below.step (Below.step (Below.step (Below.step (Below.step (Below.step (Below.step (Below.step (Below.step b6.out b7.out) b8.out) b9.out) b10.out) b11.out) b12.out) b13.out) b14.out) b15.out) b16.out) b17.out) b18.out) b19.out) b20.out) b21.out) b22.out) b23.out).block _ (Array.getElem?_eq_some_iff.1 LRpair5.out).1).trans LRpair5.out
   have LRs23 : Hid (w23.heap[n3]? = some (.cells #[.bool (decide (a.num < 0)), .slice B3x0 (len a.num.natAbs) b3x0, .slice B3x1 (len (below a.den)) b3x1, .bool (decide (b.num < 0)), .slice B3x2 (len b.num.natAbs) b3x2, .slice B3x3 (len (below b.den)) b3x3] 53 (0, 0))) := ((Below.step (Below.step (Below.step (Below.step (Below.step (Below.step (Below.step (Below.step (Below.step (Below.step (Below.step (Below.step (Below.step (Below.step (Below.step (Below.step (Below.step b6.out b7.out) b8.out) b9.out) b10.out) b11.out) b12.out) b13.out) b14.out) b15.out) b16.out) b17.out) b18.out) b19.out) b20.out) b21.out) b22.out) b23.out).block _ (Array.getElem?_eq_some_iff.1 LRs5.out).1).trans LRs5.out
   have LRt23 : Hid (w23.heap[n4]? = some (.cells #[.bool (decide (c.num < 0)), .slice B4x0 (len c.num.natAbs) b4x0, .slice B4x1 (len (below c.den)) b4x1, .bool (decide (d.num < 0)), .slice B4x2 (len d.num.natAbs) b4x2, .slice B4x3 (len (below d.den)) b4x3] 53 (0, 0))) := ((Below.step (Below.step (Below.step (Below.step (Below.step (Below.step (Below.step (Below.step (Below.step (Below.step (Below.step (Below.step (Below.step (Below.step (Below.step (Below.step (Below.step b6.out b7.out) b8.out) b9.out) b10.out) b11.out) b12.out) b13.out) b14.out) b15.out) b16.out) b17.out) b18.out) b19.out) b20.out) b21.out) b22.out) b23.out).block _ (Array.getElem?_eq_some_iff.1 LRt5.out).1).trans LRt5.out
   have LRcx23 : Hid (w23.heap[n5]? = some (.cells #[.bool (decide (e.num < 0)), .slice B5x0 (len e.num.natAbs) b5x0, .slice B5x1 (len (below e.den)) b5x1, .bool (decide (f.num < 0)), .slice B5x2 (len f.num.natAbs) b5x2, .slice B5x3 (len (below f.den)) b5x3] 53 (0, 0))) := ((Below.step (Below.step (Below.step (Below.step (Below.step (Below.step (Below.step (Below.step (Below.step (Below.step (Below.step (Below.step (Below.step (Below.step (Below.step (Below.step (Below.step b6.out b7.out) b8.out) b9.out) b10.out) b11.out) b12.out) b13.out) b14.out) b15.out) b16.out) b17.out) b18.out) b19.out) b20.out) b21.out) b22.out) b23.out).block _ (Array.getElem?_eq_some_iff.1 LRcx5.out).1).trans LRcx5.out
   have LRbig23 : Hid (w23.heap[w4.heap.size]? = some (.cells #[.bool (decide (A.num < 0)), .slice C1 (len A.num.natAbs) j1, .slice C2 (len (below A.den)) j2, .bool (decide (B.num < 0)), .slice C3 (len B.num.natAbs) j3, .slice C4 (len (below B.den)) j4] 53 (0, 0))) := ((Below.step (Below.step (Below.step (Below.step (Below.step (Below.step (Below.step (Below.step (Below.step (Below.step (Below.step (Below.step (Below.step (Below.step (Below.step (Below.step (Below.step b6.out b7.out) b8.out) b9.out) b10.out) b11.out) b12.out) b13.out) b14.out) b15.out) b16.out) b17.out) b18.out) b19.out) b20.out) b21.out) b22.out) b23.out).block _ (Array.getElem?_eq_some_iff.1 L5.out).1).trans L5.out
   have HMB23 := hid (cell_keep HMB5.out (Below.step (Below.step (Below.step (Below.step (Below.step (Below.step (Below.step (Below.step (Below.step (Below.step (Below.step (Below.step (Below.step (Below.step (Below.step (Below.step (Below.step b6.out b7.out) b8.out) b9.out) b10.out) b11.out) b12.out) b13.out) b14.out) b15.out) b16.out) b17.out) b18.out) b19.out) b20.out) b21.out) b22.out) b23.out))
   have HTB23 := hid (tab_keep HTB5.out (Below.step (Below.step (Below.step (Below.step (Below.step (Below.step (Below.step (Below.step (Below.step (Below.step (Below.step (Below.step (Below.step (Below.step (Below.step (Below.step (Below.step b6.out b7.out) b8.out) b9.out) b10.out) b11.out) b12.out) b13.out) b14.out) b15.out) b16.out) b17.out) b18.out) b19.out) b20.out) b21.out) b22.out) b23.out))
   have HBB23 := hid (Below.step HBB5.out (Below.step (Below.step (Below.step (Below.step (Below.step (Below.step (Below.step (Below.step (Below.step (Below.step (Below.step (Below.step (Below.step (Below.step (Below.step (Below.step (Below.step b6.out b7.out) b8.out) b9.out) b10.out) b11.out) b12.out) b13.out) b14.out) b15.out) b16.out) b17.out) b18.out) b19.out) b20.out) b21.out) b22.out) b23.out))
   clear hRs5 hRt5 hRcx5 hRbig5 LRpair5 LRs5 LRt5 LRcx5 L5 HMB5 HTB5 HBB5 b6 b7 b8 b9 b10 b11 b12 b13 b14 b15 b16 b17 b18 b19 b20 b21 b22 b23
   clear i1 i2 i3 i4 i5 i6 i7 z_ac z_bd z_Ac z_Bd z_ad z_bc z_Ad z_Bc z_cb z_da z_cB z_dA z_m1 z_m2 z_M1 z_M2 z_v1 z_v2 z_V1 z_V2 e_ac e_bd e_Ac e_Bd e_ad e_bc e_Ad e_Bc e_cb e_da e_cB e_dA e_m1 e_m2 e_M1 e_M2 e_v1 e_v2 e_V1 e_V2
   obtain ⟨q1, e_q1⟩ : ∃ z : Rat, leastOf (c / A) [c / B, d / A, d / B] = z := ⟨_, rfl⟩
   obtain ⟨q2, e_q2⟩ : ∃ z : Rat, greatestOf (c / A) [c / B, d / A, d / B] = z := ⟨_, rfl⟩
   obtain ⟨r1, e_r1⟩ : ∃ z : Rat, leastOf (c / a) [c / b, d / a, d / b] = z := ⟨_, rfl⟩
   obtain ⟨r2, e_r2⟩ : ∃ z : Rat, greatestOf (c / a) [c / b, d / a, d / b] = z := ⟨_, rfl⟩
   obtain ⟨z0, e_z0⟩ : ∃ z : Rat, 0 = z := ⟨_, rfl⟩
   have zy_a := zz_a.out
   have zy_b := zz_b.out
   have zy_c := zz_c.out
   have zy_d := zz_d.out
   have zy_e := zz_e.out
   have zy_f := zz_f.out
   have zy_A := zz_A.out
   have zy_B := zz_B.out
   have z_q1 : Hid (siz q1 ≤ 536870912) := by show _ ≤ _; exact siz_l4 e_q1 (Nat.le_trans (siz_div c A) (by omega)) (Nat.le_trans (siz_div c B) (by omega)) (Nat.le_trans (siz_div d A) (by omega)) (Nat.le_trans (siz_div d B) (by omega))
   have z_q2 : Hid (siz q2 ≤ 536870912) := by show _ ≤ _; exact siz_g4 e_q2 (Nat.le_trans (siz_div c A) (by omega)) (Nat.le_trans (siz_div c B) (by omega)) (Nat.le_trans (siz_div d A) (by omega)) (Nat.le_trans (siz_div d B) (by omega))
   have z_r1 : Hid (siz r1 ≤ 536870912) := by show _ ≤ _; exact siz_l4 e_r1 (Nat.le_trans (siz_div c a) (by omega)) (Nat.le_trans (siz_div c b) (by omega)) (Nat.le_trans (siz_div d a) (by omega)) (Nat.le_trans (siz_div d b) (by omega))
   have z_r2 : Hid (siz r2 ≤ 536870912) := by show _ ≤ _; exact siz_g4 e_r2 (Nat.le_trans (siz_div c a) (by omega)) (Nat.le_trans (siz_div c b) (by omega)) (Nat.le_trans (siz_div d a) (by omega)) (Nat.le_trans (siz_div d b) (by omega))
   have z_z0 : Hid (siz z0 ≤ 536870912) := by show _ ≤ _; rw [← e_z0]; exact Nat.le_trans siz_zero (by omega)
   obtain ⟨x, e_x⟩ : ∃ z : Rat, a + (b - a) * mkRat ((m : Nat) : Int) 255 = z := ⟨_, rfl⟩
   obtain ⟨y, e_y⟩ : ∃ z : Rat, e + (f - e) * mkRat ((n : Nat) : Int) 255 = z := ⟨_, rfl⟩
   have hx := place_between (p := m) hm hab.out
   rw [e_x] at hx
   have hy := place_between (p := n) hn hef.out
   rw [e_y] at hy
   have zz_x := siz_at hm e_x zy_a zy_b
   have zz_y := siz_at hn e_y zy_e zy_f
   have z_x : Hid (siz x ≤ 536870912) := by show _ ≤ _; exact Nat.le_trans zz_x (by omega)
   have z_y : Hid (siz y ≤ 536870912) := by show _ ≤ _; exact Nat.le_trans zz_y (by omega)
   clear zy_a zy_b zy_c zy_d zy_e zy_f zy_A zy_B zz_x zz_y
   replace e_q1 := hid e_q1
   replace e_q2 := hid e_q2
   replace e_r1 := hid e_r1
   replace e_r2 := hid e_r2
   replace e_z0 := hid e_z0
   replace e_x := hid e_x
   replace e_y := hid e_y
   replace hx := hid hx
   replace hy := hid hy
   go_upto_region 7 with fail
   rename_i G12 hG12 Gb hGb
   replace hG12 := hid hG12
   refine wp_letter ?_
   intro A12 hA12
   replace hA12 := hid hA12
   have rest12 : ∀ (u : World) (y7 y8 y9 y10 y87 y88 y89 y90 y91 y92 y93 y94 y95 y96 y97 y98 y99 y100 y101 y102 y103 y104 y105 y106 y107 y108 : Value), Hid (Below w23.heap.size w23 u) → G12 (Act.put (Act.put (Act.put (Act.put (Act.put (Act.put (Act.put (Act.put (Act.put (Act.put (Act.put (Act.put (Act.put (Act.put (Act.put (Act.put (Act.put (Act.put (Act.put (Act.put (Act.put (Act.put (Act.put (Act.put (Act.put (Act.put A12 (some 7) y7) (some 8) y8) (some 9) y9) (some 10) y10) (some 87) y87) (some 88) y88) (some 89) y89) (some 90) y90) (some 91) y91) (some 92) y92) (some 93) y93) (some 94) y94) (some 95) y95) (some 96) y96) (some 97) y97) (some 98) y98) (some 99) y99) (some 100) y100) (some 101) y101) (some 102) y102) (some 103) y103) (some 104) y104) (some 105) y105) (some 106) y106) (some 107) y107) (some 108) y108) u := by
    intro u y7 y8 y9 y10 y87 y88 y89 y90 y91 y92 y93 y94 y95 y96 y97 y98 y99 y100 y101 y102 y103 y104 y105 y106 y107 y108 hbu
    refine hG12.out _ _ ?_
    rw [← hA12.out]
    simp only [Act.put, lt, ly, lu]
    clear hG12 hA12 Gb hGb
    obtain ⟨w24, hwq⟩ : ∃ z, z = u := ⟨_, rfl⟩
    rw [← hwq] at hbu ⊢
    clear hwq
    have b24 := hbu
    clear hbu
    have hRs24 := hid (hRs23.out.keep b24.out)
    have hRcx24 := hid (hRcx23.out.keep b24.out)
    have hRbig24 := hid (hRbig23.out.keep b24.out)
    have LRpair24 : Hid (w24.heap[w.heap.size]? = some (.cells #[.string s1, .string s2, .string s3, .string s4, .string s5, .string s6, .int .u8 (m : Nat), .int .u8 (n : Nat), .int .u8 (p : Nat)] 50 (0, 0))) := (b24.out.block _ (Array.getElem?_eq_some_iff.1 LRpair23.out).1).trans LRpair23.out
    have LRs24 : Hid (w24.heap[n3]? = some (.cells #[.bool (decide (a.num < 0)), .slice B3x0 (len a.num.natAbs) b3x0, .slice B3x1 (len (below a.den)) b3x1, .bool (decide (b.num < 0)), .slice B3x2 (len b.num.natAbs) b3x2, .slice B3x3 (len (below b.den)) b3x3] 53 (0, 0))) := (b24.out.block _ (Array.getElem?_eq_some_iff.1 LRs23.out).1).trans LRs23.out
    have LRcx24 : Hid (w24.heap[n5]? = some (.cells #[.bool (decide (e.num < 0)), .slice B5x0 (len e.num.natAbs) b5x0, .slice B5x1 (len (below e.den)) b5x1, .bool (decide (f.num < 0)), .slice B5x2 (len f.num.natAbs) b5x2, .slice B5x3 (len (below f.den)) b5x3] 53 (0, 0))) := (b24.out.block _ (Array.getElem?_eq_some_iff.1 LRcx23.out).1).trans LRcx23.out
    have LRbig24 : Hid (w24.heap[w4.heap.size]? = some (.cells #[.bool (decide (A.num < 0)), .slice C1 (len A.num.natAbs) j1, .slice C2 (len (below A.den)) j2, .bool (decide (B.num < 0)), .slice C3 (len B.num.natAbs) j3, .slice C4 (len (below B.den)) j4] 53 (0, 0))) := (b24.out.block _ (Array.getElem?_eq_some_iff.1 LRbig23.out).1).trans LRbig23.out
    have HMB24 := hid (cell_keep HMB23.out b24.out)
    have HTB24 := hid (tab_keep HTB23.out b24.out)
    have HBB24 := hid (Below.step HBB23.out b24.out)
    clear hRs23 hRcx23 hRbig23 LRpair23 LRs23 LRcx23 LRbig23 HMB23 HTB23 HBB23 b24
    obtain ⟨t1, t2, ok, hmt, hfacts⟩ := meet_all e_z0.out hx.out.1 hx.out.2 hy.out.1 hy.out.2 z_a.out z_b.out z_e.out z_f.out z_z0.out
    replace hmt := hid hmt
    replace hfacts := hid hfacts
    have hg : w24.heap[n3]? = some (.cells #[.bool (decide (a.num < 0)), .slice B3x0 (len a.num.natAbs) b3x0, .slice B3x1 (len (below a.den)) b3x1, .bool (decide (b.num < 0)), .slice B3x2 (len b.num.natAbs) b3x2, .slice B3x3 (len (below b.den)) b3x3] 53 (0, 0)) := ((Below.refl _ w24).block _ (Array.getElem?_eq_some_iff.1 LRs24.out).1).trans LRs24.out
    obtain ⟨z_s_0, z_s_1, z_s_2, z_s_3, z_s_4, z_s_5⟩ := cells6 hg
    clear hg
    have hg : w24.heap[n5]? = some (.cells #[.bool (decide (e.num < 0)), .slice B5x0 (len e.num.natAbs) b5x0, .slice B5x1 (len (below e.den)) b5x1, .bool (decide (f.num < 0)), .slice B5x2 (len f.num.natAbs) b5x2, .slice B5x3 (len (below f.den)) b5x3] 53 (0, 0)) := ((Below.refl _ w24).block _ (Array.getElem?_eq_some_iff.1 LRcx24.out).1).trans LRcx24.out
    obtain ⟨z_cx_0, z_cx_1, z_cx_2, z_cx_3, z_cx_4, z_cx_5⟩ := cells6 hg
    clear hg
    have HX := hid (hmt.out _ _ _ hRs24.out hRcx24.out)
    go_wp2_with fail
    refine (HX.out).mono ?_
    rintro e w25 ⟨v25, rfl, hv25, b25⟩
    obtain ⟨C45, j45, C46, j46, C47, j47, C48, j48, rfl, hp25, hq25⟩ := id hv25.opened
    replace hv25 := hid hv25
    clear hp25 hq25
    replace b25 := hid b25
    clear HX
    clear z_s_0 z_s_1 z_s_2 z_s_3 z_s_4 z_s_5 z_cx_0 z_cx_1 z_cx_2 z_cx_3 z_cx_4 z_cx_5
    go_upto_region 13 with fail
    obtain ⟨w26, hw26⟩ : ∃ u, u = w25.alloc (.cells #[.bool (decide (t1.num < 0)), .slice C45 (len t1.num.natAbs) j45, .slice C46 (len (below t1.den)) j46, .bool (decide (t2.num < 0)), .slice C47 (len t2.num.natAbs) j47, .slice C48 (len (below t2.den)) j48] 53) := ⟨_, rfl⟩
    have b26 : Hid (Below w25.heap.size w25 w26) := by rw [hw26]; exact (Below.refl _ _).alloc (Nat.le_refl _) _
    have L26 : Hid (w26.heap[w25.heap.size]? = some (.cells #[.bool (decide (t1.num < 0)), .slice C45 (len t1.num.natAbs) j45, .slice C46 (len (below t1.den)) j46, .bool (decide (t2.num < 0)), .slice C47 (len t2.num.natAbs) j47, .slice C48 (len (below t2.den)) j48] 53 (0, 0))) := by rw [hw26]; exact heap_alloc_new w25 _
    rw [← hw26]
    clear hw26
    have hg : w26.heap[n3]? = some (.cells #[.bool (decide (a.num < 0)), .slice B3x0 (len a.num.natAbs) b3x0, .slice B3x1 (len (below a.den)) b3x1, .bool (decide (b.num < 0)), .slice B3x2 (len b.num.natAbs) b3x2, .slice B3x3 (len (below b.den)) b3x3] 53 (0, 0)) := ((Below.step b25.out b26.out).block _ (Array.getElem?_eq_some_iff.1 LRs24.out).1).trans LRs24.out
    obtain ⟨z_s_0, z_s_1, z_s_2, z_s_3, z_s_4, z_s_5⟩ := cells6 hg
    clear hg
    have hg : w26.heap[w.heap.size]? = some (.cells #[.string s1, .string s2, .string s3, .string s4, .string s5, .string s6, .int .u8 (m : Nat), .int .u8 (n : Nat), .int .u8 (p : Nat)] 50 (0, 0)) := ((Below.step b25.out b26.out).block _ (Array.getElem?_eq_some_iff.1 LRpair24.out).1).trans LRpair24.out
    have z_pair_0 : w26.cell? ⟨w.heap.size, 0, none⟩ = some (.string s1) := cell_of_row _ _ _ _ _ _ hg
    have z_pair_1 : w26.cell? ⟨w.heap.size, 1, none⟩ = some (.string s2) := cell_of_row _ _ _ _ _ _ hg
    have z_pair_2 : w26.cell? ⟨w.heap.size, 2, none⟩ = some (.string s3) := cell_of_row _ _ _ _ _ _ hg
    have z_pair_3 : w26.cell? ⟨w.heap.size, 3, none⟩ = some (.string s4) := cell_of_row _ _ _ _ _ _ hg
    have z_pair_4 : w26.cell? ⟨w.heap.size, 4, none⟩ = some (.string s5) := cell_of_row _ _ _ _ _ _ hg
    have z_pair_5 : w26.cell? ⟨w.heap.size, 5, none⟩ = some (.string s6) := cell_of_row _ _ _ _ _ _ hg
    have z_pair_6 : w26.cell? ⟨w.heap.size, 6, none⟩ = some (.int .u8 (m : Nat)) := cell_of_row _ _ _ _ _ _ hg
    have z_pair_7 : w26.cell? ⟨w.heap.size, 7, none⟩ = some (.int .u8 (n : Nat)) := cell_of_row _ _ _ _ _ _ hg
    have z_pair_8 : w26.cell? ⟨w.heap.size, 8, none⟩ = some (.int .u8 (p : Nat)) := cell_of_row _ _ _ _ _ _ hg
    clear hg
    have HX := hid (at_val e_x.out (hRs24.out.keep (Below.step b25.out b26.out)) hm z_a.out z_b.out)
    go_wp2_with fail
    refine (HX.out).mono ?_
    rintro e w27 ⟨v27, rfl, hv27, b27⟩
    obtain ⟨C49, j49, C50, j50, rfl, -, -⟩ := id hv27.opened
    replace hv27 := hid hv27
    replace b27 := hid b27
    clear HX
    clear z_s_0 z_s_1 z_s_2 z_s_3 z_s_4 z_s_5 z_pair_0 z_pair_1 z_pair_2 z_pair_3 z_pair_4 z_pair_5 z_pair_6 z_pair_7 z_pair_8
    go_upto_region 14 with fail
    obtain ⟨w28, hw28⟩ : ∃ u, u = w27.alloc (.cells #[.bool (decide (x.num < 0)), .slice C49 (len x.num.natAbs) j49, .slice C50 (len (below x.den)) j50] 27) := ⟨_, rfl⟩
    have b28 : Hid (Below w27.heap.size w27 w28) := by rw [hw28]; exact (Below.refl _ _).alloc (Nat.le_refl _) _
    have L28 : Hid (w28.heap[w27.heap.size]? = some (.cells #[.bool (decide (x.num < 0)), .slice C49 (len x.num.natAbs) j49, .slice C50 (len (below x.den)) j50] 27 (0, 0))) := by rw [hw28]; exact heap_alloc_new w27 _
    rw [← hw28]
    clear hw28
    have hRs28 := hid (hRs24.out.keep (Below.step (Below.step (Below.step b25.out b26.out) b27.out) b28.out))
    have hRcx28 := hid (hRcx24.out.keep (Below.step (Below.step (Below.step b25.out b26.out) b27.out) b28.out))
    have hRmt28 := hid (hv25.out.keep (Below.step (Below.step b26.out b27.out) b28.out))
    have hRx28 := hid (hv27.out.keep b28.out)
    have hRbig28 := hid (hRbig24.out.keep (Below.step (Below.step (Below.step b25.out b26.out) b27.out) b28.out))
    have LRpair28 : Hid (w28.heap[w.heap.size]? = some (.cells #[.string s1, .string s2, .string s3, .string s4, .string s5, .string s6, .int .u8 (m : Nat), .int .u8 (n : Nat), .int .u8 (p : Nat)] 50 (0, 0))) := ((Below.step (Below.step (Below.step b25.out b26.out) b27.out) b28.out).block _ (Array.getElem?_eq_some_iff.1 LRpair24.out).1).trans LRpair24.out
    have LRs28 : Hid (w28.heap[n3]? = some (.cells #[.bool (decide (a.num < 0)), .slice B3x0 (len a.num.natAbs) b3x0, .slice B3x1 (len (below a.den)) b3x1, .bool (decide (b.num < 0)), .slice B3x2 (len b.num.natAbs) b3x2, .slice B3x3 (len (below b.den)) b3x3] 53 (0, 0))) := ((Below.step (Below.step (Below.step b25.out b26.out) b27.out) b28.out).block _ (Array.getElem?_eq_some_iff.1 LRs24.out).1).trans LRs24.out
    have LRcx28 : Hid (w28.heap[n5]? = some (.cells #[.bool (decide (e.num < 0)), .slice B5x0 (len e.num.natAbs) b5x0, .slice B5x1 (len (below e.den)) b5x1, .bool (decide (f.num < 0)), .slice B5x2 (len f.num.natAbs) b5x2, .slice B5x3 (len (below f.den)) b5x3] 53 (0, 0))) := ((Below.step (Below.step (Below.step b25.out b26.out) b27.out) b28.out).block _ (Array.getElem?_eq_some_iff.1 LRcx24.out).1).trans LRcx24.out
    have LRmt28 : Hid (w28.heap[w25.heap.size]? = some (.cells #[.bool (decide (t1.num < 0)), .slice C45 (len t1.num.natAbs) j45, .slice C46 (len (below t1.den)) j46, .bool (decide (t2.num < 0)), .slice C47 (len t2.num.natAbs) j47, .slice C48 (len (below t2.den)) j48] 53 (0, 0))) := ((Below.step b27.out b28.out).block _ (Array.getElem?_eq_some_iff.1 L26.out).1).trans L26.out
    have LRbig28 : Hid (w28.heap[w4.heap.size]? = some (.cells #[.bool (decide (A.num < 0)), .slice C1 (len A.num.natAbs) j1, .slice C2 (len (below A.den)) j2, .bool (decide (B.num < 0)), .slice C3 (len B.num.natAbs) j3, .slice C4 (len (below B.den)) j4] 53 (0, 0))) := ((Below.step (Below.step (Below.step b25.out b26.out) b27.out) b28.out).block _ (Array.getElem?_eq_some_iff.1 LRbig24.out).1).trans LRbig24.out
    have HMB28 := hid (cell_keep HMB24.out (Below.step (Below.step (Below.step b25.out b26.out) b27.out) b28.out))
    have HTB28 := hid (tab_keep HTB24.out (Below.step (Below.step (Below.step b25.out b26.out) b27.out) b28.out))
    have HBB28 := hid (Below.step HBB24.out (Below.step (Below.step (Below.step b25.out b26.out) b27.out) b28.out))
    clear hRs24 hRcx24 hv25 hv27 hRbig24 LRpair24 LRs24 LRcx24 L26 LRbig24 HMB24 HTB24 HBB24 b25 b26 b27 b28
    go_wp2_with fail
    obtain ⟨NN14, hNN⟩ : ∃ n : Nat, w28.heap.size = n := ⟨_, rfl⟩
    have HSZ14 : Hid (w28.heap.size = NN14) := hNN
    have hg : w28.heap[n3]? = some (.cells #[.bool (decide (a.num < 0)), .slice B3x0 (len a.num.natAbs) b3x0, .slice B3x1 (len (below a.den)) b3x1, .bool (decide (b.num < 0)), .slice B3x2 (len b.num.natAbs) b3x2, .slice B3x3 (len (below b.den)) b3x3] 53 (0, 0)) := ((Below.refl _ w28).block _ (Array.getElem?_eq_some_iff.1 LRs28.out).1).trans LRs28.out
    obtain ⟨z_s_0, z_s_1, z_s_2, z_s_3, z_s_4, z_s_5⟩ := cells6 hg
    clear hg
    have hlt14_s : n3 < NN14 := Nat.lt_of_lt_of_eq (World.block_lt_of_cell? _ _ z_s_0) hNN
    have hg : w28.heap[n5]? = some (.cells #[.bool (decide (e.num < 0)), .slice B5x0 (len e.num.natAbs) b5x0, .slice B5x1 (len (below e.den)) b5x1, .bool (decide (f.num < 0)), .slice B5x2 (len f.num.natAbs) b5x2, .slice B5x3 (len (below f.den)) b5x3] 53 (0, 0)) := ((Below.refl _ w28).block _ (Array.getElem?_eq_some_iff.1 LRcx28.out).1).trans LRcx28.out
    obtain ⟨z_cx_0, z_cx_1, z_cx_2, z_cx_3, z_cx_4, z_cx_5⟩ := cells6 hg
    clear hg
    have hlt14_cx : n5 < NN14 := Nat.lt_of_lt_of_eq (World.block_lt_of_cell? _ _ z_cx_0) hNN
    have hg : w28.heap[w25.heap.size]? = some (.cells #[.bool (decide (t1.num < 0)), .slice C45 (len t1.num.natAbs) j45, .slice C46 (len (below t1.den)) j46, .bool (decide (t2.num < 0)), .slice C47 (len t2.num.natAbs) j47, .slice C48 (len (below t2.den)) j48] 53 (0, 0)) := ((Below.refl _ w28).block _ (Array.getElem?_eq_some_iff.1 LRmt28.out).1).trans LRmt28.out
    obtain ⟨z_mt_0, z_mt_1, z_mt_2, z_mt_3, z_mt_4, z_mt_5⟩ := cells6 hg
    clear hg
    have hlt14_mt : w25.heap.size < NN14 := Nat.lt_of_lt_of_eq (World.block_lt_of_cell? _ _ z_mt_0) hNN
    have hg : w28.heap[w27.heap.size]? = some (.cells #[.bool (decide (x.num < 0)), .slice C49 (len x.num.natAbs) j49, .slice C50 (len (below x.den)) j50] 27 (0, 0)) := ((Below.refl _ w28).block _ (Array.getElem?_eq_some_iff.1 L28.out).1).trans L28.out
    obtain ⟨z_x_0, z_x_1, z_x_2⟩ := cells3 hg
    clear hg
    have hlt14_x : w27.heap.size < NN14 := Nat.lt_of_lt_of_eq (World.block_lt_of_cell? _ _ z_x_0) hNN
    have hg : w28.heap[w.heap.size]? = some (.cells #[.string s1, .string s2, .string s3, .string s4, .string s5, .string s6, .int .u8 (m : Nat), .int .u8 (n : Nat), .int .u8 (p : Nat)] 50 (0, 0)) := ((Below.refl _ w28).block _ (Array.getElem?_eq_some_iff.1 LRpair28.out).1).trans LRpair28.out
    have z_pair_0 : w28.cell? ⟨w.heap.size, 0, none⟩ = some (.string s1) := cell_of_row _ _ _ _ _ _ hg
    have z_pair_1 : w28.cell? ⟨w.heap.size, 1, none⟩ = some (.string s2) := cell_of_row _ _ _ _ _ _ hg
    have z_pair_2 : w28.cell? ⟨w.heap.size, 2, none⟩ = some (.string s3) := cell_of_row _ _ _ _ _ _ hg
    have z_pair_3 : w28.cell? ⟨w.heap.size, 3, none⟩ = some (.string s4) := cell_of_row _ _ _ _ _ _ hg
    have z_pair_4 : w28.cell? ⟨w.heap.size, 4, none⟩ = some (.string s5) := cell_of_row _ _ _ _ _ _ hg
    have z_pair_5 : w28.cell? ⟨w.heap.size, 5, none⟩ = some (.string s6) := cell_of_row _ _ _ _ _ _ hg
    have z_pair_6 : w28.cell? ⟨w.heap.size, 6, none⟩ = some (.int .u8 (m : Nat)) := cell_of_row _ _ _ _ _ _ hg
    have z_pair_7 : w28.cell? ⟨w.heap.size, 7, none⟩ = some (.int .u8 (n : Nat)) := cell_of_row _ _ _ _ _ _ hg
    have z_pair_8 : w28.cell? ⟨w.heap.size, 8, none⟩ = some (.int .u8 (p : Nat)) := cell_of_row _ _ _ _ _ _ hg
    clear hg
    have hlt14_pair : w.heap.size < NN14 := Nat.lt_of_lt_of_eq (World.block_lt_of_cell? _ _ z_pair_0) hNN
    have H0 := Held0.start w28 NN14
    have H0' := H0
    unfold Held0 at H0'
    refine wp_region_held_drew (S := (fun w' => (∀ b o, b < NN14 → w'.cell? ⟨b, o, none⟩ = w28.cell? ⟨b, o, none⟩) ∧ Below (NN14) w28 w' ∧ Stay w28 w')) (by kernel_rfl) ?_ (fun hHeld => ?_)
    · (try dsimp only)
      exact H0'
    obtain ⟨w29, hw29⟩ : ∃ u, u = w28.drew := ⟨_, rfl⟩
    have b29 : Hid (Below w28.heap.size w28 w29) := by rw [hw29]; exact ⟨rfl, rfl, rfl, Nat.le_refl _, fun _ _ => rfl⟩
    rw [← hw29] at hHeld H0 ⊢
    clear hw29 H0' hNN
    generalize hF14 : wpAnyH _ _ _ _ _ = F14
    replace hF14 := hid hF14
    refine letters ?_
    intro A14 hA14
    replace hA14 := hid hA14
    have rest14 : ∀ (L : Array Bool) (u : World) (y119 y120 y121 y122 y123 y124 y125 y126 y127 y128 y129 y130 y131 y132 y133 y134 y135 y136 y137 y138 y139 y140 y141 y142 y143 y144 y145 y146 y147 y148 y149 y150 y151 y152 y153 y154 y155 y156 : Value), L = #[true, true, true, true, true, true, true, true, true, true, true, true, true, true, true, true, true, true, true, true, true, true, true, true, true, true, true, true, true, true, true, true, true, true, true, true, true, true, true] → Hid (Held0 w28 NN14 w28 u) → F14 0 L (Act.put (Act.put (Act.put (Act.put (Act.put (Act.put (Act.put (Act.put (Act.put (Act.put (Act.put (Act.put (Act.put (Act.put (Act.put (Act.put (Act.put (Act.put (Act.put (Act.put (Act.put (Act.put (Act.put (Act.put (Act.put (Act.put (Act.put (Act.put (Act.put (Act.put (Act.put (Act.put (Act.put (Act.put (Act.put (Act.put (Act.put (Act.put (Act.put A14 (some 119) y119) (some 120) y120) (some 121) y121) (some 122) y122) (some 123) y123) (some 124) y124) (some 125) y125) (some 126) y126) (some 127) y127) (some 128) y128) (some 129) y129) (some 130) y130) (some 131) y131) (some 132) y132) (some 133) y133) (some 134) y134) (some 135) y135) (some 136) y136) (some 137) y137) (some 138) y138) (some 139) y139) (some 140) y140) (some 141) y141) (some 142) y142) (some 143) y143) (some 144) y144) (some 145) y145) (some 146) y146) (some 147) y147) (some 148) y148) (some 149) y149) (some 150) y150) (some 151) y151) (some 152) y152) (some 153) y153) (some 154) y154) (some 155) y155) (some 156) y156) (some 157) (.bool false)) u := by
     intro L u y119 y120 y121 y122 y123 y124 y125 y126 y127 y128 y129 y130 y131 y132 y133 y134 y135 y136 y137 y138 y139 y140 y141 y142 y143 y144 y145 y146 y147 y148 y149 y150 y151 y152 y153 y154 y155 y156 hLL HK
     clear hHeld H0 z_s_0 z_s_1 z_s_2 z_s_3 z_s_4 z_s_5 z_cx_0 z_cx_1 z_cx_2 z_cx_3 z_cx_4 z_cx_5 z_mt_0 z_mt_1 z_mt_2 z_mt_3 z_mt_4 z_mt_5 z_x_0 z_x_1 z_x_2 z_pair_0 z_pair_1 z_pair_2 z_pair_3 z_pair_4 z_pair_5 z_pair_6 z_pair_7 z_pair_8 hlt14_s hlt14_cx hlt14_mt hlt14_x hlt14_pair
     subst hLL
     rw [← hF14.out, ← hA14.out]
     simp only [Act.put, lt, ly, lu]
     refine wpAnyH_done (by kernel_rfl) ?_ _
     clear hF14 hA14 b29
     obtain ⟨w29, hwq⟩ : ∃ z, z = u := ⟨_, rfl⟩
     rw [← hwq] at HK ⊢
     clear hwq
     have b29 : Hid (Below w28.heap.size w28 w29) := below_eq HK.out.2.1 HSZ14.out
     clear HK
     have hRs29 := hid (hRs28.out.keep b29.out)
     have hRcx29 := hid (hRcx28.out.keep b29.out)
     have hRbig29 := hid (hRbig28.out.keep b29.out)
     have LRs29 : Hid (w29.heap[n3]? = some (.cells #[.bool (decide (a.num < 0)), .slice B3x0 (len a.num.natAbs) b3x0, .slice B3x1 (len (below a.den)) b3x1, .bool (decide (b.num < 0)), .slice B3x2 (len b.num.natAbs) b3x2, .slice B3x3 (len (below b.den)) b3x3] 53 (0, 0))) := (b29.out.block _ (Array.getElem?_eq_some_iff.1 LRs28.out).1).trans LRs28.out
     have LRcx29 : Hid (w29.heap[n5]? = some (.cells #[.bool (decide (e.num < 0)), .slice B5x0 (len e.num.natAbs) b5x0, .slice B5x1 (len (below e.den)) b5x1, .bool (decide (f.num < 0)), .slice B5x2 (len f.num.natAbs) b5x2, .slice B5x3 (len (below f.den)) b5x3] 53 (0, 0))) := (b29.out.block _ (Array.getElem?_eq_some_iff.1 LRcx28.out).1).trans LRcx28.out
     have LRbig29 : Hid (w29.heap[w4.heap.size]? = some (.cells #[.bool (decide (A.num < 0)), .slice C1 (len A.num.natAbs) j1, .slice C2 (len (below A.den)) j2, .bool (decide (B.num < 0)), .slice C3 (len B.num.natAbs) j3, .slice C4 (len (below B.den)) j4] 53 (0, 0))) := (b29.out.block _ (Array.getElem?_eq_some_iff.1 LRbig28.out).1).trans LRbig28.out
     have HMB29 := hid (cell_keep HMB28.out b29.out)
     have HTB29 := hid (tab_keep HTB28.out b29.out)
     have HBB29 := hid (Below.step HBB28.out b29.out)
     clear hRs28 hRcx28 hRbig28 LRs28 LRcx28 LRbig28 HMB28 HTB28 HBB28 b29
     obtain ⟨k1, e_k1⟩ : ∃ z : Int, cmpQ A a = z := ⟨_, rfl⟩
     obtain ⟨k2, e_k2⟩ : ∃ z : Int, cmpQ A e = z := ⟨_, rfl⟩
     obtain ⟨k3, e_k3⟩ : ∃ z : Int, cmpQ B b = z := ⟨_, rfl⟩
     obtain ⟨k4, e_k4⟩ : ∃ z : Int, cmpQ B f = z := ⟨_, rfl⟩
     go_wp2_with fail
     obtain ⟨NN16, hNN⟩ : ∃ n : Nat, w29.heap.size = n := ⟨_, rfl⟩
     have HSZ16 : Hid (w29.heap.size = NN16) := hNN
     have hg : w29.heap[n3]? = some (.cells #[.bool (decide (a.num < 0)), .slice B3x0 (len a.num.natAbs) b3x0, .slice B3x1 (len (below a.den)) b3x1, .bool (decide (b.num < 0)), .slice B3x2 (len b.num.natAbs) b3x2, .slice B3x3 (len (below b.den)) b3x3] 53 (0, 0)) := ((Below.refl _ w29).block _ (Array.getElem?_eq_some_iff.1 LRs29.out).1).trans LRs29.out
     obtain ⟨z_s_0, z_s_1, z_s_2, z_s_3, z_s_4, z_s_5⟩ := cells6 hg
     clear hg
     have hlt16_s : n3 < NN16 := Nat.lt_of_lt_of_eq (World.block_lt_of_cell? _ _ z_s_0) hNN
     have hg : w29.heap[n5]? = some (.cells #[.bool (decide (e.num < 0)), .slice B5x0 (len e.num.natAbs) b5x0, .slice B5x1 (len (below e.den)) b5x1, .bool (decide (f.num < 0)), .slice B5x2 (len f.num.natAbs) b5x2, .slice B5x3 (len (below f.den)) b5x3] 53 (0, 0)) := ((Below.refl _ w29).block _ (Array.getElem?_eq_some_iff.1 LRcx29.out).1).trans LRcx29.out
     obtain ⟨z_cx_0, z_cx_1, z_cx_2, z_cx_3, z_cx_4, z_cx_5⟩ := cells6 hg
     clear hg
     have hlt16_cx : n5 < NN16 := Nat.lt_of_lt_of_eq (World.block_lt_of_cell? _ _ z_cx_0) hNN
     have hg : w29.heap[w4.heap.size]? = some (.cells #[.bool (decide (A.num < 0)), .slice C1 (len A.num.natAbs) j1, .slice C2 (len (below A.den)) j2, .bool (decide (B.num < 0)), .slice C3 (len B.num.natAbs) j3, .slice C4 (len (below B.den)) j4] 53 (0, 0)) := ((Below.refl _ w29).block _ (Array.getElem?_eq_some_iff.1 LRbig29.out).1).trans LRbig29.out
     obtain ⟨z_big_0, z_big_1, z_big_2, z_big_3, z_big_4, z_big_5⟩ := cells6 hg
     clear hg
     have hlt16_big : w4.heap.size < NN16 := Nat.lt_of_lt_of_eq (World.block_lt_of_cell? _ _ z_big_0) hNN
     have H0 := Held0.start w29 NN16
     have H0' := H0
     unfold Held0 at H0'
     refine wp_region_held_drew (S := (fun w' => (∀ b o, b < NN16 → w'.cell? ⟨b, o, none⟩ = w29.cell? ⟨b, o, none⟩) ∧ Below (NN16) w29 w' ∧ Stay w29 w')) (by kernel_rfl) ?_ (fun hHeld => ?_)
     · (try dsimp only)
       exact H0'
     obtain ⟨w30, hw30⟩ : ∃ u, u = w29.drew := ⟨_, rfl⟩
     have b30 : Hid (Below w29.heap.size w29 w30) := by rw [hw30]; exact ⟨rfl, rfl, rfl, Nat.le_refl _, fun _ _ => rfl⟩
     rw [← hw30] at hHeld H0 ⊢
     clear hw30 H0' hNN
     generalize hF16 : wpAnyH _ _ _ _ _ = F16
     replace hF16 := hid hF16
     refine letters ?_
     intro A16 hA16
     replace hA16 := hid hA16
     have mid : ∀ (L : Array Bool) (u : World) (y158 y159 y160 y161 y162 y163 y164 y165 y166 y167 y168 y169 y170 : Value), L = #[true, true, true, true, true, true, true, true, true, true, true, true, true, true, true, false, false, false, false, false, false, false, false, false, false, false, false, false, false, false, false, false, false, false] → Hid (Held0 w29 NN16 w29 u) → F16 19 L (Act.put (Act.put (Act.put (Act.put (Act.put (Act.put (Act.put (Act.put (Act.put (Act.put (Act.put (Act.put (Act.put (Act.put (Act.put A16 (some 158) y158) (some 159) y159) (some 160) y160) (some 161) y161) (some 162) y162) (some 163) y163) (some 164) y164) (some 165) y165) (some 166) y166) (some 167) y167) (some 168) y168) (some 169) y169) (some 170) y170) (some 171) (.bool true)) (some 172) (.bool true)) u := by
      intro L u y158 y159 y160 y161 y162 y163 y164 y165 y166 y167 y168 y169 y170 hLL HK
      clear hHeld H0
      subst hLL
      rw [← hF16.out, ← hA16.out]
      simp only [Act.put, lt, ly, lu]
      clear hF16 hA16 b30
      obtain ⟨w30, hwq⟩ : ∃ z, z = u := ⟨_, rfl⟩
      rw [← hwq] at HK ⊢
      clear hwq
      have b30 : Hid (Below w29.heap.size w29 w30) := below_eq HK.out.2.1 HSZ16.out
      have H0 := HK.out
      clear HK
      have hHeld := H0
      unfold Held0 at hHeld
      rcases Decidable.em (B = b) with hB | hB
      · skip
        have o3 : (k3 == 0) = true := by rw [← e_k3, hB, cmpQ_same]; rfl
        replace e_k3 := hid e_k3
        replace e_k4 := hid e_k4
        clear hB e_k1 e_k2
        refine wpAnyH_take (i := 15) (v := ?vq68) (oi := ?oq68) ?eq68 ?aq68 ?bq68 ?cq68 ?dq68 ?yq68 ?sq68 ?rq68
        case eq68 => simp only [lg, lz, ls]; rfl
        case aq68 | bq68 | cq68 => kernel_rfl
        case dq68 => exact fun _ _ _ h => h
        case yq68 => refine Or.inl ⟨by rfl, ?_⟩; intro w hSw; (try dsimp only at hSw); go_simp; try with_reducible rfl
        case sq68 => assumption
        try simp only [Act.put, lt, ly, lu]
        refine wpAnyH_take (i := 17) (v := ?vq69) (oi := ?oq69) ?eq69 ?aq69 ?bq69 ?cq69 ?dq69 ?yq69 ?sq69 ?rq69
        case eq69 => simp only [lg, lz, ls]; rfl
        case aq69 | bq69 | cq69 => kernel_rfl
        case dq69 => exact fun _ _ _ h => h
        case yq69 => refine Or.inl ⟨by rfl, ?_⟩; intro w hSw; (try dsimp only at hSw); go_simp; try with_reducible rfl
        case sq69 => assumption
        try simp only [Act.put, lt, ly, lu]
        refine wpAnyH_ready (rs := [16]) (by kernel_rfl) (by simp) (AllReadyH.cons (o := ?oq70) ?eq70 ?kq70 AllReadyH.nil)
        case eq70 => simp only [lg, lz, ls]; rfl
        intro K hK; go_simp; go_at_call 41
        refine (hi_val (hRbig29.out.keep b30.out) z_B.out).mono ?_
        rintro e w31 ⟨v31, rfl, hv31, b31⟩
        obtain ⟨C51, j51, C52, j52, rfl, -, -⟩ := id hv31.opened; replace hv31 := hid hv31
        replace b31 := hid b31; have hk31 := hcall H0 HSZ16 b31.out; have hk31' := hk31; unfold Held0 at hk31'; clear hHeld H0
        refine hK.out _ _ ?_ (fun hHeld => ?_)
        · (try dsimp only); with_reducible exact hk31'
        clear hK K hk31'; try simp only [Act.put, lt, ly, lu]
        refine wpAnyH_ready (rs := [18]) (by kernel_rfl) (by simp) (AllReadyH.cons (o := ?oq71) ?eq71 ?kq71 AllReadyH.nil)
        case eq71 => simp only [lg, lz, ls]; rfl
        intro K hK; go_simp; go_at_call 41
        refine (hi_val (hRs29.out.keep (Below.step b30.out b31.out)) z_b.out).mono ?_
        rintro e w32 ⟨v32, rfl, hv32, b32⟩
        obtain ⟨C53, j53, C54, j54, rfl, -, -⟩ := id hv32.opened; replace hv32 := hid hv32
        replace b32 := hid b32; have hk32 := hcall hk31 HSZ16 b32.out; have hk32' := hk32; unfold Held0 at hk32'; clear hHeld hk31
        refine hK.out _ _ ?_ (fun hHeld => ?_)
        · (try dsimp only); with_reducible exact hk32'
        clear hK K hk32'; try simp only [Act.put, lt, ly, lu]
        refine wpAnyH_ready (rs := [19]) (by kernel_rfl) (by simp) (AllReadyH.cons (o := ?oq72) ?eq72 ?kq72 AllReadyH.nil)
        case eq72 => simp only [lg, lz, ls]; rfl
        intro K hK; go_simp; go_at_call 21
        refine (cmp_val e_k3.out (hv31.out.keep b32.out) hv32.out z_B.out z_b.out).mono ?_
        rintro e w33 ⟨rfl, b33⟩
        replace b33 := hid b33; have hk33 := hcall hk32 HSZ16 b33.out; have hk33' := hk33; unfold Held0 at hk33'; clear hHeld hk32
        refine hK.out _ _ ?_ (fun hHeld => ?_)
        · (try dsimp only); with_reducible exact hk33'
        clear hK K hk33'; try simp only [Act.put, lt, ly, lu]
        refine wpAnyH_take (i := 20) (v := ?vq73) (oi := ?oq73) ?eq73 ?aq73 ?bq73 ?cq73 ?dq73 ?yq73 ?sq73 ?rq73
        case eq73 => simp only [lg, lz, ls]; rfl
        case aq73 | bq73 | cq73 => kernel_rfl
        case dq73 => exact fun _ _ _ h => h
        case yq73 => refine Or.inl ⟨by rfl, ?_⟩; intro w hSw; (try dsimp only at hSw); go_simp; try with_reducible rfl
        case sq73 => assumption
        try simp only [Act.put, lt, ly, lu]
        refine wpAnyH_take (i := 21) (v := ?vq74) (oi := ?oq74) ?eq74 ?aq74 ?bq74 ?cq74 ?dq74 ?yq74 ?sq74 ?rq74
        case eq74 => simp only [lg, lz, ls]; rfl
        case aq74 | bq74 | cq74 => kernel_rfl
        case dq74 => exact fun _ _ _ h => h
        case yq74 => refine Or.inl ⟨by rfl, ?_⟩; intro w hSw; (try dsimp only at hSw); go_simp; try with_reducible rfl
        case sq74 => assumption
        try simp only [Act.put, lt, ly, lu]
        refine wpAnyH_take (i := 22) (v := undef) (oi := ?oq75) ?eq75 ?aq75 ?bq75 ?cq75 ?dq75 ?yq75 ?sq75 ?rq75
        case eq75 => simp only [lg, lz, ls]; rfl
        case aq75 | bq75 | cq75 => kernel_rfl
        case dq75 => exact fun _ _ _ h => h
        case yq75 => exact Or.inr ⟨by rfl, rfl⟩
        case sq75 => assumption
        try simp only [Act.put, lt, ly, lu]
        refine wpAnyH_take (i := 24) (v := undef) (oi := ?oq76) ?eq76 ?aq76 ?bq76 ?cq76 ?dq76 ?yq76 ?sq76 ?rq76
        case eq76 => simp only [lg, lz, ls]; rfl
        case aq76 | bq76 | cq76 => kernel_rfl
        case dq76 => exact fun _ _ _ h => h
        case yq76 => exact Or.inr ⟨by rfl, rfl⟩
        case sq76 => assumption
        try simp only [Act.put, lt, ly, lu]
        refine wpAnyH_ready (rs := [23]) (by kernel_rfl) (by simp) (AllReadyH.cons (o := ?oq77) ?eq77 ?kq77 AllReadyH.nil)
        case eq77 => simp only [lg, lz, ls]; rfl
        intro K hK; go_simp
        refine hK.out _ _ ?_ (fun hHeld2 => ?_)
        · (try dsimp only); exact hHeld
        clear hK K hHeld
        try simp only [Act.put, lt, ly, lu]
        have hHeld := hHeld2
        clear hHeld2
        refine wpAnyH_ready (rs := [25]) (by kernel_rfl) (by simp) (AllReadyH.cons (o := ?oq78) ?eq78 ?kq78 AllReadyH.nil)
        case eq78 => simp only [lg, lz, ls]; rfl
        intro K hK; go_simp
        refine hK.out _ _ ?_ (fun hHeld2 => ?_)
        · (try dsimp only); exact hHeld
        clear hK K hHeld
        try simp only [Act.put, lt, ly, lu]
        have hHeld := hHeld2
        clear hHeld2
        refine wpAnyH_ready (rs := [26]) (by kernel_rfl) (by simp) (AllReadyH.cons (o := ?oq79) ?eq79 ?kq79 AllReadyH.nil)
        case eq79 => simp only [lg, lz, ls]; rfl
        intro K hK; go_simp
        refine hK.out _ _ ?_ (fun hHeld2 => ?_)
        · (try dsimp only); exact hHeld
        clear hK K hHeld
        try simp only [Act.put, lt, ly, lu]
        have hHeld := hHeld2
        clear hHeld2
        refine wpAnyH_take (i := 27) (v := undef) (oi := ?oq80) ?eq80 ?aq80 ?bq80 ?cq80 ?dq80 ?yq80 ?sq80 ?rq80
        case eq80 => simp only [lg, lz, ls]; rfl
        case aq80 | bq80 | cq80 => kernel_rfl
        case dq80 => exact fun _ _ _ h => h
        case yq80 => exact Or.inr ⟨by rfl, rfl⟩
        case sq80 => assumption
        try simp only [Act.put, lt, ly, lu]
        refine wpAnyH_take (i := 28) (v := ?vq81) (oi := ?oq81) ?eq81 ?aq81 ?bq81 ?cq81 ?dq81 ?yq81 ?sq81 ?rq81
        case eq81 => simp only [lg, lz, ls]; rfl
        case aq81 | bq81 | cq81 => kernel_rfl
        case dq81 => exact fun _ _ _ h => h
        case yq81 => refine Or.inl ⟨by rfl, ?_⟩; intro w hSw; (try dsimp only at hSw); go_simp; try with_reducible rfl
        case sq81 => assumption
        try simp only [Act.put, lt, ly, lu]
        refine wpAnyH_take (i := 29) (v := ?vq82) (oi := ?oq82) ?eq82 ?aq82 ?bq82 ?cq82 ?dq82 ?yq82 ?sq82 ?rq82
        case eq82 => simp only [lg, lz, ls]; rfl
        case aq82 | bq82 | cq82 => kernel_rfl
        case dq82 => exact fun _ _ _ h => h
        case yq82 => refine Or.inl ⟨by rfl, ?_⟩; intro w hSw; (try dsimp only at hSw); go_simp; try with_reducible rfl
        case sq82 => assumption
        try simp only [Act.put, lt, ly, lu]
        refine wpAnyH_take (i := 30) (v := ?vq83) (oi := ?oq83) ?eq83 ?aq83 ?bq83 ?cq83 ?dq83 ?yq83 ?sq83 ?rq83
        case eq83 => simp only [lg, lz, ls]; rfl
        case aq83 | bq83 | cq83 => kernel_rfl
        case dq83 => exact fun _ _ _ h => h
        case yq83 => refine Or.inl ⟨by rfl, ?_⟩; intro w hSw; (try dsimp only at hSw); go_simp; try with_reducible rfl
        case sq83 => assumption
        try simp only [Act.put, lt, ly, lu]
        refine wpAnyH_ready (rs := [31]) (by kernel_rfl) (by simp) (AllReadyH.cons (o := ?oq84) ?eq84 ?kq84 AllReadyH.nil)
        case eq84 => simp only [lg, lz, ls]; rfl
        intro K hK; go_simp; go_at_call 11
        refine (known_any (cell_keep HMB29.out (Below.step (Below.step (Below.step b30.out b31.out) b32.out) b33.out)) (tab_keep HTB29.out (Below.step (Below.step (Below.step b30.out b31.out) b32.out) b33.out))).mono ?_
        rintro e w34 ⟨rfl, b34⟩
        replace b34 := hid b34; have hk34 := hcall hk33 HSZ16 b34.out; have hk34' := hk34; unfold Held0 at hk34'; clear hHeld hk33
        refine hK.out _ _ ?_ (fun hHeld => ?_)
        · (try dsimp only); with_reducible exact hk34'
        clear hK K hk34'; try simp only [Act.put, lt, ly, lu]
        refine wpAnyH_take (i := 32) (v := ?vq85) (oi := ?oq85) ?eq85 ?aq85 ?bq85 ?cq85 ?dq85 ?yq85 ?sq85 ?rq85
        case eq85 => simp only [lg, lz, ls]; rfl
        case aq85 | bq85 | cq85 => kernel_rfl
        case dq85 => exact fun _ _ _ h => h
        case yq85 => refine Or.inl ⟨by rfl, ?_⟩; intro w hSw; (try dsimp only at hSw); go_simp; try with_reducible rfl
        case sq85 => assumption
        try simp only [Act.put, lt, ly, lu]
        refine wpAnyH_take (i := 33) (v := ?vq86) (oi := ?oq86) ?eq86 ?aq86 ?bq86 ?cq86 ?dq86 ?yq86 ?sq86 ?rq86
        case eq86 => simp only [lg, lz, ls]; rfl
        case aq86 | bq86 | cq86 => kernel_rfl
        case dq86 => exact fun _ _ _ h => h
        case yq86 => refine Or.inl ⟨by rfl, ?_⟩; intro w hSw; (try dsimp only at hSw); go_simp; try with_reducible rfl
        case sq86 => assumption
        try simp only [Act.put, lt, ly, lu]
        have HE := hid (Below.step HBB29.out (Below.step (Below.step (Below.step (Below.step b30.out b31.out) b32.out) b33.out) b34.out))
        refine wpAnyH_done (by kernel_rfl) ?_ _
        clear hHeld
        go_wp2_with fail
        go_ret
        exact ⟨rfl, HE.out⟩
      · skip
        have o3 : (k3 == 0) = false := by rw [← e_k3]; exact beq_eq_false_iff_ne.2 (fun h => hB (cmpQ_zero.1 h))
        have o4 : (k4 == 0) = true := by rw [← e_k4, (jh6.out.resolve_left hB), cmpQ_same]; rfl
        replace e_k3 := hid e_k3
        replace e_k4 := hid e_k4
        clear hB e_k1 e_k2
        refine wpAnyH_take (i := 15) (v := ?vq87) (oi := ?oq87) ?eq87 ?aq87 ?bq87 ?cq87 ?dq87 ?yq87 ?sq87 ?rq87
        case eq87 => simp only [lg, lz, ls]; rfl
        case aq87 | bq87 | cq87 => kernel_rfl
        case dq87 => exact fun _ _ _ h => h
        case yq87 => refine Or.inl ⟨by rfl, ?_⟩; intro w hSw; (try dsimp only at hSw); go_simp; try with_reducible rfl
        case sq87 => assumption
        try simp only [Act.put, lt, ly, lu]
        refine wpAnyH_take (i := 17) (v := ?vq88) (oi := ?oq88) ?eq88 ?aq88 ?bq88 ?cq88 ?dq88 ?yq88 ?sq88 ?rq88
        case eq88 => simp only [lg, lz, ls]; rfl
        case aq88 | bq88 | cq88 => kernel_rfl
        case dq88 => exact fun _ _ _ h => h
        case yq88 => refine Or.inl ⟨by rfl, ?_⟩; intro w hSw; (try dsimp only at hSw); go_simp; try with_reducible rfl
        case sq88 => assumption
        try simp only [Act.put, lt, ly, lu]
        refine wpAnyH_ready (rs := [16]) (by kernel_rfl) (by simp) (AllReadyH.cons (o := ?oq89) ?eq89 ?kq89 AllReadyH.nil)
        case eq89 => simp only [lg, lz, ls]; rfl
        intro K hK; go_simp; go_at_call 41
        refine (hi_val (hRbig29.out.keep b30.out) z_B.out).mono ?_
        rintro e w31 ⟨v31, rfl, hv31, b31⟩
        obtain ⟨C51, j51, C52, j52, rfl, -, -⟩ := id hv31.opened; replace hv31 := hid hv31
        replace b31 := hid b31; have hk31 := hcall H0 HSZ16 b31.out; have hk31' := hk31; unfold Held0 at hk31'; clear hHeld H0
        refine hK.out _ _ ?_ (fun hHeld => ?_)
        · (try dsimp only); with_reducible exact hk31'
        clear hK K hk31'; try simp only [Act.put, lt, ly, lu]
        refine wpAnyH_ready (rs := [18]) (by kernel_rfl) (by simp) (AllReadyH.cons (o := ?oq90) ?eq90 ?kq90 AllReadyH.nil)
        case eq90 => simp only [lg, lz, ls]; rfl
        intro K hK; go_simp; go_at_call 41
        refine (hi_val (hRs29.out.keep (Below.step b30.out b31.out)) z_b.out).mono ?_
        rintro e w32 ⟨v32, rfl, hv32, b32⟩
        obtain ⟨C53, j53, C54, j54, rfl, -, -⟩ := id hv32.opened; replace hv32 := hid hv32
        replace b32 := hid b32; have hk32 := hcall hk31 HSZ16 b32.out; have hk32' := hk32; unfold Held0 at hk32'; clear hHeld hk31
        refine hK.out _ _ ?_ (fun hHeld => ?_)
        · (try dsimp only); with_reducible exact hk32'
        clear hK K hk32'; try simp only [Act.put, lt, ly, lu]
        refine wpAnyH_ready (rs := [19]) (by kernel_rfl) (by simp) (AllReadyH.cons (o := ?oq91) ?eq91 ?kq91 AllReadyH.nil)
        case eq91 => simp only [lg, lz, ls]; rfl
        intro K hK; go_simp; go_at_call 21
        refine (cmp_val e_k3.out (hv31.out.keep b32.out) hv32.out z_B.out z_b.out).mono ?_
        rintro e w33 ⟨rfl, b33⟩
        replace b33 := hid b33; have hk33 := hcall hk32 HSZ16 b33.out; have hk33' := hk33; unfold Held0 at hk33'; clear hHeld hk32
        refine hK.out _ _ ?_ (fun hHeld => ?_)
        · (try dsimp only); with_reducible exact hk33'
        clear hK K hk33'; try simp only [Act.put, lt, ly, lu]
        refine wpAnyH_take (i := 20) (v := ?vq92) (oi := ?oq92) ?eq92 ?aq92 ?bq92 ?cq92 ?dq92 ?yq92 ?sq92 ?rq92
        case eq92 => simp only [lg, lz, ls]; rfl
        case aq92 | bq92 | cq92 => kernel_rfl
        case dq92 => exact fun _ _ _ h => h
        case yq92 => refine Or.inl ⟨by rfl, ?_⟩; intro w hSw; (try dsimp only at hSw); go_simp; try with_reducible rfl
        case sq92 => assumption
        try simp only [Act.put, lt, ly, lu]
        refine wpAnyH_take (i := 21) (v := ?vq93) (oi := ?oq93) ?eq93 ?aq93 ?bq93 ?cq93 ?dq93 ?yq93 ?sq93 ?rq93
        case eq93 => simp only [lg, lz, ls]; rfl
        case aq93 | bq93 | cq93 => kernel_rfl
        case dq93 => exact fun _ _ _ h => h
        case yq93 => refine Or.inl ⟨by rfl, ?_⟩; intro w hSw; (try dsimp only at hSw); go_simp; try with_reducible rfl
        case sq93 => assumption
        try simp only [Act.put, lt, ly, lu]
        refine wpAnyH_take (i := 22) (v := ?vq94) (oi := ?oq94) ?eq94 ?aq94 ?bq94 ?cq94 ?dq94 ?yq94 ?sq94 ?rq94
        case eq94 => simp only [lg, lz, ls]; rfl
        case aq94 | bq94 | cq94 => kernel_rfl
        case dq94 => exact fun _ _ _ h => h
        case yq94 => refine Or.inl ⟨by rfl, ?_⟩; intro w hSw; (try dsimp only at hSw); go_simp; try with_reducible rfl
        case sq94 => assumption
        try simp only [Act.put, lt, ly, lu]
        refine wpAnyH_take (i := 24) (v := ?vq95) (oi := ?oq95) ?eq95 ?aq95 ?bq95 ?cq95 ?dq95 ?yq95 ?sq95 ?rq95
        case eq95 => simp only [lg, lz, ls]; rfl
        case aq95 | bq95 | cq95 => kernel_rfl
        case dq95 => exact fun _ _ _ h => h
        case yq95 => refine Or.inl ⟨by rfl, ?_⟩; intro w hSw; (try dsimp only at hSw); go_simp; try with_reducible rfl
        case sq95 => assumption
        try simp only [Act.put, lt, ly, lu]
        refine wpAnyH_ready (rs := [23]) (by kernel_rfl) (by simp) (AllReadyH.cons (o := ?oq96) ?eq96 ?kq96 AllReadyH.nil)
        case eq96 => simp only [lg, lz, ls]; rfl
        intro K hK; go_simp; go_at_call 41
        refine (hi_val (hRbig29.out.keep (Below.step (Below.step (Below.step b30.out b31.out) b32.out) b33.out)) z_B.out).mono ?_
        rintro e w34 ⟨v34, rfl, hv34, b34⟩
        obtain ⟨C55, j55, C56, j56, rfl, -, -⟩ := id hv34.opened; replace hv34 := hid hv34
        replace b34 := hid b34; have hk34 := hcall hk33 HSZ16 b34.out; have hk34' := hk34; unfold Held0 at hk34'; clear hHeld hk33
        refine hK.out _ _ ?_ (fun hHeld => ?_)
        · (try dsimp only); with_reducible exact hk34'
        clear hK K hk34'; try simp only [Act.put, lt, ly, lu]
        refine wpAnyH_ready (rs := [25]) (by kernel_rfl) (by simp) (AllReadyH.cons (o := ?oq97) ?eq97 ?kq97 AllReadyH.nil)
        case eq97 => simp only [lg, lz, ls]; rfl
        intro K hK; go_simp; go_at_call 41
        refine (hi_val (hRcx29.out.keep (Below.step (Below.step (Below.step (Below.step b30.out b31.out) b32.out) b33.out) b34.out)) z_f.out).mono ?_
        rintro e w35 ⟨v35, rfl, hv35, b35⟩
        obtain ⟨C57, j57, C58, j58, rfl, -, -⟩ := id hv35.opened; replace hv35 := hid hv35
        replace b35 := hid b35; have hk35 := hcall hk34 HSZ16 b35.out; have hk35' := hk35; unfold Held0 at hk35'; clear hHeld hk34
        refine hK.out _ _ ?_ (fun hHeld => ?_)
        · (try dsimp only); with_reducible exact hk35'
        clear hK K hk35'; try simp only [Act.put, lt, ly, lu]
        refine wpAnyH_ready (rs := [26]) (by kernel_rfl) (by simp) (AllReadyH.cons (o := ?oq98) ?eq98 ?kq98 AllReadyH.nil)
        case eq98 => simp only [lg, lz, ls]; rfl
        intro K hK; go_simp; go_at_call 21
        refine (cmp_val e_k4.out (hv34.out.keep b35.out) hv35.out z_B.out z_f.out).mono ?_
        rintro e w36 ⟨rfl, b36⟩
        replace b36 := hid b36; have hk36 := hcall hk35 HSZ16 b36.out; have hk36' := hk36; unfold Held0 at hk36'; clear hHeld hk35
        refine hK.out _ _ ?_ (fun hHeld => ?_)
        · (try dsimp only); with_reducible exact hk36'
        clear hK K hk36'; try simp only [Act.put, lt, ly, lu]
        refine wpAnyH_take (i := 27) (v := ?vq99) (oi := ?oq99) ?eq99 ?aq99 ?bq99 ?cq99 ?dq99 ?yq99 ?sq99 ?rq99
        case eq99 => simp only [lg, lz, ls]; rfl
        case aq99 | bq99 | cq99 => kernel_rfl
        case dq99 => exact fun _ _ _ h => h
        case yq99 => refine Or.inl ⟨by rfl, ?_⟩; intro w hSw; (try dsimp only at hSw); go_simp; try with_reducible rfl
        case sq99 => assumption
        try simp only [Act.put, lt, ly, lu]
        refine wpAnyH_take (i := 28) (v := ?vq100) (oi := ?oq100) ?eq100 ?aq100 ?bq100 ?cq100 ?dq100 ?yq100 ?sq100 ?rq100
        case eq100 => simp only [lg, lz, ls]; rfl
        case aq100 | bq100 | cq100 => kernel_rfl
        case dq100 => exact fun _ _ _ h => h
        case yq100 => refine Or.inl ⟨by rfl, ?_⟩; intro w hSw; (try dsimp only at hSw); go_simp; try with_reducible rfl
        case sq100 => assumption
        try simp only [Act.put, lt, ly, lu]
        refine wpAnyH_take (i := 29) (v := ?vq101) (oi := ?oq101) ?eq101 ?aq101 ?bq101 ?cq101 ?dq101 ?yq101 ?sq101 ?rq101
        case eq101 => simp only [lg, lz, ls]; rfl
        case aq101 | bq101 | cq101 => kernel_rfl
        case dq101 => exact fun _ _ _ h => h
        case yq101 => refine Or.inl ⟨by rfl, ?_⟩; intro w hSw; (try dsimp only at hSw); go_simp; try with_reducible rfl
        case sq101 => assumption
        try simp only [Act.put, lt, ly, lu]
        refine wpAnyH_take (i := 30) (v := ?vq102) (oi := ?oq102) ?eq102 ?aq102 ?bq102 ?cq102 ?dq102 ?yq102 ?sq102 ?rq102
        case eq102 => simp only [lg, lz, ls]; rfl
        case aq102 | bq102 | cq102 => kernel_rfl
        case dq102 => exact fun _ _ _ h => h
        case yq102 => refine Or.inl ⟨by rfl, ?_⟩; intro w hSw; (try dsimp only at hSw); go_simp; try with_reducible rfl
        case sq102 => assumption
        try simp only [Act.put, lt, ly, lu]
        refine wpAnyH_ready (rs := [31]) (by kernel_rfl) (by simp) (AllReadyH.cons (o := ?oq103) ?eq103 ?kq103 AllReadyH.nil)
        case eq103 => simp only [lg, lz, ls]; rfl
        intro K hK; go_simp; go_at_call 11
        refine (known_any (cell_keep HMB29.out (Below.step (Below.step (Below.step (Below.step (Below.step (Below.step b30.out b31.out) b32.out) b33.out) b34.out) b35.out) b36.out)) (tab_keep HTB29.out (Below.step (Below.step (Below.step (Below.step (Below.step (Below.step b30.out b31.out) b32.out) b33.out) b34.out) b35.out) b36.out))).mono ?_
        rintro e w37 ⟨rfl, b37⟩
        replace b37 := hid b37; have hk37 := hcall hk36 HSZ16 b37.out; have hk37' := hk37; unfold Held0 at hk37'; clear hHeld hk36
        refine hK.out _ _ ?_ (fun hHeld => ?_)
        · (try dsimp only); with_reducible exact hk37'
        clear hK K hk37'; try simp only [Act.put, lt, ly, lu]
        refine wpAnyH_take (i := 32) (v := ?vq104) (oi := ?oq104) ?eq104 ?aq104 ?bq104 ?cq104 ?dq104 ?yq104 ?sq104 ?rq104
        case eq104 => simp only [lg, lz, ls]; rfl
        case aq104 | bq104 | cq104 => kernel_rfl
        case dq104 => exact fun _ _ _ h => h
        case yq104 => refine Or.inl ⟨by rfl, ?_⟩; intro w hSw; (try dsimp only at hSw); go_simp; try with_reducible rfl
        case sq104 => assumption
        try simp only [Act.put, lt, ly, lu]
        refine wpAnyH_take (i := 33) (v := ?vq105) (oi := ?oq105) ?eq105 ?aq105 ?bq105 ?cq105 ?dq105 ?yq105 ?sq105 ?rq105
        case eq105 => simp only [lg, lz, ls]; rfl
        case aq105 | bq105 | cq105 => kernel_rfl
        case dq105 => exact fun _ _ _ h => h
        case yq105 => refine Or.inl ⟨by rfl, ?_⟩; intro w hSw; (try dsimp only at hSw); go_simp; try with_reducible rfl
        case sq105 => assumption
        try simp only [Act.put, lt, ly, lu]
        have HE := hid (Below.step HBB29.out (Below.step (Below.step (Below.step (Below.step (Below.step (Below.step (Below.step b30.out b31.out) b32.out) b33.out) b34.out) b35.out) b36.out) b37.out))
        refine wpAnyH_done (by kernel_rfl) ?_ _
        clear hHeld
        go_wp2_with fail
        go_ret
        exact ⟨rfl, HE.out⟩
     simp only [← hA16.out, Act.put, lt, ly, lu] at mid
     replace mid := hid mid
     have HA := hA16.out
     subst HA
     rw [← hF16.out]
     rcases Decidable.em (A = a) with hA | hA
     · skip
       have o1 : (k1 == 0) = true := by rw [← e_k1, hA, cmpQ_same]; rfl
       replace e_k1 := hid e_k1
       replace e_k2 := hid e_k2
       clear hA e_k3 e_k4
       refine wpAnyH_take (i := 0) (v := ?vq106) (oi := ?oq106) ?eq106 ?aq106 ?bq106 ?cq106 ?dq106 ?yq106 ?sq106 ?rq106
       case eq106 => simp only [lg, lz, ls]; rfl
       case aq106 | bq106 | cq106 => kernel_rfl
       case dq106 => exact fun _ _ _ h => h
       case yq106 => refine Or.inl ⟨by rfl, ?_⟩; intro w hSw; (try dsimp only at hSw); go_simp; try with_reducible rfl
       case sq106 => assumption
       try simp only [Act.put, lt, ly, lu]
       refine wpAnyH_take (i := 2) (v := ?vq107) (oi := ?oq107) ?eq107 ?aq107 ?bq107 ?cq107 ?dq107 ?yq107 ?sq107 ?rq107
       case eq107 => simp only [lg, lz, ls]; rfl
       case aq107 | bq107 | cq107 => kernel_rfl
       case dq107 => exact fun _ _ _ h => h
       case yq107 => refine Or.inl ⟨by rfl, ?_⟩; intro w hSw; (try dsimp only at hSw); go_simp; try with_reducible rfl
       case sq107 => assumption
       try simp only [Act.put, lt, ly, lu]
       refine wpAnyH_ready (rs := [1]) (by kernel_rfl) (by simp) (AllReadyH.cons (o := ?oq108) ?eq108 ?kq108 AllReadyH.nil)
       case eq108 => simp only [lg, lz, ls]; rfl
       intro K hK; go_simp; go_at_call 40
       refine (lo_val (hRbig29.out.keep b30.out) z_A.out).mono ?_
       rintro e w31 ⟨v31, rfl, hv31, b31⟩
       obtain ⟨C51, j51, C52, j52, rfl, -, -⟩ := id hv31.opened; replace hv31 := hid hv31
       replace b31 := hid b31; have hk31 := hcall H0 HSZ16 b31.out; have hk31' := hk31; unfold Held0 at hk31'; clear hHeld H0
       refine hK.out _ _ ?_ (fun hHeld => ?_)
       · (try dsimp only); with_reducible exact hk31'
       clear hK K hk31'; try simp only [Act.put, lt, ly, lu]
       refine wpAnyH_ready (rs := [3]) (by kernel_rfl) (by simp) (AllReadyH.cons (o := ?oq109) ?eq109 ?kq109 AllReadyH.nil)
       case eq109 => simp only [lg, lz, ls]; rfl
       intro K hK; go_simp; go_at_call 40
       refine (lo_val (hRs29.out.keep (Below.step b30.out b31.out)) z_a.out).mono ?_
       rintro e w32 ⟨v32, rfl, hv32, b32⟩
       obtain ⟨C53, j53, C54, j54, rfl, -, -⟩ := id hv32.opened; replace hv32 := hid hv32
       replace b32 := hid b32; have hk32 := hcall hk31 HSZ16 b32.out; have hk32' := hk32; unfold Held0 at hk32'; clear hHeld hk31
       refine hK.out _ _ ?_ (fun hHeld => ?_)
       · (try dsimp only); with_reducible exact hk32'
       clear hK K hk32'; try simp only [Act.put, lt, ly, lu]
       refine wpAnyH_ready (rs := [4]) (by kernel_rfl) (by simp) (AllReadyH.cons (o := ?oq110) ?eq110 ?kq110 AllReadyH.nil)
       case eq110 => simp only [lg, lz, ls]; rfl
       intro K hK; go_simp; go_at_call 21
       refine (cmp_val e_k1.out (hv31.out.keep b32.out) hv32.out z_A.out z_a.out).mono ?_
       rintro e w33 ⟨rfl, b33⟩
       replace b33 := hid b33; have hk33 := hcall hk32 HSZ16 b33.out; have hk33' := hk33; unfold Held0 at hk33'; clear hHeld hk32
       refine hK.out _ _ ?_ (fun hHeld => ?_)
       · (try dsimp only); with_reducible exact hk33'
       clear hK K hk33'; try simp only [Act.put, lt, ly, lu]
       refine wpAnyH_take (i := 5) (v := ?vq111) (oi := ?oq111) ?eq111 ?aq111 ?bq111 ?cq111 ?dq111 ?yq111 ?sq111 ?rq111
       case eq111 => simp only [lg, lz, ls]; rfl
       case aq111 | bq111 | cq111 => kernel_rfl
       case dq111 => exact fun _ _ _ h => h
       case yq111 => refine Or.inl ⟨by rfl, ?_⟩; intro w hSw; (try dsimp only at hSw); go_simp; try with_reducible rfl
       case sq111 => assumption
       try simp only [Act.put, lt, ly, lu]
       refine wpAnyH_take (i := 6) (v := ?vq112) (oi := ?oq112) ?eq112 ?aq112 ?bq112 ?cq112 ?dq112 ?yq112 ?sq112 ?rq112
       case eq112 => simp only [lg, lz, ls]; rfl
       case aq112 | bq112 | cq112 => kernel_rfl
       case dq112 => exact fun _ _ _ h => h
       case yq112 => refine Or.inl ⟨by rfl, ?_⟩; intro w hSw; (try dsimp only at hSw); go_simp; try with_reducible rfl
       case sq112 => assumption
       try simp only [Act.put, lt, ly, lu]
       refine wpAnyH_take (i := 7) (v := undef) (oi := ?oq113) ?eq113 ?aq113 ?bq113 ?cq113 ?dq113 ?yq113 ?sq113 ?rq113
       case eq113 => simp only [lg, lz, ls]; rfl
       case aq113 | bq113 | cq113 => kernel_rfl
       case dq113 => exact fun _ _ _ h => h
       case yq113 => exact Or.inr ⟨by rfl, rfl⟩
       case sq113 => assumption
       try simp only [Act.put, lt, ly, lu]
       refine wpAnyH_take (i := 9) (v := undef) (oi := ?oq114) ?eq114 ?aq114 ?bq114 ?cq114 ?dq114 ?yq114 ?sq114 ?rq114
       case eq114 => simp only [lg, lz, ls]; rfl
       case aq114 | bq114 | cq114 => kernel_rfl
       case dq114 => exact fun _ _ _ h => h
       case yq114 => exact Or.inr ⟨by rfl, rfl⟩
       case sq114 => assumption
       try simp only [Act.put, lt, ly, lu]
       refine wpAnyH_ready (rs := [8]) (by kernel_rfl) (by simp) (AllReadyH.cons (o := ?oq115) ?eq115 ?kq115 AllReadyH.nil)
       case eq115 => simp only [lg, lz, ls]; rfl
       intro K hK; go_simp
       refine hK.out _ _ ?_ (fun hHeld2 => ?_)
       · (try dsimp only); exact hHeld
       clear hK K hHeld
       try simp only [Act.put, lt, ly, lu]
       have hHeld := hHeld2
       clear hHeld2
       refine wpAnyH_ready (rs := [10]) (by kernel_rfl) (by simp) (AllReadyH.cons (o := ?oq116) ?eq116 ?kq116 AllReadyH.nil)
       case eq116 => simp only [lg, lz, ls]; rfl
       intro K hK; go_simp
       refine hK.out _ _ ?_ (fun hHeld2 => ?_)
       · (try dsimp only); exact hHeld
       clear hK K hHeld
       try simp only [Act.put, lt, ly, lu]
       have hHeld := hHeld2
       clear hHeld2
       refine wpAnyH_ready (rs := [11]) (by kernel_rfl) (by simp) (AllReadyH.cons (o := ?oq117) ?eq117 ?kq117 AllReadyH.nil)
       case eq117 => simp only [lg, lz, ls]; rfl
       intro K hK; go_simp
       refine hK.out _ _ ?_ (fun hHeld2 => ?_)
       · (try dsimp only); exact hHeld
       clear hK K hHeld
       try simp only [Act.put, lt, ly, lu]
       have hHeld := hHeld2
       clear hHeld2
       refine wpAnyH_take (i := 12) (v := undef) (oi := ?oq118) ?eq118 ?aq118 ?bq118 ?cq118 ?dq118 ?yq118 ?sq118 ?rq118
       case eq118 => simp only [lg, lz, ls]; rfl
       case aq118 | bq118 | cq118 => kernel_rfl
       case dq118 => exact fun _ _ _ h => h
       case yq118 => exact Or.inr ⟨by rfl, rfl⟩
       case sq118 => assumption
       try simp only [Act.put, lt, ly, lu]
       refine wpAnyH_take (i := 13) (v := ?vq119) (oi := ?oq119) ?eq119 ?aq119 ?bq119 ?cq119 ?dq119 ?yq119 ?sq119 ?rq119
       case eq119 => simp only [lg, lz, ls]; rfl
       case aq119 | bq119 | cq119 => kernel_rfl
       case dq119 => exact fun _ _ _ h => h
       case yq119 => refine Or.inl ⟨by rfl, ?_⟩; intro w hSw; (try dsimp only at hSw); go_simp; try with_reducible rfl
       case sq119 => assumption
       try simp only [Act.put, lt, ly, lu]
       refine wpAnyH_take (i := 14) (v := ?vq120) (oi := ?oq120) ?eq120 ?aq120 ?bq120 ?cq120 ?dq120 ?yq120 ?sq120 ?rq120
       case eq120 => simp only [lg, lz, ls]; rfl
       case aq120 | bq120 | cq120 => kernel_rfl
       case dq120 => exact fun _ _ _ h => h
       case yq120 => refine Or.inl ⟨by rfl, ?_⟩; intro w hSw; (try dsimp only at hSw); go_simp; try with_reducible rfl
       case sq120 => assumption
       try simp only [Act.put, lt, ly, lu]
       have HKz := hid hk33
       rw [hF16.out]
       exact mid.out _ _ _ _ _ _ _ _ _ _ _ _ _ _ _ (by kernel_rfl) HKz
     · skip
       have o1 : (k1 == 0) = false := by rw [← e_k1]; exact beq_eq_false_iff_ne.2 (fun h => hA (cmpQ_zero.1 h))
       have o2 : (k2 == 0) = true := by rw [← e_k2, (jh5.out.resolve_left hA), cmpQ_same]; rfl
       replace e_k1 := hid e_k1
       replace e_k2 := hid e_k2
       clear hA e_k3 e_k4
       refine wpAnyH_take (i := 0) (v := ?vq121) (oi := ?oq121) ?eq121 ?aq121 ?bq121 ?cq121 ?dq121 ?yq121 ?sq121 ?rq121
       case eq121 => simp only [lg, lz, ls]; rfl
       case aq121 | bq121 | cq121 => kernel_rfl
       case dq121 => exact fun _ _ _ h => h
       case yq121 => refine Or.inl ⟨by rfl, ?_⟩; intro w hSw; (try dsimp only at hSw); go_simp; try with_reducible rfl
       case sq121 => assumption
       try simp only [Act.put, lt, ly, lu]
       refine wpAnyH_take (i := 2) (v := ?vq122) (oi := ?oq122) ?eq122 ?aq122 ?bq122 ?cq122 ?dq122 ?yq122 ?sq122 ?rq122
       case eq122 => simp only [lg, lz, ls]; rfl
       case aq122 | bq122 | cq122 => kernel_rfl
       case dq122 => exact fun _ _ _ h => h
       case yq122 => refine Or.inl ⟨by rfl, ?_⟩; intro w hSw; (try dsimp only at hSw); go_simp; try with_reducible rfl
       case sq122 => assumption
       try simp only [Act.put, lt, ly, lu]
       refine wpAnyH_ready (rs := [1]) (by kernel_rfl) (by simp) (AllReadyH.cons (o := ?oq123) ?eq123 ?kq123 AllReadyH.nil)
       case eq123 => simp only [lg, lz, ls]; rfl
       intro K hK; go_simp; go_at_call 40
       refine (lo_val (hRbig29.out.keep b30.out) z_A.out).mono ?_
       rintro e w31 ⟨v31, rfl, hv31, b31⟩
       obtain ⟨C51, j51, C52, j52, rfl, -, -⟩ := id hv31.opened; replace hv31 := hid hv31
       replace b31 := hid b31; have hk31 := hcall H0 HSZ16 b31.out; have hk31' := hk31; unfold Held0 at hk31'; clear hHeld H0
       refine hK.out _ _ ?_ (fun hHeld => ?_)
       · (try dsimp only); with_reducible exact hk31'
       clear hK K hk31'; try simp only [Act.put, lt, ly, lu]
       refine wpAnyH_ready (rs := [3]) (by kernel_rfl) (by simp) (AllReadyH.cons (o := ?oq124) ?eq124 ?kq124 AllReadyH.nil)
       case eq124 => simp only [lg, lz, ls]; rfl
       intro K hK; go_simp; go_at_call 40
       refine (lo_val (hRs29.out.keep (Below.step b30.out b31.out)) z_a.out).mono ?_
       rintro e w32 ⟨v32, rfl, hv32, b32⟩
       obtain ⟨C53, j53, C54, j54, rfl, -, -⟩ := id hv32.opened; replace hv32 := hid hv32
       replace b32 := hid b32; have hk32 := hcall hk31 HSZ16 b32.out; have hk32' := hk32; unfold Held0 at hk32'; clear hHeld hk31
       refine hK.out _ _ ?_ (fun hHeld => ?_)
       · (try dsimp only); with_reducible exact hk32'
       clear hK K hk32'; try simp only [Act.put, lt, ly, lu]
       refine wpAnyH_ready (rs := [4]) (by kernel_rfl) (by simp) (AllReadyH.cons (o := ?oq125) ?eq125 ?kq125 AllReadyH.nil)
       case eq125 => simp only [lg, lz, ls]; rfl
       intro K hK; go_simp; go_at_call 21
       refine (cmp_val e_k1.out (hv31.out.keep b32.out) hv32.out z_A.out z_a.out).mono ?_
       rintro e w33 ⟨rfl, b33⟩
       replace b33 := hid b33; have hk33 := hcall hk32 HSZ16 b33.out; have hk33' := hk33; unfold Held0 at hk33'; clear hHeld hk32
       refine hK.out _ _ ?_ (fun hHeld => ?_)
       · (try dsimp only); with_reducible exact hk33'
       clear hK K hk33'; try simp only [Act.put, lt, ly, lu]
       refine wpAnyH_take (i := 5) (v := ?vq126) (oi := ?oq126) ?eq126 ?aq126 ?bq126 ?cq126 ?dq126 ?yq126 ?sq126 ?rq126
       case eq126 => simp only [lg, lz, ls]; rfl
       case aq126 | bq126 | cq126 => kernel_rfl
       case dq126 => exact fun _ _ _ h => h
       case yq126 => refine Or.inl ⟨by rfl, ?_⟩; intro w hSw; (try dsimp only at hSw); go_simp; try with_reducible rfl
       case sq126 => assumption
       try simp only [Act.put, lt, ly, lu]
       refine wpAnyH_take (i := 6) (v := ?vq127) (oi := ?oq127) ?eq127 ?aq127 ?bq127 ?cq127 ?dq127 ?yq127 ?sq127 ?rq127
       case eq127 => simp only [lg, lz, ls]; rfl
       case aq127 | bq127 | cq127 => kernel_rfl
       case dq127 => exact fun _ _ _ h => h
       case yq127 => refine Or.inl ⟨by rfl, ?_⟩; intro w hSw; (try dsimp only at hSw); go_simp; try with_reducible rfl
       case sq127 => assumption
       try simp only [Act.put, lt, ly, lu]
       refine wpAnyH_take (i := 7) (v := ?vq128) (oi := ?oq128) ?eq128 ?aq128 ?bq128 ?cq128 ?dq128 ?yq128 ?sq128 ?rq128
       case eq128 => simp only [lg, lz, ls]; rfl
       case aq128 | bq128 | cq128 => kernel_rfl
       case dq128 => exact fun _ _ _ h => h
       case yq128 => refine Or.inl ⟨by rfl, ?_⟩; intro w hSw; (try dsimp only at hSw); go_simp; try with_reducible rfl
       case sq128 => assumption
       try simp only [Act.put, lt, ly, lu]
       refine wpAnyH_take (i := 9) (v := ?vq129) (oi := ?oq129) ?eq129 ?aq129 ?bq129 ?cq129 ?dq129 ?yq129 ?sq129 ?rq129
       case eq129 => simp only [lg, lz, ls]; rfl
       case aq129 | bq129 | cq129 => kernel_rfl
       case dq129 => exact fun _ _ _ h => h
       case yq129 => refine Or.inl ⟨by rfl, ?_⟩; intro w hSw; (try dsimp only at hSw); go_simp; try with_reducible rfl
       case sq129 => assumption
       try simp only [Act.put, lt, ly, lu]
       refine wpAnyH_ready (rs := [8]) (by kernel_rfl) (by simp) (AllReadyH.cons (o := ?oq130) ?eq130 ?kq130 AllReadyH.nil)
       case eq130 => simp only [lg, lz, ls]; rfl
       intro K hK; go_simp; go_at_call 40
       refine (lo_val (hRbig29.out.keep (Below.step (Below.step (Below.step b30.out b31.out) b32.out) b33.out)) z_A.out).mono ?_
       rintro e w34 ⟨v34, rfl, hv34, b34⟩
       obtain ⟨C55, j55, C56, j56, rfl, -, -⟩ := id hv34.opened; replace hv34 := hid hv34
       replace b34 := hid b34; have hk34 := hcall hk33 HSZ16 b34.out; have hk34' := hk34; unfold Held0 at hk34'; clear hHeld hk33
       refine hK.out _ _ ?_ (fun hHeld => ?_)
       · (try dsimp only); with_reducible exact hk34'
       clear hK K hk34'; try simp only [Act.put, lt, ly, lu]
       refine wpAnyH_ready (rs := [10]) (by kernel_rfl) (by simp) (AllReadyH.cons (o := ?oq131) ?eq131 ?kq131 AllReadyH.nil)
       case eq131 => simp only [lg, lz, ls]; rfl
       intro K hK; go_simp; go_at_call 40
       refine (lo_val (hRcx29.out.keep (Below.step (Below.step (Below.step (Below.step b30.out b31.out) b32.out) b33.out) b34.out)) z_e.out).mono ?_
       rintro e w35 ⟨v35, rfl, hv35, b35⟩
       obtain ⟨C57, j57, C58, j58, rfl, -, -⟩ := id hv35.opened; replace hv35 := hid hv35
       replace b35 := hid b35; have hk35 := hcall hk34 HSZ16 b35.out; have hk35' := hk35; unfold Held0 at hk35'; clear hHeld hk34
       refine hK.out _ _ ?_ (fun hHeld => ?_)
       · (try dsimp only); with_reducible exact hk35'
       clear hK K hk35'; try simp only [Act.put, lt, ly, lu]
       refine wpAnyH_ready (rs := [11]) (by kernel_rfl) (by simp) (AllReadyH.cons (o := ?oq132) ?eq132 ?kq132 AllReadyH.nil)
       case eq132 => simp only [lg, lz, ls]; rfl
       intro K hK; go_simp; go_at_call 21
       refine (cmp_val e_k2.out (hv34.out.keep b35.out) hv35.out z_A.out z_e.out).mono ?_
       rintro e w36 ⟨rfl, b36⟩
       replace b36 := hid b36; have hk36 := hcall hk35 HSZ16 b36.out; have hk36' := hk36; unfold Held0 at hk36'; clear hHeld hk35
       refine hK.out _ _ ?_ (fun hHeld => ?_)
       · (try dsimp only); with_reducible exact hk36'
       clear hK K hk36'; try simp only [Act.put, lt, ly, lu]
       refine wpAnyH_take (i := 12) (v := ?vq133) (oi := ?oq133) ?eq133 ?aq133 ?bq133 ?cq133 ?dq133 ?yq133 ?sq133 ?rq133
       case eq133 => simp only [lg, lz, ls]; rfl
       case aq133 | bq133 | cq133 => kernel_rfl
       case dq133 => exact fun _ _ _ h => h
       case yq133 => refine Or.inl ⟨by rfl, ?_⟩; intro w hSw; (try dsimp only at hSw); go_simp; try with_reducible rfl
       case sq133 => assumption
       try simp only [Act.put, lt, ly, lu]
       refine wpAnyH_take (i := 13) (v := ?vq134) (oi := ?oq134) ?eq134 ?aq134 ?bq134 ?cq134 ?dq134 ?yq134 ?sq134 ?rq134
       case eq134 => simp only [lg, lz, ls]; rfl
       case aq134 | bq134 | cq134 => kernel_rfl
       case dq134 => exact fun _ _ _ h => h
       case yq134 => refine Or.inl ⟨by rfl, ?_⟩; intro w hSw; (try dsimp only at hSw); go_simp; try with_reducible rfl
       case sq134 => assumption
       try simp only [Act.put, lt, ly, lu]
       refine wpAnyH_take (i := 14) (v := ?vq135) (oi := ?oq135) ?eq135 ?aq135 ?bq135 ?cq135 ?dq135 ?yq135 ?sq135 ?rq135
       case eq135 => simp only [lg, lz, ls]; rfl
       case aq135 | bq135 | cq135 => kernel_rfl
       case dq135 => exact fun _ _ _ h => h
       case yq135 => refine Or.inl ⟨by rfl, ?_⟩; intro w hSw; (try dsimp only at hSw); go_simp; try with_reducible rfl
       case sq135 => assumption
       try simp only [Act.put, lt, ly, lu]
       have HKz := hid hk36
       rw [hF16.out]
       exact mid.out _ _ _ _ _ _ _ _ _ _ _ _ _ _ _ (by kernel_rfl) HKz
    simp only [← hA14.out, Act.put, lt, ly, lu] at rest14
    replace rest14 := hid rest14
    have HA := hA14.out
    subst HA
    rw [← hF14.out]
    rcases hfacts.out with ⟨hok, bb, e_bb, n1, n2, n3, zt1, zt2⟩ | ⟨hok, n1, n2⟩
    · skip
      subst hok
      replace e_bb := hid e_bb
      replace n1 := hid n1
      replace n2 := hid n2
      replace n3 := hid n3
      refine wpAnyH_take (i := 0) (v := ?vq136) (oi := ?oq136) ?eq136 ?aq136 ?bq136 ?cq136 ?dq136 ?yq136 ?sq136 ?rq136
      case eq136 => simp only [lg, lz, ls]; rfl
      case aq136 | bq136 | cq136 => kernel_rfl
      case dq136 => exact fun _ _ _ h => h
      case yq136 => refine Or.inl ⟨by rfl, ?_⟩; intro w hSw; (try dsimp only at hSw); go_simp; try with_reducible rfl
      case sq136 => assumption
      try simp only [Act.put, lt, ly, lu]
      refine wpAnyH_take (i := 1) (v := ?vq137) (oi := ?oq137) ?eq137 ?aq137 ?bq137 ?cq137 ?dq137 ?yq137 ?sq137 ?rq137
      case eq137 => simp only [lg, lz, ls]; rfl
      case aq137 | bq137 | cq137 => kernel_rfl
      case dq137 => exact fun _ _ _ h => h
      case yq137 => refine Or.inl ⟨by rfl, ?_⟩; intro w hSw; (try dsimp only at hSw); go_simp; try with_reducible rfl
      case sq137 => assumption
      try simp only [Act.put, lt, ly, lu]
      refine wpAnyH_take (i := 2) (v := ?vq138) (oi := ?oq138) ?eq138 ?aq138 ?bq138 ?cq138 ?dq138 ?yq138 ?sq138 ?rq138
      case eq138 => simp only [lg, lz, ls]; rfl
      case aq138 | bq138 | cq138 => kernel_rfl
      case dq138 => exact fun _ _ _ h => h
      case yq138 => refine Or.inl ⟨by rfl, ?_⟩; intro w hSw; (try dsimp only at hSw); go_simp; try with_reducible rfl
      case sq138 => assumption
      try simp only [Act.put, lt, ly, lu]
      refine wpAnyH_take (i := 3) (v := ?vq139) (oi := ?oq139) ?eq139 ?aq139 ?bq139 ?cq139 ?dq139 ?yq139 ?sq139 ?rq139
      case eq139 => simp only [lg, lz, ls]; rfl
      case aq139 | bq139 | cq139 => kernel_rfl
      case dq139 => exact fun _ _ _ h => h
      case yq139 => refine Or.inl ⟨by rfl, ?_⟩; intro w hSw; (try dsimp only at hSw); go_simp; try with_reducible rfl
      case sq139 => assumption
      try simp only [Act.put, lt, ly, lu]
      refine wpAnyH_ready (rs := [4]) (by kernel_rfl) (by simp) (AllReadyH.cons (o := ?oq140) ?eq140 ?kq140 AllReadyH.nil)
      case eq140 => simp only [lg, lz, ls]; rfl
      intro K hK; go_simp; go_at_call 45
      refine (inside_val n1.out (hRmt28.out.keep b29.out) (hRs28.out.keep b29.out) zt1 zt2 z_a.out z_b.out).mono ?_
      rintro e w30 ⟨rfl, b30⟩
      replace b30 := hid b30; have hk30 := hcall H0 HSZ14 b30.out; have hk30' := hk30; unfold Held0 at hk30'; clear hHeld H0
      refine hK.out _ _ ?_ (fun hHeld => ?_)
      · (try dsimp only); with_reducible exact hk30'
      clear hK K hk30'; try simp only [Act.put, lt, ly, lu]
      refine wpAnyH_take (i := 5) (v := ?vq141) (oi := ?oq141) ?eq141 ?aq141 ?bq141 ?cq141 ?dq141 ?yq141 ?sq141 ?rq141
      case eq141 => simp only [lg, lz, ls]; rfl
      case aq141 | bq141 | cq141 => kernel_rfl
      case dq141 => exact fun _ _ _ h => h
      case yq141 => refine Or.inl ⟨by rfl, ?_⟩; intro w hSw; (try dsimp only at hSw); go_simp; try with_reducible rfl
      case sq141 => assumption
      try simp only [Act.put, lt, ly, lu]
      refine wpAnyH_take (i := 6) (v := ?vq142) (oi := ?oq142) ?eq142 ?aq142 ?bq142 ?cq142 ?dq142 ?yq142 ?sq142 ?rq142
      case eq142 => simp only [lg, lz, ls]; rfl
      case aq142 | bq142 | cq142 => kernel_rfl
      case dq142 => exact fun _ _ _ h => h
      case yq142 => refine Or.inl ⟨by rfl, ?_⟩; intro w hSw; (try dsimp only at hSw); go_simp; try with_reducible rfl
      case sq142 => assumption
      try simp only [Act.put, lt, ly, lu]
      refine wpAnyH_take (i := 7) (v := ?vq143) (oi := ?oq143) ?eq143 ?aq143 ?bq143 ?cq143 ?dq143 ?yq143 ?sq143 ?rq143
      case eq143 => simp only [lg, lz, ls]; rfl
      case aq143 | bq143 | cq143 => kernel_rfl
      case dq143 => exact fun _ _ _ h => h
      case yq143 => refine Or.inl ⟨by rfl, ?_⟩; intro w hSw; (try dsimp only at hSw); go_simp; try with_reducible rfl
      case sq143 => assumption
      try simp only [Act.put, lt, ly, lu]
      refine wpAnyH_take (i := 8) (v := ?vq144) (oi := ?oq144) ?eq144 ?aq144 ?bq144 ?cq144 ?dq144 ?yq144 ?sq144 ?rq144
      case eq144 => simp only [lg, lz, ls]; rfl
      case aq144 | bq144 | cq144 => kernel_rfl
      case dq144 => exact fun _ _ _ h => h
      case yq144 => refine Or.inl ⟨by rfl, ?_⟩; intro w hSw; (try dsimp only at hSw); go_simp; try with_reducible rfl
      case sq144 => assumption
      try simp only [Act.put, lt, ly, lu]
      refine wpAnyH_ready (rs := [9]) (by kernel_rfl) (by simp) (AllReadyH.cons (o := ?oq145) ?eq145 ?kq145 AllReadyH.nil)
      case eq145 => simp only [lg, lz, ls]; rfl
      intro K hK; go_simp; go_at_call 45
      refine (inside_val n2.out (hRmt28.out.keep (Below.step b29.out b30.out)) (hRcx28.out.keep (Below.step b29.out b30.out)) zt1 zt2 z_e.out z_f.out).mono ?_
      rintro e w31 ⟨rfl, b31⟩
      replace b31 := hid b31; have hk31 := hcall hk30 HSZ14 b31.out; have hk31' := hk31; unfold Held0 at hk31'; clear hHeld hk30
      refine hK.out _ _ ?_ (fun hHeld => ?_)
      · (try dsimp only); with_reducible exact hk31'
      clear hK K hk31'; try simp only [Act.put, lt, ly, lu]
      refine wpAnyH_take (i := 10) (v := ?vq146) (oi := ?oq146) ?eq146 ?aq146 ?bq146 ?cq146 ?dq146 ?yq146 ?sq146 ?rq146
      case eq146 => simp only [lg, lz, ls]; rfl
      case aq146 | bq146 | cq146 => kernel_rfl
      case dq146 => exact fun _ _ _ h => h
      case yq146 => refine Or.inl ⟨by rfl, ?_⟩; intro w hSw; (try dsimp only at hSw); go_simp; try with_reducible rfl
      case sq146 => assumption
      try simp only [Act.put, lt, ly, lu]
      refine wpAnyH_take (i := 11) (v := ?vq147) (oi := ?oq147) ?eq147 ?aq147 ?bq147 ?cq147 ?dq147 ?yq147 ?sq147 ?rq147
      case eq147 => simp only [lg, lz, ls]; rfl
      case aq147 | bq147 | cq147 => kernel_rfl
      case dq147 => exact fun _ _ _ h => h
      case yq147 => refine Or.inl ⟨by rfl, ?_⟩; intro w hSw; (try dsimp only at hSw); go_simp; try with_reducible rfl
      case sq147 => assumption
      try simp only [Act.put, lt, ly, lu]
      refine wpAnyH_take (i := 12) (v := ?vq148) (oi := ?oq148) ?eq148 ?aq148 ?bq148 ?cq148 ?dq148 ?yq148 ?sq148 ?rq148
      case eq148 => simp only [lg, lz, ls]; rfl
      case aq148 | bq148 | cq148 => kernel_rfl
      case dq148 => exact fun _ _ _ h => h
      case yq148 => refine Or.inl ⟨by rfl, ?_⟩; intro w hSw; (try dsimp only at hSw); go_simp; try with_reducible rfl
      case sq148 => assumption
      try simp only [Act.put, lt, ly, lu]
      refine wpAnyH_take (i := 13) (v := ?vq149) (oi := ?oq149) ?eq149 ?aq149 ?bq149 ?cq149 ?dq149 ?yq149 ?sq149 ?rq149
      case eq149 => simp only [lg, lz, ls]; rfl
      case aq149 | bq149 | cq149 => kernel_rfl
      case dq149 => exact fun _ _ _ h => h
      case yq149 => refine Or.inl ⟨by rfl, ?_⟩; intro w hSw; (try dsimp only at hSw); go_simp; try with_reducible rfl
      case sq149 => assumption
      try simp only [Act.put, lt, ly, lu]
      refine wpAnyH_take (i := 14) (v := ?vq150) (oi := ?oq150) ?eq150 ?aq150 ?bq150 ?cq150 ?dq150 ?yq150 ?sq150 ?rq150
      case eq150 => simp only [lg, lz, ls]; rfl
      case aq150 | bq150 | cq150 => kernel_rfl
      case dq150 => exact fun _ _ _ h => h
      case yq150 => refine Or.inl ⟨by rfl, ?_⟩; intro w hSw; (try dsimp only at hSw); go_simp; try with_reducible rfl
      case sq150 => assumption
      try simp only [Act.put, lt, ly, lu]
      refine wpAnyH_take (i := 16) (v := ?vq151) (oi := ?oq151) ?eq151 ?aq151 ?bq151 ?cq151 ?dq151 ?yq151 ?sq151 ?rq151
      case eq151 => simp only [lg, lz, ls]; rfl
      case aq151 | bq151 | cq151 => kernel_rfl
      case dq151 => exact fun _ _ _ h => h
      case yq151 => refine Or.inl ⟨by rfl, ?_⟩; intro w hSw; (try dsimp only at hSw); go_simp; try with_reducible rfl
      case sq151 => assumption
      try simp only [Act.put, lt, ly, lu]
      refine wpAnyH_take (i := 17) (v := ?vq152) (oi := ?oq152) ?eq152 ?aq152 ?bq152 ?cq152 ?dq152 ?yq152 ?sq152 ?rq152
      case eq152 => simp only [lg, lz, ls]; rfl
      case aq152 | bq152 | cq152 => kernel_rfl
      case dq152 => exact fun _ _ _ h => h
      case yq152 => refine Or.inl ⟨by rfl, ?_⟩; intro w hSw; (try dsimp only at hSw); go_simp; try with_reducible rfl
      case sq152 => assumption
      try simp only [Act.put, lt, ly, lu]
      refine wpAnyH_ready (rs := [15]) (by kernel_rfl) (by simp) (AllReadyH.cons (o := ?oq153) ?eq153 ?kq153 AllReadyH.nil)
      case eq153 => simp only [lg, lz, ls]; rfl
      intro K hK; go_simp; go_at_call 32
      refine (has_val e_bb.out (hRcx28.out.keep (Below.step (Below.step b29.out b30.out) b31.out)) (hRx28.out.keep (Below.step (Below.step b29.out b30.out) b31.out)) z_e.out z_f.out z_x.out).mono ?_
      rintro e w32 ⟨rfl, b32⟩
      replace b32 := hid b32; have hk32 := hcall hk31 HSZ14 b32.out; have hk32' := hk32; unfold Held0 at hk32'; clear hHeld hk31
      refine hK.out _ _ ?_ (fun hHeld => ?_)
      · (try dsimp only); with_reducible exact hk32'
      clear hK K hk32'; try simp only [Act.put, lt, ly, lu]
      refine wpAnyH_ready (rs := [18]) (by kernel_rfl) (by simp) (AllReadyH.cons (o := ?oq154) ?eq154 ?kq154 AllReadyH.nil)
      case eq154 => simp only [lg, lz, ls]; rfl
      intro K hK; go_simp; go_at_call 32
      refine (has_val n3.out (hRmt28.out.keep (Below.step (Below.step (Below.step b29.out b30.out) b31.out) b32.out)) (hRx28.out.keep (Below.step (Below.step (Below.step b29.out b30.out) b31.out) b32.out)) zt1 zt2 z_x.out).mono ?_
      rintro e w33 ⟨rfl, b33⟩
      replace b33 := hid b33; have hk33 := hcall hk32 HSZ14 b33.out; have hk33' := hk33; unfold Held0 at hk33'; clear hHeld hk32
      refine hK.out _ _ ?_ (fun hHeld => ?_)
      · (try dsimp only); with_reducible exact hk33'
      clear hK K hk33'; try simp only [Act.put, lt, ly, lu]
      refine wpAnyH_take (i := 19) (v := ?vq155) (oi := ?oq155) ?eq155 ?aq155 ?bq155 ?cq155 ?dq155 ?yq155 ?sq155 ?rq155
      case eq155 => simp only [lg, lz, ls]; rfl
      case aq155 | bq155 | cq155 => kernel_rfl
      case dq155 => exact fun _ _ _ h => h
      case yq155 => refine Or.inl ⟨by rfl, ?_⟩; intro w hSw; (try dsimp only at hSw); go_simp; try with_reducible rfl
      case sq155 => assumption
      try simp only [Act.put, lt, ly, lu]
      refine wpAnyH_take (i := 20) (v := ?vq156) (oi := ?oq156) ?eq156 ?aq156 ?bq156 ?cq156 ?dq156 ?yq156 ?sq156 ?rq156
      case eq156 => simp only [lg, lz, ls]; rfl
      case aq156 | bq156 | cq156 => kernel_rfl
      case dq156 => exact fun _ _ _ h => h
      case yq156 => refine Or.inl ⟨by rfl, ?_⟩; intro w hSw; (try dsimp only at hSw); go_simp; try with_reducible rfl
      case sq156 => assumption
      try simp only [Act.put, lt, ly, lu]
      refine wpAnyH_take (i := 21) (v := ?vq157) (oi := ?oq157) ?eq157 ?aq157 ?bq157 ?cq157 ?dq157 ?yq157 ?sq157 ?rq157
      case eq157 => simp only [lg, lz, ls]; rfl
      case aq157 | bq157 | cq157 => kernel_rfl
      case dq157 => exact fun _ _ _ h => h
      case yq157 => refine Or.inl ⟨by rfl, ?_⟩; intro w hSw; (try dsimp only at hSw); go_simp; try with_reducible rfl
      case sq157 => assumption
      try simp only [Act.put, lt, ly, lu]
      refine wpAnyH_take (i := 22) (v := ?vq158) (oi := ?oq158) ?eq158 ?aq158 ?bq158 ?cq158 ?dq158 ?yq158 ?sq158 ?rq158
      case eq158 => simp only [lg, lz, ls]; rfl
      case aq158 | bq158 | cq158 => kernel_rfl
      case dq158 => exact fun _ _ _ h => h
      case yq158 => refine Or.inl ⟨by rfl, ?_⟩; intro w hSw; (try dsimp only at hSw); go_simp; try with_reducible rfl
      case sq158 => assumption
      try simp only [Act.put, lt, ly, lu]
      refine wpAnyH_take (i := 23) (v := ?vq159) (oi := ?oq159) ?eq159 ?aq159 ?bq159 ?cq159 ?dq159 ?yq159 ?sq159 ?rq159
      case eq159 => simp only [lg, lz, ls]; rfl
      case aq159 | bq159 | cq159 => kernel_rfl
      case dq159 => exact fun _ _ _ h => h
      case yq159 => refine Or.inl ⟨by rfl, ?_⟩; intro w hSw; (try dsimp only at hSw); go_simp; try with_reducible rfl
      case sq159 => assumption
      try simp only [Act.put, lt, ly, lu]
      refine wpAnyH_take (i := 24) (v := ?vq160) (oi := ?oq160) ?eq160 ?aq160 ?bq160 ?cq160 ?dq160 ?yq160 ?sq160 ?rq160
      case eq160 => simp only [lg, lz, ls]; rfl
      case aq160 | bq160 | cq160 => kernel_rfl
      case dq160 => exact fun _ _ _ h => h
      case yq160 => refine Or.inl ⟨by rfl, ?_⟩; intro w hSw; (try dsimp only at hSw); go_simp; try with_reducible rfl
      case sq160 => assumption
      try simp only [Act.put, lt, ly, lu]
      refine wpAnyH_take (i := 25) (v := ?vq161) (oi := ?oq161) ?eq161 ?aq161 ?bq161 ?cq161 ?dq161 ?yq161 ?sq161 ?rq161
      case eq161 => simp only [lg, lz, ls]; rfl
      case aq161 | bq161 | cq161 => kernel_rfl
      case dq161 => exact fun _ _ _ h => h
      case yq161 => refine Or.inl ⟨by rfl, ?_⟩; intro w hSw; (try dsimp only at hSw); go_simp; try with_reducible rfl
      case sq161 => assumption
      try simp only [Act.put, lt, ly, lu]
      refine wpAnyH_take (i := 26) (v := undef) (oi := ?oq162) ?eq162 ?aq162 ?bq162 ?cq162 ?dq162 ?yq162 ?sq162 ?rq162
      case eq162 => simp only [lg, lz, ls]; rfl
      case aq162 | bq162 | cq162 => kernel_rfl
      case dq162 => exact fun _ _ _ h => h
      case yq162 => exact Or.inr ⟨by rfl, rfl⟩
      case sq162 => assumption
      try simp only [Act.put, lt, ly, lu]
      refine wpAnyH_take (i := 27) (v := undef) (oi := ?oq163) ?eq163 ?aq163 ?bq163 ?cq163 ?dq163 ?yq163 ?sq163 ?rq163
      case eq163 => simp only [lg, lz, ls]; rfl
      case aq163 | bq163 | cq163 => kernel_rfl
      case dq163 => exact fun _ _ _ h => h
      case yq163 => exact Or.inr ⟨by rfl, rfl⟩
      case sq163 => assumption
      try simp only [Act.put, lt, ly, lu]
      refine wpAnyH_ready (rs := [28]) (by kernel_rfl) (by simp) (AllReadyH.cons (o := ?oq164) ?eq164 ?kq164 AllReadyH.nil)
      case eq164 => simp only [lg, lz, ls]; rfl
      intro K hK; go_simp
      refine hK.out _ _ ?_ (fun hHeld2 => ?_)
      · (try dsimp only); exact hHeld
      clear hK K hHeld
      try simp only [Act.put, lt, ly, lu]
      have hHeld := hHeld2
      clear hHeld2
      refine wpAnyH_take (i := 29) (v := undef) (oi := ?oq165) ?eq165 ?aq165 ?bq165 ?cq165 ?dq165 ?yq165 ?sq165 ?rq165
      case eq165 => simp only [lg, lz, ls]; rfl
      case aq165 | bq165 | cq165 => kernel_rfl
      case dq165 => exact fun _ _ _ h => h
      case yq165 => exact Or.inr ⟨by rfl, rfl⟩
      case sq165 => assumption
      try simp only [Act.put, lt, ly, lu]
      refine wpAnyH_take (i := 30) (v := undef) (oi := ?oq166) ?eq166 ?aq166 ?bq166 ?cq166 ?dq166 ?yq166 ?sq166 ?rq166
      case eq166 => simp only [lg, lz, ls]; rfl
      case aq166 | bq166 | cq166 => kernel_rfl
      case dq166 => exact fun _ _ _ h => h
      case yq166 => exact Or.inr ⟨by rfl, rfl⟩
      case sq166 => assumption
      try simp only [Act.put, lt, ly, lu]
      refine wpAnyH_take (i := 31) (v := undef) (oi := ?oq167) ?eq167 ?aq167 ?bq167 ?cq167 ?dq167 ?yq167 ?sq167 ?rq167
      case eq167 => simp only [lg, lz, ls]; rfl
      case aq167 | bq167 | cq167 => kernel_rfl
      case dq167 => exact fun _ _ _ h => h
      case yq167 => exact Or.inr ⟨by rfl, rfl⟩
      case sq167 => assumption
      try simp only [Act.put, lt, ly, lu]
      refine wpAnyH_take (i := 32) (v := undef) (oi := ?oq168) ?eq168 ?aq168 ?bq168 ?cq168 ?dq168 ?yq168 ?sq168 ?rq168
      case eq168 => simp only [lg, lz, ls]; rfl
      case aq168 | bq168 | cq168 => kernel_rfl
      case dq168 => exact fun _ _ _ h => h
      case yq168 => exact Or.inr ⟨by rfl, rfl⟩
      case sq168 => assumption
      try simp only [Act.put, lt, ly, lu]
      refine wpAnyH_take (i := 33) (v := undef) (oi := ?oq169) ?eq169 ?aq169 ?bq169 ?cq169 ?dq169 ?yq169 ?sq169 ?rq169
      case eq169 => simp only [lg, lz, ls]; rfl
      case aq169 | bq169 | cq169 => kernel_rfl
      case dq169 => exact fun _ _ _ h => h
      case yq169 => exact Or.inr ⟨by rfl, rfl⟩
      case sq169 => assumption
      try simp only [Act.put, lt, ly, lu]
      refine wpAnyH_ready (rs := [34]) (by kernel_rfl) (by simp) (AllReadyH.cons (o := ?oq170) ?eq170 ?kq170 AllReadyH.nil)
      case eq170 => simp only [lg, lz, ls]; rfl
      intro K hK; go_simp
      refine hK.out _ _ ?_ (fun hHeld2 => ?_)
      · (try dsimp only); exact hHeld
      clear hK K hHeld
      try simp only [Act.put, lt, ly, lu]
      have hHeld := hHeld2
      clear hHeld2
      refine wpAnyH_ready (rs := [35]) (by kernel_rfl) (by simp) (AllReadyH.cons (o := ?oq171) ?eq171 ?kq171 AllReadyH.nil)
      case eq171 => simp only [lg, lz, ls]; rfl
      intro K hK; go_simp
      refine hK.out _ _ ?_ (fun hHeld2 => ?_)
      · (try dsimp only); exact hHeld
      clear hK K hHeld
      try simp only [Act.put, lt, ly, lu]
      have hHeld := hHeld2
      clear hHeld2
      refine wpAnyH_take (i := 36) (v := undef) (oi := ?oq172) ?eq172 ?aq172 ?bq172 ?cq172 ?dq172 ?yq172 ?sq172 ?rq172
      case eq172 => simp only [lg, lz, ls]; rfl
      case aq172 | bq172 | cq172 => kernel_rfl
      case dq172 => exact fun _ _ _ h => h
      case yq172 => exact Or.inr ⟨by rfl, rfl⟩
      case sq172 => assumption
      try simp only [Act.put, lt, ly, lu]
      refine wpAnyH_take (i := 37) (v := ?vq173) (oi := ?oq173) ?eq173 ?aq173 ?bq173 ?cq173 ?dq173 ?yq173 ?sq173 ?rq173
      case eq173 => simp only [lg, lz, ls]; rfl
      case aq173 | bq173 | cq173 => kernel_rfl
      case dq173 => exact fun _ _ _ h => h
      case yq173 => refine Or.inl ⟨by rfl, ?_⟩; intro w hSw; (try dsimp only at hSw); go_simp; try with_reducible rfl
      case sq173 => assumption
      try simp only [Act.put, lt, ly, lu]
      refine wpAnyH_take (i := 38) (v := ?vq174) (oi := ?oq174) ?eq174 ?aq174 ?bq174 ?cq174 ?dq174 ?yq174 ?sq174 ?rq174
      case eq174 => simp only [lg, lz, ls]; rfl
      case aq174 | bq174 | cq174 => kernel_rfl
      case dq174 => exact fun _ _ _ h => h
      case yq174 => refine Or.inl ⟨by rfl, ?_⟩; intro w hSw; (try dsimp only at hSw); go_simp; try with_reducible rfl
      case sq174 => assumption
      try simp only [Act.put, lt, ly, lu]
      have HKz := hid hk33
      rw [hF14.out]
      exact rest14.out _ _ _ _ _ _ _ _ _ _ _ _ _ _ _ _ _ _ _ _ _ _ _ _ _ _ _ _ _ _ _ _ _ _ _ _ _ _ _ _ (by kernel_rfl) HKz
    · skip
      subst hok
      replace n1 := hid n1
      replace n2 := hid n2
      refine wpAnyH_take (i := 0) (v := ?vq175) (oi := ?oq175) ?eq175 ?aq175 ?bq175 ?cq175 ?dq175 ?yq175 ?sq175 ?rq175
      case eq175 => simp only [lg, lz, ls]; rfl
      case aq175 | bq175 | cq175 => kernel_rfl
      case dq175 => exact fun _ _ _ h => h
      case yq175 => refine Or.inl ⟨by rfl, ?_⟩; intro w hSw; (try dsimp only at hSw); go_simp; try with_reducible rfl
      case sq175 => assumption
      try simp only [Act.put, lt, ly, lu]
      refine wpAnyH_take (i := 1) (v := ?vq176) (oi := ?oq176) ?eq176 ?aq176 ?bq176 ?cq176 ?dq176 ?yq176 ?sq176 ?rq176
      case eq176 => simp only [lg, lz, ls]; rfl
      case aq176 | bq176 | cq176 => kernel_rfl
      case dq176 => exact fun _ _ _ h => h
      case yq176 => refine Or.inl ⟨by rfl, ?_⟩; intro w hSw; (try dsimp only at hSw); go_simp; try with_reducible rfl
      case sq176 => assumption
      try simp only [Act.put, lt, ly, lu]
      refine wpAnyH_take (i := 2) (v := undef) (oi := ?oq177) ?eq177 ?aq177 ?bq177 ?cq177 ?dq177 ?yq177 ?sq177 ?rq177
      case eq177 => simp only [lg, lz, ls]; rfl
      case aq177 | bq177 | cq177 => kernel_rfl
      case dq177 => exact fun _ _ _ h => h
      case yq177 => exact Or.inr ⟨by rfl, rfl⟩
      case sq177 => assumption
      try simp only [Act.put, lt, ly, lu]
      refine wpAnyH_take (i := 3) (v := undef) (oi := ?oq178) ?eq178 ?aq178 ?bq178 ?cq178 ?dq178 ?yq178 ?sq178 ?rq178
      case eq178 => simp only [lg, lz, ls]; rfl
      case aq178 | bq178 | cq178 => kernel_rfl
      case dq178 => exact fun _ _ _ h => h
      case yq178 => exact Or.inr ⟨by rfl, rfl⟩
      case sq178 => assumption
      try simp only [Act.put, lt, ly, lu]
      refine wpAnyH_ready (rs := [4]) (by kernel_rfl) (by simp) (AllReadyH.cons (o := ?oq179) ?eq179 ?kq179 AllReadyH.nil)
      case eq179 => simp only [lg, lz, ls]; rfl
      intro K hK; go_simp
      refine hK.out _ _ ?_ (fun hHeld2 => ?_)
      · (try dsimp only); exact hHeld
      clear hK K hHeld
      try simp only [Act.put, lt, ly, lu]
      have hHeld := hHeld2
      clear hHeld2
      refine wpAnyH_take (i := 5) (v := undef) (oi := ?oq180) ?eq180 ?aq180 ?bq180 ?cq180 ?dq180 ?yq180 ?sq180 ?rq180
      case eq180 => simp only [lg, lz, ls]; rfl
      case aq180 | bq180 | cq180 => kernel_rfl
      case dq180 => exact fun _ _ _ h => h
      case yq180 => exact Or.inr ⟨by rfl, rfl⟩
      case sq180 => assumption
      try simp only [Act.put, lt, ly, lu]
      refine wpAnyH_take (i := 6) (v := undef) (oi := ?oq181) ?eq181 ?aq181 ?bq181 ?cq181 ?dq181 ?yq181 ?sq181 ?rq181
      case eq181 => simp only [lg, lz, ls]; rfl
      case aq181 | bq181 | cq181 => kernel_rfl
      case dq181 => exact fun _ _ _ h => h
      case yq181 => exact Or.inr ⟨by rfl, rfl⟩
      case sq181 => assumption
      try simp only [Act.put, lt, ly, lu]
      refine wpAnyH_take (i := 7) (v := undef) (oi := ?oq182) ?eq182 ?aq182 ?bq182 ?cq182 ?dq182 ?yq182 ?sq182 ?rq182
      case eq182 => simp only [lg, lz, ls]; rfl
      case aq182 | bq182 | cq182 => kernel_rfl
      case dq182 => exact fun _ _ _ h => h
      case yq182 => exact Or.inr ⟨by rfl, rfl⟩
      case sq182 => assumption
      try simp only [Act.put, lt, ly, lu]
      refine wpAnyH_take (i := 8) (v := undef) (oi := ?oq183) ?eq183 ?aq183 ?bq183 ?cq183 ?dq183 ?yq183 ?sq183 ?rq183
      case eq183 => simp only [lg, lz, ls]; rfl
      case aq183 | bq183 | cq183 => kernel_rfl
      case dq183 => exact fun _ _ _ h => h
      case yq183 => exact Or.inr ⟨by rfl, rfl⟩
      case sq183 => assumption
      try simp only [Act.put, lt, ly, lu]
      refine wpAnyH_ready (rs := [9]) (by kernel_rfl) (by simp) (AllReadyH.cons (o := ?oq184) ?eq184 ?kq184 AllReadyH.nil)
      case eq184 => simp only [lg, lz, ls]; rfl
      intro K hK; go_simp
      refine hK.out _ _ ?_ (fun hHeld2 => ?_)
      · (try dsimp only); exact hHeld
      clear hK K hHeld
      try simp only [Act.put, lt, ly, lu]
      have hHeld := hHeld2
      clear hHeld2
      refine wpAnyH_take (i := 10) (v := undef) (oi := ?oq185) ?eq185 ?aq185 ?bq185 ?cq185 ?dq185 ?yq185 ?sq185 ?rq185
      case eq185 => simp only [lg, lz, ls]; rfl
      case aq185 | bq185 | cq185 => kernel_rfl
      case dq185 => exact fun _ _ _ h => h
      case yq185 => exact Or.inr ⟨by rfl, rfl⟩
      case sq185 => assumption
      try simp only [Act.put, lt, ly, lu]
      refine wpAnyH_take (i := 11) (v := undef) (oi := ?oq186) ?eq186 ?aq186 ?bq186 ?cq186 ?dq186 ?yq186 ?sq186 ?rq186
      case eq186 => simp only [lg, lz, ls]; rfl
      case aq186 | bq186 | cq186 => kernel_rfl
      case dq186 => exact fun _ _ _ h => h
      case yq186 => exact Or.inr ⟨by rfl, rfl⟩
      case sq186 => assumption
      try simp only [Act.put, lt, ly, lu]
      refine wpAnyH_take (i := 12) (v := undef) (oi := ?oq187) ?eq187 ?aq187 ?bq187 ?cq187 ?dq187 ?yq187 ?sq187 ?rq187
      case eq187 => simp only [lg, lz, ls]; rfl
      case aq187 | bq187 | cq187 => kernel_rfl
      case dq187 => exact fun _ _ _ h => h
      case yq187 => exact Or.inr ⟨by rfl, rfl⟩
      case sq187 => assumption
      try simp only [Act.put, lt, ly, lu]
      refine wpAnyH_take (i := 13) (v := undef) (oi := ?oq188) ?eq188 ?aq188 ?bq188 ?cq188 ?dq188 ?yq188 ?sq188 ?rq188
      case eq188 => simp only [lg, lz, ls]; rfl
      case aq188 | bq188 | cq188 => kernel_rfl
      case dq188 => exact fun _ _ _ h => h
      case yq188 => exact Or.inr ⟨by rfl, rfl⟩
      case sq188 => assumption
      try simp only [Act.put, lt, ly, lu]
      refine wpAnyH_take (i := 14) (v := undef) (oi := ?oq189) ?eq189 ?aq189 ?bq189 ?cq189 ?dq189 ?yq189 ?sq189 ?rq189
      case eq189 => simp only [lg, lz, ls]; rfl
      case aq189 | bq189 | cq189 => kernel_rfl
      case dq189 => exact fun _ _ _ h => h
      case yq189 => exact Or.inr ⟨by rfl, rfl⟩
      case sq189 => assumption
      try simp only [Act.put, lt, ly, lu]
      refine wpAnyH_take (i := 16) (v := undef) (oi := ?oq190) ?eq190 ?aq190 ?bq190 ?cq190 ?dq190 ?yq190 ?sq190 ?rq190
      case eq190 => simp only [lg, lz, ls]; rfl
      case aq190 | bq190 | cq190 => kernel_rfl
      case dq190 => exact fun _ _ _ h => h
      case yq190 => exact Or.inr ⟨by rfl, rfl⟩
      case sq190 => assumption
      try simp only [Act.put, lt, ly, lu]
      refine wpAnyH_take (i := 17) (v := undef) (oi := ?oq191) ?eq191 ?aq191 ?bq191 ?cq191 ?dq191 ?yq191 ?sq191 ?rq191
      case eq191 => simp only [lg, lz, ls]; rfl
      case aq191 | bq191 | cq191 => kernel_rfl
      case dq191 => exact fun _ _ _ h => h
      case yq191 => exact Or.inr ⟨by rfl, rfl⟩
      case sq191 => assumption
      try simp only [Act.put, lt, ly, lu]
      refine wpAnyH_ready (rs := [15]) (by kernel_rfl) (by simp) (AllReadyH.cons (o := ?oq192) ?eq192 ?kq192 AllReadyH.nil)
      case eq192 => simp only [lg, lz, ls]; rfl
      intro K hK; go_simp
      refine hK.out _ _ ?_ (fun hHeld2 => ?_)
      · (try dsimp only); exact hHeld
      clear hK K hHeld
      try simp only [Act.put, lt, ly, lu]
      have hHeld := hHeld2
      clear hHeld2
      refine wpAnyH_ready (rs := [18]) (by kernel_rfl) (by simp) (AllReadyH.cons (o := ?oq193) ?eq193 ?kq193 AllReadyH.nil)
      case eq193 => simp only [lg, lz, ls]; rfl
      intro K hK; go_simp
      refine hK.out _ _ ?_ (fun hHeld2 => ?_)
      · (try dsimp only); exact hHeld
      clear hK K hHeld
      try simp only [Act.put, lt, ly, lu]
      have hHeld := hHeld2
      clear hHeld2
      refine wpAnyH_take (i := 19) (v := undef) (oi := ?oq194) ?eq194 ?aq194 ?bq194 ?cq194 ?dq194 ?yq194 ?sq194 ?rq194
      case eq194 => simp only [lg, lz, ls]; rfl
      case aq194 | bq194 | cq194 => kernel_rfl
      case dq194 => exact fun _ _ _ h => h
      case yq194 => exact Or.inr ⟨by rfl, rfl⟩
      case sq194 => assumption
      try simp only [Act.put, lt, ly, lu]
      refine wpAnyH_take (i := 20) (v := undef) (oi := ?oq195) ?eq195 ?aq195 ?bq195 ?cq195 ?dq195 ?yq195 ?sq195 ?rq195
      case eq195 => simp only [lg, lz, ls]; rfl
      case aq195 | bq195 | cq195 => kernel_rfl
      case dq195 => exact fun _ _ _ h => h
      case yq195 => exact Or.inr ⟨by rfl, rfl⟩
      case sq195 => assumption
      try simp only [Act.put, lt, ly, lu]
      refine wpAnyH_take (i := 21) (v := ?vq196) (oi := ?oq196) ?eq196 ?aq196 ?bq196 ?cq196 ?dq196 ?yq196 ?sq196 ?rq196
      case eq196 => simp only [lg, lz, ls]; rfl
      case aq196 | bq196 | cq196 => kernel_rfl
      case dq196 => exact fun _ _ _ h => h
      case yq196 => refine Or.inl ⟨by rfl, ?_⟩; intro w hSw; (try dsimp only at hSw); go_simp; try with_reducible rfl
      case sq196 => assumption
      try simp only [Act.put, lt, ly, lu]
      refine wpAnyH_take (i := 22) (v := ?vq197) (oi := ?oq197) ?eq197 ?aq197 ?bq197 ?cq197 ?dq197 ?yq197 ?sq197 ?rq197
      case eq197 => simp only [lg, lz, ls]; rfl
      case aq197 | bq197 | cq197 => kernel_rfl
      case dq197 => exact fun _ _ _ h => h
      case yq197 => refine Or.inl ⟨by rfl, ?_⟩; intro w hSw; (try dsimp only at hSw); go_simp; try with_reducible rfl
      case sq197 => assumption
      try simp only [Act.put, lt, ly, lu]
      refine wpAnyH_take (i := 23) (v := ?vq198) (oi := ?oq198) ?eq198 ?aq198 ?bq198 ?cq198 ?dq198 ?yq198 ?sq198 ?rq198
      case eq198 => simp only [lg, lz, ls]; rfl
      case aq198 | bq198 | cq198 => kernel_rfl
      case dq198 => exact fun _ _ _ h => h
      case yq198 => refine Or.inl ⟨by rfl, ?_⟩; intro w hSw; (try dsimp only at hSw); go_simp; try with_reducible rfl
      case sq198 => assumption
      try simp only [Act.put, lt, ly, lu]
      refine wpAnyH_take (i := 24) (v := ?vq199) (oi := ?oq199) ?eq199 ?aq199 ?bq199 ?cq199 ?dq199 ?yq199 ?sq199 ?rq199
      case eq199 => simp only [lg, lz, ls]; rfl
      case aq199 | bq199 | cq199 => kernel_rfl
      case dq199 => exact fun _ _ _ h => h
      case yq199 => refine Or.inl ⟨by rfl, ?_⟩; intro w hSw; (try dsimp only at hSw); go_simp; try with_reducible rfl
      case sq199 => assumption
      try simp only [Act.put, lt, ly, lu]
      refine wpAnyH_take (i := 25) (v := ?vq200) (oi := ?oq200) ?eq200 ?aq200 ?bq200 ?cq200 ?dq200 ?yq200 ?sq200 ?rq200
      case eq200 => simp only [lg, lz, ls]; rfl
      case aq200 | bq200 | cq200 => kernel_rfl
      case dq200 => exact fun _ _ _ h => h
      case yq200 => refine Or.inl ⟨by rfl, ?_⟩; intro w hSw; (try dsimp only at hSw); go_simp; try with_reducible rfl
      case sq200 => assumption
      try simp only [Act.put, lt, ly, lu]
      refine wpAnyH_take (i := 26) (v := ?vq201) (oi := ?oq201) ?eq201 ?aq201 ?bq201 ?cq201 ?dq201 ?yq201 ?sq201 ?rq201
      case eq201 => simp only [lg, lz, ls]; rfl
      case aq201 | bq201 | cq201 => kernel_rfl
      case dq201 => exact fun _ _ _ h => h
      case yq201 => refine Or.inl ⟨by rfl, ?_⟩; intro w hSw; (try dsimp only at hSw); go_simp; try with_reducible rfl
      case sq201 => assumption
      try simp only [Act.put, lt, ly, lu]
      refine wpAnyH_take (i := 27) (v := ?vq202) (oi := ?oq202) ?eq202 ?aq202 ?bq202 ?cq202 ?dq202 ?yq202 ?sq202 ?rq202
      case eq202 => simp only [lg, lz, ls]; rfl
      case aq202 | bq202 | cq202 => kernel_rfl
      case dq202 => exact fun _ _ _ h => h
      case yq202 => refine Or.inl ⟨by rfl, ?_⟩; intro w hSw; (try dsimp only at hSw); go_simp; try with_reducible rfl
      case sq202 => assumption
      try simp only [Act.put, lt, ly, lu]
      refine wpAnyH_ready (rs := [28]) (by kernel_rfl) (by simp) (AllReadyH.cons (o := ?oq203) ?eq203 ?kq203 AllReadyH.nil)
      case eq203 => simp only [lg, lz, ls]; rfl
      intro K hK; go_simp; go_at_call 32
      refine (has_val n1.out (hRcx28.out.keep b29.out) (hRx28.out.keep b29.out) z_e.out z_f.out z_x.out).mono ?_
      rintro e w30 ⟨rfl, b30⟩
      replace b30 := hid b30; have hk30 := hcall H0 HSZ14 b30.out; have hk30' := hk30; unfold Held0 at hk30'; clear hHeld H0
      refine hK.out _ _ ?_ (fun hHeld => ?_)
      · (try dsimp only); with_reducible exact hk30'
      clear hK K hk30'; try simp only [Act.put, lt, ly, lu]
      refine wpAnyH_take (i := 29) (v := ?vq204) (oi := ?oq204) ?eq204 ?aq204 ?bq204 ?cq204 ?dq204 ?yq204 ?sq204 ?rq204
      case eq204 => simp only [lg, lz, ls]; rfl
      case aq204 | bq204 | cq204 => kernel_rfl
      case dq204 => exact fun _ _ _ h => h
      case yq204 => refine Or.inl ⟨by rfl, ?_⟩; intro w hSw; (try dsimp only at hSw); go_simp; try with_reducible rfl
      case sq204 => assumption
      try simp only [Act.put, lt, ly, lu]
      refine wpAnyH_take (i := 30) (v := ?vq205) (oi := ?oq205) ?eq205 ?aq205 ?bq205 ?cq205 ?dq205 ?yq205 ?sq205 ?rq205
      case eq205 => simp only [lg, lz, ls]; rfl
      case aq205 | bq205 | cq205 => kernel_rfl
      case dq205 => exact fun _ _ _ h => h
      case yq205 => refine Or.inl ⟨by rfl, ?_⟩; intro w hSw; (try dsimp only at hSw); go_simp; try with_reducible rfl
      case sq205 => assumption
      try simp only [Act.put, lt, ly, lu]
      refine wpAnyH_take (i := 31) (v := ?vq206) (oi := ?oq206) ?eq206 ?aq206 ?bq206 ?cq206 ?dq206 ?yq206 ?sq206 ?rq206
      case eq206 => simp only [lg, lz, ls]; rfl
      case aq206 | bq206 | cq206 => kernel_rfl
      case dq206 => exact fun _ _ _ h => h
      case yq206 => refine Or.inl ⟨by rfl, ?_⟩; intro w hSw; (try dsimp only at hSw); go_simp; try with_reducible rfl
      case sq206 => assumption
      try simp only [Act.put, lt, ly, lu]
      refine wpAnyH_take (i := 32) (v := ?vq207) (oi := ?oq207) ?eq207 ?aq207 ?bq207 ?cq207 ?dq207 ?yq207 ?sq207 ?rq207
      case eq207 => simp only [lg, lz, ls]; rfl
      case aq207 | bq207 | cq207 => kernel_rfl
      case dq207 => exact fun _ _ _ h => h
      case yq207 => refine Or.inl ⟨by rfl, ?_⟩; intro w hSw; (try dsimp only at hSw); go_simp; try with_reducible rfl
      case sq207 => assumption
      try simp only [Act.put, lt, ly, lu]
      refine wpAnyH_take (i := 33) (v := ?vq208) (oi := ?oq208) ?eq208 ?aq208 ?bq208 ?cq208 ?dq208 ?yq208 ?sq208 ?rq208
      case eq208 => simp only [lg, lz, ls]; rfl
      case aq208 | bq208 | cq208 => kernel_rfl
      case dq208 => exact fun _ _ _ h => h
      case yq208 => refine Or.inl ⟨by rfl, ?_⟩; intro w hSw; (try dsimp only at hSw); go_simp; try with_reducible rfl
      case sq208 => assumption
      try simp only [Act.put, lt, ly, lu]
      refine wpAnyH_ready (rs := [34]) (by kernel_rfl) (by simp) (AllReadyH.cons (o := ?oq209) ?eq209 ?kq209 AllReadyH.nil)
      case eq209 => simp only [lg, lz, ls]; rfl
      intro K hK; go_simp; go_at_call 30
      refine (at_val e_y.out (hRcx28.out.keep (Below.step b29.out b30.out)) hn z_e.out z_f.out).mono ?_
      rintro e w31 ⟨v31, rfl, hv31, b31⟩
      obtain ⟨C51, j51, C52, j52, rfl, -, -⟩ := id hv31.opened; replace hv31 := hid hv31
      replace b31 := hid b31; have hk31 := hcall hk30 HSZ14 b31.out; have hk31' := hk31; unfold Held0 at hk31'; clear hHeld hk30
      refine hK.out _ _ ?_ (fun hHeld => ?_)
      · (try dsimp only); with_reducible exact hk31'
      clear hK K hk31'; try simp only [Act.put, lt, ly, lu]
      refine wpAnyH_ready (rs := [35]) (by kernel_rfl) (by simp) (AllReadyH.cons (o := ?oq210) ?eq210 ?kq210 AllReadyH.nil)
      case eq210 => simp only [lg, lz, ls]; rfl
      intro K hK; go_simp; go_at_call 32
      refine (has_val n2.out (hRs28.out.keep (Below.step (Below.step b29.out b30.out) b31.out)) hv31.out z_a.out z_b.out z_y.out).mono ?_
      rintro e w32 ⟨rfl, b32⟩
      replace b32 := hid b32; have hk32 := hcall hk31 HSZ14 b32.out; have hk32' := hk32; unfold Held0 at hk32'; clear hHeld hk31
      refine hK.out _ _ ?_ (fun hHeld => ?_)
      · (try dsimp only); with_reducible exact hk32'
      clear hK K hk32'; try simp only [Act.put, lt, ly, lu]
      refine wpAnyH_take (i := 36) (v := ?vq211) (oi := ?oq211) ?eq211 ?aq211 ?bq211 ?cq211 ?dq211 ?yq211 ?sq211 ?rq211
      case eq211 => simp only [lg, lz, ls]; rfl
      case aq211 | bq211 | cq211 => kernel_rfl
      case dq211 => exact fun _ _ _ h => h
      case yq211 => refine Or.inl ⟨by rfl, ?_⟩; intro w hSw; (try dsimp only at hSw); go_simp; try with_reducible rfl
      case sq211 => assumption
      try simp only [Act.put, lt, ly, lu]
      refine wpAnyH_take (i := 37) (v := ?vq212) (oi := ?oq212) ?eq212 ?aq212 ?bq212 ?cq212 ?dq212 ?yq212 ?sq212 ?rq212
      case eq212 => simp only [lg, lz, ls]; rfl
      case aq212 | bq212 | cq212 => kernel_rfl
      case dq212 => exact fun _ _ _ h => h
      case yq212 => refine Or.inl ⟨by rfl, ?_⟩; intro w hSw; (try dsimp only at hSw); go_simp; try with_reducible rfl
      case sq212 => assumption
      try simp only [Act.put, lt, ly, lu]
      refine wpAnyH_take (i := 38) (v := ?vq213) (oi := ?oq213) ?eq213 ?aq213 ?bq213 ?cq213 ?dq213 ?yq213 ?sq213 ?rq213
      case eq213 => simp only [lg, lz, ls]; rfl
      case aq213 | bq213 | cq213 => kernel_rfl
      case dq213 => exact fun _ _ _ h => h
      case yq213 => refine Or.inl ⟨by rfl, ?_⟩; intro w hSw; (try dsimp only at hSw); go_simp; try with_reducible rfl
      case sq213 => assumption
      try simp only [Act.put, lt, ly, lu]
      have HKz := hid hk32
      rw [hF14.out]
      exact rest14.out _ _ _ _ _ _ _ _ _ _ _ _ _ _ _ _ _ _ _ _ _ _ _ _ _ _ _ _ _ _ _ _ _ _ _ _ _ _ _ _ (by kernel_rfl) HKz
   simp only [← hA12.out, Act.put, lt, ly, lu] at rest12
   replace rest12 := hid rest12
   have HA := hA12.out
   subst HA
   clear hG12
   rcases Decidable.em (A ≤ 0 ∧ 0 ≤ B) with hD | hD
   · replace hD := hid hD
     have hg : w23.heap[n4]? = some (.cells #[.bool (decide (c.num < 0)), .slice B4x0 (len c.num.natAbs) b4x0, .slice B4x1 (len (below c.den)) b4x1, .bool (decide (d.num < 0)), .slice B4x2 (len d.num.natAbs) b4x2, .slice B4x3 (len (below d.den)) b4x3] 53 (0, 0)) := ((Below.refl _ w23).block _ (Array.getElem?_eq_some_iff.1 LRt23.out).1).trans LRt23.out
     obtain ⟨z_t_0, z_t_1, z_t_2, z_t_3, z_t_4, z_t_5⟩ := cells6 hg
     clear hg
     have hg : w23.heap[w4.heap.size]? = some (.cells #[.bool (decide (A.num < 0)), .slice C1 (len A.num.natAbs) j1, .slice C2 (len (below A.den)) j2, .bool (decide (B.num < 0)), .slice C3 (len B.num.natAbs) j3, .slice C4 (len (below B.den)) j4] 53 (0, 0)) := ((Below.refl _ w23).block _ (Array.getElem?_eq_some_iff.1 LRbig23.out).1).trans LRbig23.out
     obtain ⟨z_big_0, z_big_1, z_big_2, z_big_3, z_big_4, z_big_5⟩ := cells6 hg
     clear hg
     have HX := hid (bdiv_no e_z0.out hD.out hRt23.out hRbig23.out z_c.out z_d.out z_A.out z_B.out)
     go_wp2_with fail
     refine (HX.out).mono ?_
     rintro e w24 ⟨v24, rfl, hv24, b24⟩
     obtain ⟨C45, j45, C46, j46, C47, j47, C48, j48, rfl, hp24, hq24⟩ := id hv24.opened
     replace hv24 := hid hv24
     clear hp24 hq24
     replace b24 := hid b24
     clear HX
     clear z_t_0 z_t_1 z_t_2 z_t_3 z_t_4 z_t_5 z_big_0 z_big_1 z_big_2 z_big_3 z_big_4 z_big_5
     go_upto_region 8 with fail
     obtain ⟨w25, hw25⟩ : ∃ u, u = w24.alloc (.cells #[.bool (decide (z0.num < 0)), .slice C45 (len z0.num.natAbs) j45, .slice C46 (len (below z0.den)) j46, .bool (decide (z0.num < 0)), .slice C47 (len z0.num.natAbs) j47, .slice C48 (len (below z0.den)) j48] 53) := ⟨_, rfl⟩
     have b25 : Hid (Below w24.heap.size w24 w25) := by rw [hw25]; exact (Below.refl _ _).alloc (Nat.le_refl _) _
     have L25 : Hid (w25.heap[w24.heap.size]? = some (.cells #[.bool (decide (z0.num < 0)), .slice C45 (len z0.num.natAbs) j45, .slice C46 (len (below z0.den)) j46, .bool (decide (z0.num < 0)), .slice C47 (len z0.num.natAbs) j47, .slice C48 (len (below z0.den)) j48] 53 (0, 0))) := by rw [hw25]; exact heap_alloc_new w24 _
     rw [← hw25]
     clear hw25
     go_wp2_with fail
     have HBz := hid (Below.step b24.out b25.out)
     exact rest12.out _ _ _ _ _ _ _ _ _ _ _ _ _ _ _ _ _ _ _ _ _ _ _ _ _ _ _ HBz
   · skip
     have hD2 : ¬ (a ≤ 0 ∧ 0 ≤ b) := fun h => hD ⟨Rat.le_trans jh1.out h.1, Rat.le_trans h.2 jh2.out⟩
     have hi := quot_inside hD hab.out hcd.out jh1.out jh2.out
     rw [e_q1.out, e_q2.out, e_r1.out, e_r2.out] at hi
     have i8 : Hid (decide (q1 ≤ r1 ∧ r2 ≤ q2) = true) := decide_eq_true hi
     clear hi
     replace hD := hid hD
     replace hD2 := hid hD2
     have hg : w23.heap[n4]? = some (.cells #[.bool (decide (c.num < 0)), .slice B4x0 (len c.num.natAbs) b4x0, .slice B4x1 (len (below c.den)) b4x1, .bool (decide (d.num < 0)), .slice B4x2 (len d.num.natAbs) b4x2, .slice B4x3 (len (below d.den)) b4x3] 53 (0, 0)) := ((Below.refl _ w23).block _ (Array.getElem?_eq_some_iff.1 LRt23.out).1).trans LRt23.out
     obtain ⟨z_t_0, z_t_1, z_t_2, z_t_3, z_t_4, z_t_5⟩ := cells6 hg
     clear hg
     have hg : w23.heap[w4.heap.size]? = some (.cells #[.bool (decide (A.num < 0)), .slice C1 (len A.num.natAbs) j1, .slice C2 (len (below A.den)) j2, .bool (decide (B.num < 0)), .slice C3 (len B.num.natAbs) j3, .slice C4 (len (below B.den)) j4] 53 (0, 0)) := ((Below.refl _ w23).block _ (Array.getElem?_eq_some_iff.1 LRbig23.out).1).trans LRbig23.out
     obtain ⟨z_big_0, z_big_1, z_big_2, z_big_3, z_big_4, z_big_5⟩ := cells6 hg
     clear hg
     have HX := hid (bdiv_val e_q1.out e_q2.out hD.out hRt23.out hRbig23.out z_c.out z_d.out z_A.out z_B.out)
     go_wp2_with fail
     refine (HX.out).mono ?_
     rintro e w24 ⟨v24, rfl, hv24, b24⟩
     obtain ⟨C45, j45, C46, j46, C47, j47, C48, j48, rfl, hp24, hq24⟩ := id hv24.opened
     replace hv24 := hid hv24
     clear hp24 hq24
     replace b24 := hid b24
     clear HX
     clear z_t_0 z_t_1 z_t_2 z_t_3 z_t_4 z_t_5 z_big_0 z_big_1 z_big_2 z_big_3 z_big_4 z_big_5
     go_upto_region 8 with fail
     obtain ⟨w25, hw25⟩ : ∃ u, u = w24.alloc (.cells #[.bool (decide (q1.num < 0)), .slice C45 (len q1.num.natAbs) j45, .slice C46 (len (below q1.den)) j46, .bool (decide (q2.num < 0)), .slice C47 (len q2.num.natAbs) j47, .slice C48 (len (below q2.den)) j48] 53) := ⟨_, rfl⟩
     have b25 : Hid (Below w24.heap.size w24 w25) := by rw [hw25]; exact (Below.refl _ _).alloc (Nat.le_refl _) _
     have L25 : Hid (w25.heap[w24.heap.size]? = some (.cells #[.bool (decide (q1.num < 0)), .slice C45 (len q1.num.natAbs) j45, .slice C46 (len (below q1.den)) j46, .bool (decide (q2.num < 0)), .slice C47 (len q2.num.natAbs) j47, .slice C48 (len (below q2.den)) j48] 53 (0, 0))) := by rw [hw25]; exact heap_alloc_new w24 _
     rw [← hw25]
     clear hw25
     have hg : w25.heap[n4]? = some (.cells #[.bool (decide (c.num < 0)), .slice B4x0 (len c.num.natAbs) b4x0, .slice B4x1 (len (below c.den)) b4x1, .bool (decide (d.num < 0)), .slice B4x2 (len d.num.natAbs) b4x2, .slice B4x3 (len (below d.den)) b4x3] 53 (0, 0)) := ((Below.step b24.out b25.out).block _ (Array.getElem?_eq_some_iff.1 LRt23.out).1).trans LRt23.out
     obtain ⟨z_t_0, z_t_1, z_t_2, z_t_3, z_t_4, z_t_5⟩ := cells6 hg
     clear hg
     have hg : w25.heap[n3]? = some (.cells #[.bool (decide (a.num < 0)), .slice B3x0 (len a.num.natAbs) b3x0, .slice B3x1 (len (below a.den)) b3x1, .bool (decide (b.num < 0)), .slice B3x2 (len b.num.natAbs) b3x2, .slice B3x3 (len (below b.den)) b3x3] 53 (0, 0)) := ((Below.step b24.out b25.out).block _ (Array.getElem?_eq_some_iff.1 LRs23.out).1).trans LRs23.out
     obtain ⟨z_s_0, z_s_1, z_s_2, z_s_3, z_s_4, z_s_5⟩ := cells6 hg
     clear hg
     have HX := hid (bdiv_val e_r1.out e_r2.out hD2.out (hRt23.out.keep (Below.step b24.out b25.out)) (hRs23.out.keep (Below.step b24.out b25.out)) z_c.out z_d.out z_a.out z_b.out)
     go_wp2_with fail
     refine (HX.out).mono ?_
     rintro e w26 ⟨v26, rfl, hv26, b26⟩
     obtain ⟨C49, j49, C50, j50, C51, j51, C52, j52, rfl, hp26, hq26⟩ := id hv26.opened
     replace hv26 := hid hv26
     clear hp26 hq26
     replace b26 := hid b26
     clear HX
     clear z_t_0 z_t_1 z_t_2 z_t_3 z_t_4 z_t_5 z_s_0 z_s_1 z_s_2 z_s_3 z_s_4 z_s_5
     go_upto_region 10 with fail
     obtain ⟨w27, hw27⟩ : ∃ u, u = w26.alloc (.cells #[.bool (decide (r1.num < 0)), .slice C49 (len r1.num.natAbs) j49, .slice C50 (len (below r1.den)) j50, .bool (decide (r2.num < 0)), .slice C51 (len r2.num.natAbs) j51, .slice C52 (len (below r2.den)) j52] 53) := ⟨_, rfl⟩
     have b27 : Hid (Below w26.heap.size w26 w27) := by rw [hw27]; exact (Below.refl _ _).alloc (Nat.le_refl _) _
     have L27 : Hid (w27.heap[w26.heap.size]? = some (.cells #[.bool (decide (r1.num < 0)), .slice C49 (len r1.num.natAbs) j49, .slice C50 (len (below r1.den)) j50, .bool (decide (r2.num < 0)), .slice C51 (len r2.num.natAbs) j51, .slice C52 (len (below r2.den)) j52] 53 (0, 0))) := by rw [hw27]; exact heap_alloc_new w26 _
     rw [← hw27]
     clear hw27
     have hg : w27.heap[w26.heap.size]? = some (.cells #[.bool (decide (r1.num < 0)), .slice C49 (len r1.num.natAbs) j49, .slice C50 (len (below r1.den)) j50, .bool (decide (r2.num < 0)), .slice C51 (len r2.num.natAbs) j51, .slice C52 (len (below r2.den)) j52] 53 (0, 0)) := ((Below.refl _ w27).block _ (Array.getElem?_eq_some_iff.1 L27.out).1).trans L27.out
     obtain ⟨z_rd_0, z_rd_1, z_rd_2, z_rd_3, z_rd_4, z_rd_5⟩ := cells6 hg
     clear hg
     have hg : w27.heap[w24.heap.size]? = some (.cells #[.bool (decide (q1.num < 0)), .slice C45 (len q1.num.natAbs) j45, .slice C46 (len (below q1.den)) j46, .bool (decide (q2.num < 0)), .slice C47 (len q2.num.natAbs) j47, .slice C48 (len (below q2.den)) j48] 53 (0, 0)) := ((Below.step b26.out b27.out).block _ (Array.getElem?_eq_some_iff.1 L25.out).1).trans L25.out
     obtain ⟨z_qd_0, z_qd_1, z_qd_2, z_qd_3, z_qd_4, z_qd_5⟩ := cells6 hg
     clear hg
     have HX := hid (inside_val i8.out (hv26.out.keep b27.out) (hv24.out.keep (Below.step (Below.step b25.out b26.out) b27.out)) z_r1.out z_r2.out z_q1.out z_q2.out)
     go_wp2_with fail
     refine (HX.out).mono ?_
     rintro e w28 ⟨rfl, b28⟩
     replace b28 := hid b28
     clear HX
     clear z_rd_0 z_rd_1 z_rd_2 z_rd_3 z_rd_4 z_rd_5 z_qd_0 z_qd_1 z_qd_2 z_qd_3 z_qd_4 z_qd_5
     go_wp2_with fail
     have HBz := hid (Below.step (Below.step (Below.step (Below.step b24.out b25.out) b26.out) b27.out) b28.out)
     exact rest12.out _ _ _ _ _ _ _ _ _ _ _ _ _ _ _ _ _ _ _ _ _ _ _ _ _ _ _ HBz
  try simp only [← hA3.out, Act.put, lt, ly, lu] at st3_3_345
  replace st3_3_345 := hid st3_3_345
  have st3_3_34 : ∀ (L : Array Bool) (u : World) (v19 v22 v25 : Value) (n3 n4 : Nat), L = #[true, true, true, true, true, true, true, true, true, true, true, false, false, false, false] → Hid (Held0 w2 NN3 w2 u) → Hid (IsBox u v19 a b) → Hid (IsBox u v22 c d) → Hid (IsBox u v25 e f) → Hid (Zero6 u n3) → NN3 ≤ n3 → Hid (Zero6 u n4) → NN3 ≤ n4 → n3 ≠ n4 → F3 4 L (Act.put (Act.put (Act.put (Act.put (Act.put A3 (some 3) (.pointer (some ⟨n3, 0, none⟩))) (some 4) (.pointer (some ⟨n4, 0, none⟩))) (some 19) v19) (some 22) v22) (some 25) v25) u := by
   intro L u v19 v22 v25 n3 n4 hLL HK I19 I22 I25 Z3 g3 Z4 g4 ne3_4
   subst hLL
   rw [← hF3.out, ← hA3.out]
   try simp only [Act.put, lt, ly, lu]
   refine wpAnyH_ready (rs := [11]) (by kernel_rfl) (by simp) (AllReadyH.cons (o := ?o11q214) ?e11q214 ?k11q214 AllReadyH.nil)
   case e11q214 => simp only [lg, lz, ls] <;> rfl
   case k11q214 =>
    intro K hK
    go_simp
    have hb2 := zero6_below u
    have Z2 := zero6_at u
    have hsz := hgrow HK.out HSZ3
    have HK2 := hcall HK.out HSZ3 hb2
    refine hK.out _ _ ?_ (fun hHeld => ?_)
    · (try dsimp only); exact HK2.1
    clear hK K; try simp only [Act.put, lt, ly, lu]
    rw [hF3.out]
    exact st3_3_345.out _ _ v19 v22 v25 n3 n4 u.heap.size (by kernel_rfl) HK2 (I19.out.keep hb2) (I22.out.keep hb2) (I25.out.keep hb2) (at_keep Z3.out hb2) g3 (at_keep Z4.out hb2) g4 Z2 hsz ne3_4 (Nat.ne_of_lt (at_lt Z3.out)) (Nat.ne_of_lt (at_lt Z4.out))
  try simp only [← hA3.out, Act.put, lt, ly, lu] at st3_3_34
  replace st3_3_34 := hid st3_3_34
  have st3_3_35 : ∀ (L : Array Bool) (u : World) (v19 v22 v25 : Value) (n3 n5 : Nat), L = #[true, true, true, true, true, true, true, true, true, true, false, true, false, false, false] → Hid (Held0 w2 NN3 w2 u) → Hid (IsBox u v19 a b) → Hid (IsBox u v22 c d) → Hid (IsBox u v25 e f) → Hid (Zero6 u n3) → NN3 ≤ n3 → Hid (Zero6 u n5) → NN3 ≤ n5 → n3 ≠ n5 → F3 4 L (Act.put (Act.put (Act.put (Act.put (Act.put A3 (some 3) (.pointer (some ⟨n3, 0, none⟩))) (some 5) (.pointer (some ⟨n5, 0, none⟩))) (some 19) v19) (some 22) v22) (some 25) v25) u := by
   intro L u v19 v22 v25 n3 n5 hLL HK I19 I22 I25 Z3 g3 Z5 g5 ne3_5
   subst hLL
   rw [← hF3.out, ← hA3.out]
   try simp only [Act.put, lt, ly, lu]
   refine wpAnyH_ready (rs := [10]) (by kernel_rfl) (by simp) (AllReadyH.cons (o := ?o10q215) ?e10q215 ?k10q215 AllReadyH.nil)
   case e10q215 => simp only [lg, lz, ls] <;> rfl
   case k10q215 =>
    intro K hK
    go_simp
    have hb2 := zero6_below u
    have Z2 := zero6_at u
    have hsz := hgrow HK.out HSZ3
    have HK2 := hcall HK.out HSZ3 hb2
    refine hK.out _ _ ?_ (fun hHeld => ?_)
    · (try dsimp only); exact HK2.1
    clear hK K; try simp only [Act.put, lt, ly, lu]
    rw [hF3.out]
    exact st3_3_345.out _ _ v19 v22 v25 n3 u.heap.size n5 (by kernel_rfl) HK2 (I19.out.keep hb2) (I22.out.keep hb2) (I25.out.keep hb2) (at_keep Z3.out hb2) g3 Z2 hsz (at_keep Z5.out hb2) g5 (Nat.ne_of_lt (at_lt Z3.out)) ne3_5 (Nat.ne_of_gt (at_lt Z5.out))
  try simp only [← hA3.out, Act.put, lt, ly, lu] at st3_3_35
  replace st3_3_35 := hid st3_3_35
  have st3_3_45 : ∀ (L : Array Bool) (u : World) (v19 v22 v25 : Value) (n4 n5 : Nat), L = #[true, true, true, true, true, true, true, true, true, false, true, true, false, false, false] → Hid (Held0 w2 NN3 w2 u) → Hid (IsBox u v19 a b) → Hid (IsBox u v22 c d) → Hid (IsBox u v25 e f) → Hid (Zero6 u n4) → NN3 ≤ n4 → Hid (Zero6 u n5) → NN3 ≤ n5 → n4 ≠ n5 → F3 4 L (Act.put (Act.put (Act.put (Act.put (Act.put A3 (some 4) (.pointer (some ⟨n4, 0, none⟩))) (some 5) (.pointer (some ⟨n5, 0, none⟩))) (some 19) v19) (some 22) v22) (some 25) v25) u := by
   intro L u v19 v22 v25 n4 n5 hLL HK I19 I22 I25 Z4 g4 Z5 g5 ne4_5
   subst hLL
   rw [← hF3.out, ← hA3.out]
   try simp only [Act.put, lt, ly, lu]
   refine wpAnyH_ready (rs := [9]) (by kernel_rfl) (by simp) (AllReadyH.cons (o := ?o9q216) ?e9q216 ?k9q216 AllReadyH.nil)
   case e9q216 => simp only [lg, lz, ls] <;> rfl
   case k9q216 =>
    intro K hK
    go_simp
    have hb2 := zero6_below u
    have Z2 := zero6_at u
    have hsz := hgrow HK.out HSZ3
    have HK2 := hcall HK.out HSZ3 hb2
    refine hK.out _ _ ?_ (fun hHeld => ?_)
    · (try dsimp only); exact HK2.1
    clear hK K; try simp only [Act.put, lt, ly, lu]
    rw [hF3.out]
    exact st3_3_345.out _ _ v19 v22 v25 u.heap.size n4 n5 (by kernel_rfl) HK2 (I19.out.keep hb2) (I22.out.keep hb2) (I25.out.keep hb2) Z2 hsz (at_keep Z4.out hb2) g4 (at_keep Z5.out hb2) g5 (Nat.ne_of_gt (at_lt Z4.out)) (Nat.ne_of_gt (at_lt Z5.out)) ne4_5
  try simp only [← hA3.out, Act.put, lt, ly, lu] at st3_3_45
  replace st3_3_45 := hid st3_3_45
  have st3_3_3 : ∀ (L : Array Bool) (u : World) (v19 v22 v25 : Value) (n3 : Nat), L = #[true, true, true, true, true, true, true, true, true, true, false, false, false, false, false] → Hid (Held0 w2 NN3 w2 u) → Hid (IsBox u v19 a b) → Hid (IsBox u v22 c d) → Hid (IsBox u v25 e f) → Hid (Zero6 u n3) → NN3 ≤ n3 → F3 5 L (Act.put (Act.put (Act.put (Act.put A3 (some 3) (.pointer (some ⟨n3, 0, none⟩))) (some 19) v19) (some 22) v22) (some 25) v25) u := by
   intro L u v19 v22 v25 n3 hLL HK I19 I22 I25 Z3 g3
   subst hLL
   rw [← hF3.out, ← hA3.out]
   try simp only [Act.put, lt, ly, lu]
   refine wpAnyH_ready (rs := [10, 11]) (by kernel_rfl) (by simp) (AllReadyH.cons (o := ?o10q217) ?e10q217 ?k10q217 (AllReadyH.cons (o := ?o11q217) ?e11q217 ?k11q217 AllReadyH.nil))
   case e10q217 => simp only [lg, lz, ls] <;> rfl
   case e11q217 => simp only [lg, lz, ls] <;> rfl
   case k10q217 =>
    intro K hK
    go_simp
    have hb2 := zero6_below u
    have Z2 := zero6_at u
    have hsz := hgrow HK.out HSZ3
    have HK2 := hcall HK.out HSZ3 hb2
    refine hK.out _ _ ?_ (fun hHeld => ?_)
    · (try dsimp only); exact HK2.1
    clear hK K; try simp only [Act.put, lt, ly, lu]
    rw [hF3.out]
    exact st3_3_34.out _ _ v19 v22 v25 n3 u.heap.size (by kernel_rfl) HK2 (I19.out.keep hb2) (I22.out.keep hb2) (I25.out.keep hb2) (at_keep Z3.out hb2) g3 Z2 hsz (Nat.ne_of_lt (at_lt Z3.out))
   case k11q217 =>
    intro K hK
    go_simp
    have hb2 := zero6_below u
    have Z2 := zero6_at u
    have hsz := hgrow HK.out HSZ3
    have HK2 := hcall HK.out HSZ3 hb2
    refine hK.out _ _ ?_ (fun hHeld => ?_)
    · (try dsimp only); exact HK2.1
    clear hK K; try simp only [Act.put, lt, ly, lu]
    rw [hF3.out]
    exact st3_3_35.out _ _ v19 v22 v25 n3 u.heap.size (by kernel_rfl) HK2 (I19.out.keep hb2) (I22.out.keep hb2) (I25.out.keep hb2) (at_keep Z3.out hb2) g3 Z2 hsz (Nat.ne_of_lt (at_lt Z3.out))
  try simp only [← hA3.out, Act.put, lt, ly, lu] at st3_3_3
  replace st3_3_3 := hid st3_3_3
  have st3_3_4 : ∀ (L : Array Bool) (u : World) (v19 v22 v25 : Value) (n4 : Nat), L = #[true, true, true, true, true, true, true, true, true, false, true, false, false, false, false] → Hid (Held0 w2 NN3 w2 u) → Hid (IsBox u v19 a b) → Hid (IsBox u v22 c d) → Hid (IsBox u v25 e f) → Hid (Zero6 u n4) → NN3 ≤ n4 → F3 5 L (Act.put (Act.put (Act.put (Act.put A3 (some 4) (.pointer (some ⟨n4, 0, none⟩))) (some 19) v19) (some 22) v22) (some 25) v25) u := by
   intro L u v19 v22 v25 n4 hLL HK I19 I22 I25 Z4 g4
   subst hLL
   rw [← hF3.out, ← hA3.out]
   try simp only [Act.put, lt, ly, lu]
   refine wpAnyH_ready (rs := [9, 11]) (by kernel_rfl) (by simp) (AllReadyH.cons (o := ?o9q218) ?e9q218 ?k9q218 (AllReadyH.cons (o := ?o11q218) ?e11q218 ?k11q218 AllReadyH.nil))
   case e9q218 => simp only [lg, lz, ls] <;> rfl
   case e11q218 => simp only [lg, lz, ls] <;> rfl
   case k9q218 =>
    intro K hK
    go_simp
    have hb2 := zero6_below u
    have Z2 := zero6_at u
    have hsz := hgrow HK.out HSZ3
    have HK2 := hcall HK.out HSZ3 hb2
    refine hK.out _ _ ?_ (fun hHeld => ?_)
    · (try dsimp only); exact HK2.1
    clear hK K; try simp only [Act.put, lt, ly, lu]
    rw [hF3.out]
    exact st3_3_34.out _ _ v19 v22 v25 u.heap.size n4 (by kernel_rfl) HK2 (I19.out.keep hb2) (I22.out.keep hb2) (I25.out.keep hb2) Z2 hsz (at_keep Z4.out hb2) g4 (Nat.ne_of_gt (at_lt Z4.out))
   case k11q218 =>
    intro K hK
    go_simp
    have hb2 := zero6_below u
    have Z2 := zero6_at u
    have hsz := hgrow HK.out HSZ3
    have HK2 := hcall HK.out HSZ3 hb2
    refine hK.out _ _ ?_ (fun hHeld => ?_)
    · (try dsimp only); exact HK2.1
    clear hK K; try simp only [Act.put, lt, ly, lu]
    rw [hF3.out]
    exact st3_3_45.out _ _ v19 v22 v25 n4 u.heap.size (by kernel_rfl) HK2 (I19.out.keep hb2) (I22.out.keep hb2) (I25.out.keep hb2) (at_keep Z4.out hb2) g4 Z2 hsz (Nat.ne_of_lt (at_lt Z4.out))
  try simp only [← hA3.out, Act.put, lt, ly, lu] at st3_3_4
  replace st3_3_4 := hid st3_3_4
  have st3_3_5 : ∀ (L : Array Bool) (u : World) (v19 v22 v25 : Value) (n5 : Nat), L = #[true, true, true, true, true, true, true, true, true, false, false, true, false, false, false] → Hid (Held0 w2 NN3 w2 u) → Hid (IsBox u v19 a b) → Hid (IsBox u v22 c d) → Hid (IsBox u v25 e f) → Hid (Zero6 u n5) → NN3 ≤ n5 → F3 5 L (Act.put (Act.put (Act.put (Act.put A3 (some 5) (.pointer (some ⟨n5, 0, none⟩))) (some 19) v19) (some 22) v22) (some 25) v25) u := by
   intro L u v19 v22 v25 n5 hLL HK I19 I22 I25 Z5 g5
   subst hLL
   rw [← hF3.out, ← hA3.out]
   try simp only [Act.put, lt, ly, lu]
   refine wpAnyH_ready (rs := [9, 10]) (by kernel_rfl) (by simp) (AllReadyH.cons (o := ?o9q219) ?e9q219 ?k9q219 (AllReadyH.cons (o := ?o10q219) ?e10q219 ?k10q219 AllReadyH.nil))
   case e9q219 => simp only [lg, lz, ls] <;> rfl
   case e10q219 => simp only [lg, lz, ls] <;> rfl
   case k9q219 =>
    intro K hK
    go_simp
    have hb2 := zero6_below u
    have Z2 := zero6_at u
    have hsz := hgrow HK.out HSZ3
    have HK2 := hcall HK.out HSZ3 hb2
    refine hK.out _ _ ?_ (fun hHeld => ?_)
    · (try dsimp only); exact HK2.1
    clear hK K; try simp only [Act.put, lt, ly, lu]
    rw [hF3.out]
    exact st3_3_35.out _ _ v19 v22 v25 u.heap.size n5 (by kernel_rfl) HK2 (I19.out.keep hb2) (I22.out.keep hb2) (I25.out.keep hb2) Z2 hsz (at_keep Z5.out hb2) g5 (Nat.ne_of_gt (at_lt Z5.out))
   case k10q219 =>
    intro K hK
    go_simp
    have hb2 := zero6_below u
    have Z2 := zero6_at u
    have hsz := hgrow HK.out HSZ3
    have HK2 := hcall HK.out HSZ3 hb2
    refine hK.out _ _ ?_ (fun hHeld => ?_)
    · (try dsimp only); exact HK2.1
    clear hK K; try simp only [Act.put, lt, ly, lu]
    rw [hF3.out]
    exact st3_3_45.out _ _ v19 v22 v25 u.heap.size n5 (by kernel_rfl) HK2 (I19.out.keep hb2) (I22.out.keep hb2) (I25.out.keep hb2) Z2 hsz (at_keep Z5.out hb2) g5 (Nat.ne_of_gt (at_lt Z5.out))
  try simp only [← hA3.out, Act.put, lt, ly, lu] at st3_3_5
  replace st3_3_5 := hid st3_3_5
  have st3_3_n : ∀ (L : Array Bool) (u : World) (v19 v22 v25 : Value), L = #[true, true, true, true, true, true, true, true, true, false, false, false, false, false, false] → Hid (Held0 w2 NN3 w2 u) → Hid (IsBox u v19 a b) → Hid (IsBox u v22 c d) → Hid (IsBox u v25 e f) → F3 6 L (Act.put (Act.put (Act.put A3 (some 19) v19) (some 22) v22) (some 25) v25) u := by
   intro L u v19 v22 v25 hLL HK I19 I22 I25
   subst hLL
   rw [← hF3.out, ← hA3.out]
   try simp only [Act.put, lt, ly, lu]
   refine wpAnyH_ready (rs := [9, 10, 11]) (by kernel_rfl) (by simp) (AllReadyH.cons (o := ?o9q220) ?e9q220 ?k9q220 (AllReadyH.cons (o := ?o10q220) ?e10q220 ?k10q220 (AllReadyH.cons (o := ?o11q220) ?e11q220 ?k11q220 AllReadyH.nil)))
   case e9q220 => simp only [lg, lz, ls] <;> rfl
   case e10q220 => simp only [lg, lz, ls] <;> rfl
   case e11q220 => simp only [lg, lz, ls] <;> rfl
   case k9q220 =>
    intro K hK
    go_simp
    have hb2 := zero6_below u
    have Z2 := zero6_at u
    have hsz := hgrow HK.out HSZ3
    have HK2 := hcall HK.out HSZ3 hb2
    refine hK.out _ _ ?_ (fun hHeld => ?_)
    · (try dsimp only); exact HK2.1
    clear hK K; try simp only [Act.put, lt, ly, lu]
    rw [hF3.out]
    exact st3_3_3.out _ _ v19 v22 v25 u.heap.size (by kernel_rfl) HK2 (I19.out.keep hb2) (I22.out.keep hb2) (I25.out.keep hb2) Z2 hsz
   case k10q220 =>
    intro K hK
    go_simp
    have hb2 := zero6_below u
    have Z2 := zero6_at u
    have hsz := hgrow HK.out HSZ3
    have HK2 := hcall HK.out HSZ3 hb2
    refine hK.out _ _ ?_ (fun hHeld => ?_)
    · (try dsimp only); exact HK2.1
    clear hK K; try simp only [Act.put, lt, ly, lu]
    rw [hF3.out]
    exact st3_3_4.out _ _ v19 v22 v25 u.heap.size (by kernel_rfl) HK2 (I19.out.keep hb2) (I22.out.keep hb2) (I25.out.keep hb2) Z2 hsz
   case k11q220 =>
    intro K hK
    go_simp
    have hb2 := zero6_below u
    have Z2 := zero6_at u
    have hsz := hgrow HK.out HSZ3
    have HK2 := hcall HK.out HSZ3 hb2
    refine hK.out _ _ ?_ (fun hHeld => ?_)
    · (try dsimp only); exact HK2.1
    clear hK K; try simp only [Act.put, lt, ly, lu]
    rw [hF3.out]
    exact st3_3_5.out _ _ v19 v22 v25 u.heap.size (by kernel_rfl) HK2 (I19.out.keep hb2) (I22.out.keep hb2) (I25.out.keep hb2) Z2 hsz
  try simp only [← hA3.out, Act.put, lt, ly, lu] at st3_3_n
  replace st3_3_n := hid st3_3_n
  have st3_2_345 : ∀ (L : Array Bool) (u : World) (v19 v22 : Value) (n3 n4 n5 : Nat), L = #[true, true, true, true, true, true, true, true, false, true, true, true, false, false, false] → Hid (Held0 w2 NN3 w2 u) → Hid (IsBox u v19 a b) → Hid (IsBox u v22 c d) → Hid (Zero6 u n3) → NN3 ≤ n3 → Hid (Zero6 u n4) → NN3 ≤ n4 → Hid (Zero6 u n5) → NN3 ≤ n5 → n3 ≠ n4 → n3 ≠ n5 → n4 ≠ n5 → F3 4 L (Act.put (Act.put (Act.put (Act.put (Act.put A3 (some 3) (.pointer (some ⟨n3, 0, none⟩))) (some 4) (.pointer (some ⟨n4, 0, none⟩))) (some 5) (.pointer (some ⟨n5, 0, none⟩))) (some 19) v19) (some 22) v22) u := by
   intro L u v19 v22 n3 n4 n5 hLL HK I19 I22 Z3 g3 Z4 g4 Z5 g5 ne3_4 ne3_5 ne4_5
   subst hLL
   rw [← hF3.out, ← hA3.out]
   try simp only [Act.put, lt, ly, lu]
   refine wpAnyH_ready (rs := [8]) (by kernel_rfl) (by simp) (AllReadyH.cons (o := ?o8q221) ?e8q221 ?k8q221 AllReadyH.nil)
   case e8q221 => simp only [lg, lz, ls] <;> rfl
   case k8q221 =>
    intro K hK
    go_simp
    go_at_call 29
    refine (box_to (cell_keep HMB2.out (below_eq HK.out.2.1 HSZ3.out)) ep5.out ep6.out l3.out h3.out).mono ?_
    rintro e u2 ⟨v2, rfl, hv2, hb2⟩
    have HK2 := hcall HK.out HSZ3 hb2
    refine hK.out _ _ ?_ (fun hHeld => ?_)
    · (try dsimp only); exact HK2.1
    clear hK K; try simp only [Act.put, lt, ly, lu]
    rw [hF3.out]
    exact st3_3_345.out _ _ v19 v22 v2 n3 n4 n5 (by kernel_rfl) HK2 (I19.out.keep hb2) (I22.out.keep hb2) hv2 (at_keep Z3.out hb2) g3 (at_keep Z4.out hb2) g4 (at_keep Z5.out hb2) g5 ne3_4 ne3_5 ne4_5
  try simp only [← hA3.out, Act.put, lt, ly, lu] at st3_2_345
  replace st3_2_345 := hid st3_2_345
  have st3_2_34 : ∀ (L : Array Bool) (u : World) (v19 v22 : Value) (n3 n4 : Nat), L = #[true, true, true, true, true, true, true, true, false, true, true, false, false, false, false] → Hid (Held0 w2 NN3 w2 u) → Hid (IsBox u v19 a b) → Hid (IsBox u v22 c d) → Hid (Zero6 u n3) → NN3 ≤ n3 → Hid (Zero6 u n4) → NN3 ≤ n4 → n3 ≠ n4 → F3 5 L (Act.put (Act.put (Act.put (Act.put A3 (some 3) (.pointer (some ⟨n3, 0, none⟩))) (some 4) (.pointer (some ⟨n4, 0, none⟩))) (some 19) v19) (some 22) v22) u := by
   intro L u v19 v22 n3 n4 hLL HK I19 I22 Z3 g3 Z4 g4 ne3_4
   subst hLL
   rw [← hF3.out, ← hA3.out]
   try simp only [Act.put, lt, ly, lu]
   refine wpAnyH_ready (rs := [8, 11]) (by kernel_rfl) (by simp) (AllReadyH.cons (o := ?o8q222) ?e8q222 ?k8q222 (AllReadyH.cons (o := ?o11q222) ?e11q222 ?k11q222 AllReadyH.nil))
   case e8q222 => simp only [lg, lz, ls] <;> rfl
   case e11q222 => simp only [lg, lz, ls] <;> rfl
   case k8q222 =>
    intro K hK
    go_simp
    go_at_call 29
    refine (box_to (cell_keep HMB2.out (below_eq HK.out.2.1 HSZ3.out)) ep5.out ep6.out l3.out h3.out).mono ?_
    rintro e u2 ⟨v2, rfl, hv2, hb2⟩
    have HK2 := hcall HK.out HSZ3 hb2
    refine hK.out _ _ ?_ (fun hHeld => ?_)
    · (try dsimp only); exact HK2.1
    clear hK K; try simp only [Act.put, lt, ly, lu]
    rw [hF3.out]
    exact st3_3_34.out _ _ v19 v22 v2 n3 n4 (by kernel_rfl) HK2 (I19.out.keep hb2) (I22.out.keep hb2) hv2 (at_keep Z3.out hb2) g3 (at_keep Z4.out hb2) g4 ne3_4
   case k11q222 =>
    intro K hK
    go_simp
    have hb2 := zero6_below u
    have Z2 := zero6_at u
    have hsz := hgrow HK.out HSZ3
    have HK2 := hcall HK.out HSZ3 hb2
    refine hK.out _ _ ?_ (fun hHeld => ?_)
    · (try dsimp only); exact HK2.1
    clear hK K; try simp only [Act.put, lt, ly, lu]
    rw [hF3.out]
    exact st3_2_345.out _ _ v19 v22 n3 n4 u.heap.size (by kernel_rfl) HK2 (I19.out.keep hb2) (I22.out.keep hb2) (at_keep Z3.out hb2) g3 (at_keep Z4.out hb2) g4 Z2 hsz ne3_4 (Nat.ne_of_lt (at_lt Z3.out)) (Nat.ne_of_lt (at_lt Z4.out))
  try simp only [← hA3.out, Act.put, lt, ly, lu] at st3_2_34
  replace st3_2_34 := hid st3_2_34
  have st3_2_35 : ∀ (L : Array Bool) (u : World) (v19 v22 : Value) (n3 n5 : Nat), L = #[true, true, true, true, true, true, true, true, false, true, false, true, false, false, false] → Hid (Held0 w2 NN3 w2 u) → Hid (IsBox u v19 a b) → Hid (IsBox u v22 c d) → Hid (Zero6 u n3) → NN3 ≤ n3 → Hid (Zero6 u n5) → NN3 ≤ n5 → n3 ≠ n5 → F3 5 L (Act.put (Act.put (Act.put (Act.put A3 (some 3) (.pointer (some ⟨n3, 0, none⟩))) (some 5) (.pointer (some ⟨n5, 0, none⟩))) (some 19) v19) (some 22) v22) u := by
   intro L u v19 v22 n3 n5 hLL HK I19 I22 Z3 g3 Z5 g5 ne3_5
   subst hLL
   rw [← hF3.out, ← hA3.out]
   try simp only [Act.put, lt, ly, lu]
   refine wpAnyH_ready (rs := [8, 10]) (by kernel_rfl) (by simp) (AllReadyH.cons (o := ?o8q223) ?e8q223 ?k8q223 (AllReadyH.cons (o := ?o10q223) ?e10q223 ?k10q223 AllReadyH.nil))
   case e8q223 => simp only [lg, lz, ls] <;> rfl
   case e10q223 => simp only [lg, lz, ls] <;> rfl
   case k8q223 =>
    intro K hK
    go_simp
    go_at_call 29
    refine (box_to (cell_keep HMB2.out (below_eq HK.out.2.1 HSZ3.out)) ep5.out ep6.out l3.out h3.out).mono ?_
    rintro e u2 ⟨v2, rfl, hv2, hb2⟩
    have HK2 := hcall HK.out HSZ3 hb2
    refine hK.out _ _ ?_ (fun hHeld => ?_)
    · (try dsimp only); exact HK2.1
    clear hK K; try simp only [Act.put, lt, ly, lu]
    rw [hF3.out]
    exact st3_3_35.out _ _ v19 v22 v2 n3 n5 (by kernel_rfl) HK2 (I19.out.keep hb2) (I22.out.keep hb2) hv2 (at_keep Z3.out hb2) g3 (at_keep Z5.out hb2) g5 ne3_5
   case k10q223 =>
    intro K hK
    go_simp
    have hb2 := zero6_below u
    have Z2 := zero6_at u
    have hsz := hgrow HK.out HSZ3
    have HK2 := hcall HK.out HSZ3 hb2
    refine hK.out _ _ ?_ (fun hHeld => ?_)
    · (try dsimp only); exact HK2.1
    clear hK K; try simp only [Act.put, lt, ly, lu]
    rw [hF3.out]
    exact st3_2_345.out _ _ v19 v22 n3 u.heap.size n5 (by kernel_rfl) HK2 (I19.out.keep hb2) (I22.out.keep hb2) (at_keep Z3.out hb2) g3 Z2 hsz (at_keep Z5.out hb2) g5 (Nat.ne_of_lt (at_lt Z3.out)) ne3_5 (Nat.ne_of_gt (at_lt Z5.out))
  try simp only [← hA3.out, Act.put, lt, ly, lu] at st3_2_35
  replace st3_2_35 := hid st3_2_35
  have st3_2_45 : ∀ (L : Array Bool) (u : World) (v19 v22 : Value) (n4 n5 : Nat), L = #[true, true, true, true, true, true, true, true, false, false, true, true, false, false, false] → Hid (Held0 w2 NN3 w2 u) → Hid (IsBox u v19 a b) → Hid (IsBox u v22 c d) → Hid (Zero6 u n4) → NN3 ≤ n4 → Hid (Zero6 u n5) → NN3 ≤ n5 → n4 ≠ n5 → F3 5 L (Act.put (Act.put (Act.put (Act.put A3 (some 4) (.pointer (some ⟨n4, 0, none⟩))) (some 5) (.pointer (some ⟨n5, 0, none⟩))) (some 19) v19) (some 22) v22) u := by
   intro L u v19 v22 n4 n5 hLL HK I19 I22 Z4 g4 Z5 g5 ne4_5
   subst hLL
   rw [← hF3.out, ← hA3.out]
   try simp only [Act.put, lt, ly, lu]
   refine wpAnyH_ready (rs := [8, 9]) (by kernel_rfl) (by simp) (AllReadyH.cons (o := ?o8q224) ?e8q224 ?k8q224 (AllReadyH.cons (o := ?o9q224) ?e9q224 ?k9q224 AllReadyH.nil))
   case e8q224 => simp only [lg, lz, ls] <;> rfl
   case e9q224 => simp only [lg, lz, ls] <;> rfl
   case k8q224 =>
    intro K hK
    go_simp
    go_at_call 29
    refine (box_to (cell_keep HMB2.out (below_eq HK.out.2.1 HSZ3.out)) ep5.out ep6.out l3.out h3.out).mono ?_
    rintro e u2 ⟨v2, rfl, hv2, hb2⟩
    have HK2 := hcall HK.out HSZ3 hb2
    refine hK.out _ _ ?_ (fun hHeld => ?_)
    · (try dsimp only); exact HK2.1
    clear hK K; try simp only [Act.put, lt, ly, lu]
    rw [hF3.out]
    exact st3_3_45.out _ _ v19 v22 v2 n4 n5 (by kernel_rfl) HK2 (I19.out.keep hb2) (I22.out.keep hb2) hv2 (at_keep Z4.out hb2) g4 (at_keep Z5.out hb2) g5 ne4_5
   case k9q224 =>
    intro K hK
    go_simp
    have hb2 := zero6_below u
    have Z2 := zero6_at u
    have hsz := hgrow HK.out HSZ3
    have HK2 := hcall HK.out HSZ3 hb2
    refine hK.out _ _ ?_ (fun hHeld => ?_)
    · (try dsimp only); exact HK2.1
    clear hK K; try simp only [Act.put, lt, ly, lu]
    rw [hF3.out]
    exact st3_2_345.out _ _ v19 v22 u.heap.size n4 n5 (by kernel_rfl) HK2 (I19.out.keep hb2) (I22.out.keep hb2) Z2 hsz (at_keep Z4.out hb2) g4 (at_keep Z5.out hb2) g5 (Nat.ne_of_gt (at_lt Z4.out)) (Nat.ne_of_gt (at_lt Z5.out)) ne4_5
  try simp only [← hA3.out, Act.put, lt, ly, lu] at st3_2_45
  replace st3_2_45 := hid st3_2_45
  have st3_2_3 : ∀ (L : Array Bool) (u : World) (v19 v22 : Value) (n3 : Nat), L = #[true, true, true, true, true, true, true, true, false, true, false, false, false, false, false] → Hid (Held0 w2 NN3 w2 u) → Hid (IsBox u v19 a b) → Hid (IsBox u v22 c d) → Hid (Zero6 u n3) → NN3 ≤ n3 → F3 6 L (Act.put (Act.put (Act.put A3 (some 3) (.pointer (some ⟨n3, 0, none⟩))) (some 19) v19) (some 22) v22) u := by
   intro L u v19 v22 n3 hLL HK I19 I22 Z3 g3
   subst hLL
   rw [← hF3.out, ← hA3.out]
   try simp only [Act.put, lt, ly, lu]
   refine wpAnyH_ready (rs := [8, 10, 11]) (by kernel_rfl) (by simp) (AllReadyH.cons (o := ?o8q225) ?e8q225 ?k8q225 (AllReadyH.cons (o := ?o10q225) ?e10q225 ?k10q225 (AllReadyH.cons (o := ?o11q225) ?e11q225 ?k11q225 AllReadyH.nil)))
   case e8q225 => simp only [lg, lz, ls] <;> rfl
   case e10q225 => simp only [lg, lz, ls] <;> rfl
   case e11q225 => simp only [lg, lz, ls] <;> rfl
   case k8q225 =>
    intro K hK
    go_simp
    go_at_call 29
    refine (box_to (cell_keep HMB2.out (below_eq HK.out.2.1 HSZ3.out)) ep5.out ep6.out l3.out h3.out).mono ?_
    rintro e u2 ⟨v2, rfl, hv2, hb2⟩
    have HK2 := hcall HK.out HSZ3 hb2
    refine hK.out _ _ ?_ (fun hHeld => ?_)
    · (try dsimp only); exact HK2.1
    clear hK K; try simp only [Act.put, lt, ly, lu]
    rw [hF3.out]
    exact st3_3_3.out _ _ v19 v22 v2 n3 (by kernel_rfl) HK2 (I19.out.keep hb2) (I22.out.keep hb2) hv2 (at_keep Z3.out hb2) g3
   case k10q225 =>
    intro K hK
    go_simp
    have hb2 := zero6_below u
    have Z2 := zero6_at u
    have hsz := hgrow HK.out HSZ3
    have HK2 := hcall HK.out HSZ3 hb2
    refine hK.out _ _ ?_ (fun hHeld => ?_)
    · (try dsimp only); exact HK2.1
    clear hK K; try simp only [Act.put, lt, ly, lu]
    rw [hF3.out]
    exact st3_2_34.out _ _ v19 v22 n3 u.heap.size (by kernel_rfl) HK2 (I19.out.keep hb2) (I22.out.keep hb2) (at_keep Z3.out hb2) g3 Z2 hsz (Nat.ne_of_lt (at_lt Z3.out))
   case k11q225 =>
    intro K hK
    go_simp
    have hb2 := zero6_below u
    have Z2 := zero6_at u
    have hsz := hgrow HK.out HSZ3
    have HK2 := hcall HK.out HSZ3 hb2
    refine hK.out _ _ ?_ (fun hHeld => ?_)
    · (try dsimp only); exact HK2.1
    clear hK K; try simp only [Act.put, lt, ly, lu]
    rw [hF3.out]
    exact st3_2_35.out _ _ v19 v22 n3 u.heap.size (by kernel_rfl) HK2 (I19.out.keep hb2) (I22.out.keep hb2) (at_keep Z3.out hb2) g3 Z2 hsz (Nat.ne_of_lt (at_lt Z3.out))
  try simp only [← hA3.out, Act.put, lt, ly, lu] at st3_2_3
  replace st3_2_3 := hid st3_2_3
  have st3_2_4 : ∀ (L : Array Bool) (u : World) (v19 v22 : Value) (n4 : Nat), L = #[true, true, true, true, true, true, true, true, false, false, true, false, false, false, false] → Hid (Held0 w2 NN3 w2 u) → Hid (IsBox u v19 a b) → Hid (IsBox u v22 c d) → Hid (Zero6 u n4) → NN3 ≤ n4 → F3 6 L (Act.put (Act.put (Act.put A3 (some 4) (.pointer (some ⟨n4, 0, none⟩))) (some 19) v19) (some 22) v22) u := by
   intro L u v19 v22 n4 hLL HK I19 I22 Z4 g4
   subst hLL
   rw [← hF3.out, ← hA3.out]
   try simp only [Act.put, lt, ly, lu]
   refine wpAnyH_ready (rs := [8, 9, 11]) (by kernel_rfl) (by simp) (AllReadyH.cons (o := ?o8q226) ?e8q226 ?k8q226 (AllReadyH.cons (o := ?o9q226) ?e9q226 ?k9q226 (AllReadyH.cons (o := ?o11q226) ?e11q226 ?k11q226 AllReadyH.nil)))
   case e8q226 => simp only [lg, lz, ls] <;> rfl
   case e9q226 => simp only [lg, lz, ls] <;> rfl
   case e11q226 => simp only [lg, lz, ls] <;> rfl
   case k8q226 =>
    intro K hK
    go_simp
    go_at_call 29
    refine (box_to (cell_keep HMB2.out (below_eq HK.out.2.1 HSZ3.out)) ep5.out ep6.out l3.out h3.out).mono ?_
    rintro e u2 ⟨v2, rfl, hv2, hb2⟩
    have HK2 := hcall HK.out HSZ3 hb2
    refine hK.out _ _ ?_ (fun hHeld => ?_)
    · (try dsimp only); exact HK2.1
    clear hK K; try simp only [Act.put, lt, ly, lu]
    rw [hF3.out]
    exact st3_3_4.out _ _ v19 v22 v2 n4 (by kernel_rfl) HK2 (I19.out.keep hb2) (I22.out.keep hb2) hv2 (at_keep Z4.out hb2) g4
   case k9q226 =>
    intro K hK
    go_simp
    have hb2 := zero6_below u
    have Z2 := zero6_at u
    have hsz := hgrow HK.out HSZ3
    have HK2 := hcall HK.out HSZ3 hb2
    refine hK.out _ _ ?_ (fun hHeld => ?_)
    · (try dsimp only); exact HK2.1
    clear hK K; try simp only [Act.put, lt, ly, lu]
    rw [hF3.out]
    exact st3_2_34.out _ _ v19 v22 u.heap.size n4 (by kernel_rfl) HK2 (I19.out.keep hb2) (I22.out.keep hb2) Z2 hsz (at_keep Z4.out hb2) g4 (Nat.ne_of_gt (at_lt Z4.out))
   case k11q226 =>
    intro K hK
    go_simp
    have hb2 := zero6_below u
    have Z2 := zero6_at u
    have hsz := hgrow HK.out HSZ3
    have HK2 := hcall HK.out HSZ3 hb2
    refine hK.out _ _ ?_ (fun hHeld => ?_)
    · (try dsimp only); exact HK2.1
    clear hK K; try simp only [Act.put, lt, ly, lu]
    rw [hF3.out]
    exact st3_2_45.out _ _ v19 v22 n4 u.heap.size (by kernel_rfl) HK2 (I19.out.keep hb2) (I22.out.keep hb2) (at_keep Z4.out hb2) g4 Z2 hsz (Nat.ne_of_lt (at_lt Z4.out))
  try simp only [← hA3.out, Act.put, lt, ly, lu] at st3_2_4
  replace st3_2_4 := hid st3_2_4
  have st3_2_5 : ∀ (L : Array Bool) (u : World) (v19 v22 : Value) (n5 : Nat), L = #[true, true, true, true, true, true, true, true, false, false, false, true, false, false, false] → Hid (Held0 w2 NN3 w2 u) → Hid (IsBox u v19 a b) → Hid (IsBox u v22 c d) → Hid (Zero6 u n5) → NN3 ≤ n5 → F3 6 L (Act.put (Act.put (Act.put A3 (some 5) (.pointer (some ⟨n5, 0, none⟩))) (some 19) v19) (some 22) v22) u := by
   intro L u v19 v22 n5 hLL HK I19 I22 Z5 g5
   subst hLL
   rw [← hF3.out, ← hA3.out]
   try simp only [Act.put, lt, ly, lu]
   refine wpAnyH_ready (rs := [8, 9, 10]) (by kernel_rfl) (by simp) (AllReadyH.cons (o := ?o8q227) ?e8q227 ?k8q227 (AllReadyH.cons (o := ?o9q227) ?e9q227 ?k9q227 (AllReadyH.cons (o := ?o10q227) ?e10q227 ?k10q227 AllReadyH.nil)))
   case e8q227 => simp only [lg, lz, ls] <;> rfl
   case e9q227 => simp only [lg, lz, ls] <;> rfl
   case e10q227 => simp only [lg, lz, ls] <;> rfl
   case k8q227 =>
    intro K hK
    go_simp
    go_at_call 29
    refine (box_to (cell_keep HMB2.out (below_eq HK.out.2.1 HSZ3.out)) ep5.out ep6.out l3.out h3.out).mono ?_
    rintro e u2 ⟨v2, rfl, hv2, hb2⟩
    have HK2 := hcall HK.out HSZ3 hb2
    refine hK.out _ _ ?_ (fun hHeld => ?_)
    · (try dsimp only); exact HK2.1
    clear hK K; try simp only [Act.put, lt, ly, lu]
    rw [hF3.out]
    exact st3_3_5.out _ _ v19 v22 v2 n5 (by kernel_rfl) HK2 (I19.out.keep hb2) (I22.out.keep hb2) hv2 (at_keep Z5.out hb2) g5
   case k9q227 =>
    intro K hK
    go_simp
    have hb2 := zero6_below u
    have Z2 := zero6_at u
    have hsz := hgrow HK.out HSZ3
    have HK2 := hcall HK.out HSZ3 hb2
    refine hK.out _ _ ?_ (fun hHeld => ?_)
    · (try dsimp only); exact HK2.1
    clear hK K; try simp only [Act.put, lt, ly, lu]
    rw [hF3.out]
    exact st3_2_35.out _ _ v19 v22 u.heap.size n5 (by kernel_rfl) HK2 (I19.out.keep hb2) (I22.out.keep hb2) Z2 hsz (at_keep Z5.out hb2) g5 (Nat.ne_of_gt (at_lt Z5.out))
   case k10q227 =>
    intro K hK
    go_simp
    have hb2 := zero6_below u
    have Z2 := zero6_at u
    have hsz := hgrow HK.out HSZ3
    have HK2 := hcall HK.out HSZ3 hb2
    refine hK.out _ _ ?_ (fun hHeld => ?_)
    · (try dsimp only); exact HK2.1
    clear hK K; try simp only [Act.put, lt, ly, lu]
    rw [hF3.out]
    exact st3_2_45.out _ _ v19 v22 u.heap.size n5 (by kernel_rfl) HK2 (I19.out.keep hb2) (I22.out.keep hb2) Z2 hsz (at_keep Z5.out hb2) g5 (Nat.ne_of_gt (at_lt Z5.out))
  try simp only [← hA3.out, Act.put, lt, ly, lu] at st3_2_5
  replace st3_2_5 := hid st3_2_5
  have st3_2_n : ∀ (L : Array Bool) (u : World) (v19 v22 : Value), L = #[true, true, true, true, true, true, true, true, false, false, false, false, false, false, false] → Hid (Held0 w2 NN3 w2 u) → Hid (IsBox u v19 a b) → Hid (IsBox u v22 c d) → F3 7 L (Act.put (Act.put A3 (some 19) v19) (some 22) v22) u := by
   intro L u v19 v22 hLL HK I19 I22
   subst hLL
   rw [← hF3.out, ← hA3.out]
   try simp only [Act.put, lt, ly, lu]
   refine wpAnyH_ready (rs := [8, 9, 10, 11]) (by kernel_rfl) (by simp) (AllReadyH.cons (o := ?o8q228) ?e8q228 ?k8q228 (AllReadyH.cons (o := ?o9q228) ?e9q228 ?k9q228 (AllReadyH.cons (o := ?o10q228) ?e10q228 ?k10q228 (AllReadyH.cons (o := ?o11q228) ?e11q228 ?k11q228 AllReadyH.nil))))
   case e8q228 => simp only [lg, lz, ls] <;> rfl
   case e9q228 => simp only [lg, lz, ls] <;> rfl
   case e10q228 => simp only [lg, lz, ls] <;> rfl
   case e11q228 => simp only [lg, lz, ls] <;> rfl
   case k8q228 =>
    intro K hK
    go_simp
    go_at_call 29
    refine (box_to (cell_keep HMB2.out (below_eq HK.out.2.1 HSZ3.out)) ep5.out ep6.out l3.out h3.out).mono ?_
    rintro e u2 ⟨v2, rfl, hv2, hb2⟩
    have HK2 := hcall HK.out HSZ3 hb2
    refine hK.out _ _ ?_ (fun hHeld => ?_)
    · (try dsimp only); exact HK2.1
    clear hK K; try simp only [Act.put, lt, ly, lu]
    rw [hF3.out]
    exact st3_3_n.out _ _ v19 v22 v2 (by kernel_rfl) HK2 (I19.out.keep hb2) (I22.out.keep hb2) hv2
   case k9q228 =>
    intro K hK
    go_simp
    have hb2 := zero6_below u
    have Z2 := zero6_at u
    have hsz := hgrow HK.out HSZ3
    have HK2 := hcall HK.out HSZ3 hb2
    refine hK.out _ _ ?_ (fun hHeld => ?_)
    · (try dsimp only); exact HK2.1
    clear hK K; try simp only [Act.put, lt, ly, lu]
    rw [hF3.out]
    exact st3_2_3.out _ _ v19 v22 u.heap.size (by kernel_rfl) HK2 (I19.out.keep hb2) (I22.out.keep hb2) Z2 hsz
   case k10q228 =>
    intro K hK
    go_simp
    have hb2 := zero6_below u
    have Z2 := zero6_at u
    have hsz := hgrow HK.out HSZ3
    have HK2 := hcall HK.out HSZ3 hb2
    refine hK.out _ _ ?_ (fun hHeld => ?_)
    · (try dsimp only); exact HK2.1
    clear hK K; try simp only [Act.put, lt, ly, lu]
    rw [hF3.out]
    exact st3_2_4.out _ _ v19 v22 u.heap.size (by kernel_rfl) HK2 (I19.out.keep hb2) (I22.out.keep hb2) Z2 hsz
   case k11q228 =>
    intro K hK
    go_simp
    have hb2 := zero6_below u
    have Z2 := zero6_at u
    have hsz := hgrow HK.out HSZ3
    have HK2 := hcall HK.out HSZ3 hb2
    refine hK.out _ _ ?_ (fun hHeld => ?_)
    · (try dsimp only); exact HK2.1
    clear hK K; try simp only [Act.put, lt, ly, lu]
    rw [hF3.out]
    exact st3_2_5.out _ _ v19 v22 u.heap.size (by kernel_rfl) HK2 (I19.out.keep hb2) (I22.out.keep hb2) Z2 hsz
  try simp only [← hA3.out, Act.put, lt, ly, lu] at st3_2_n
  replace st3_2_n := hid st3_2_n
  have st3_1_345 : ∀ (L : Array Bool) (u : World) (v19 : Value) (n3 n4 n5 : Nat), L = #[true, true, true, true, true, false, true, true, false, true, true, true, false, false, false] → Hid (Held0 w2 NN3 w2 u) → Hid (IsBox u v19 a b) → Hid (Zero6 u n3) → NN3 ≤ n3 → Hid (Zero6 u n4) → NN3 ≤ n4 → Hid (Zero6 u n5) → NN3 ≤ n5 → n3 ≠ n4 → n3 ≠ n5 → n4 ≠ n5 → F3 5 L (Act.put (Act.put (Act.put (Act.put A3 (some 3) (.pointer (some ⟨n3, 0, none⟩))) (some 4) (.pointer (some ⟨n4, 0, none⟩))) (some 5) (.pointer (some ⟨n5, 0, none⟩))) (some 19) v19) u := by
   intro L u v19 n3 n4 n5 hLL HK I19 Z3 g3 Z4 g4 Z5 g5 ne3_4 ne3_5 ne4_5
   subst hLL
   rw [← hF3.out, ← hA3.out]
   try simp only [Act.put, lt, ly, lu]
   refine wpAnyH_ready (rs := [5]) (by kernel_rfl) (by simp) (AllReadyH.cons (o := ?o5q229) ?e5q229 ?k5q229 AllReadyH.nil)
   case e5q229 => simp only [lg, lz, ls] <;> rfl
   case k5q229 =>
    intro K hK
    go_simp
    go_at_call 29
    refine (box_to (cell_keep HMB2.out (below_eq HK.out.2.1 HSZ3.out)) ep3.out ep4.out l2.out h2.out).mono ?_
    rintro e u2 ⟨v2, rfl, hv2, hb2⟩
    have HK2 := hcall HK.out HSZ3 hb2
    refine hK.out _ _ ?_ (fun hHeld => ?_)
    · (try dsimp only); exact HK2.1
    clear hK K; try simp only [Act.put, lt, ly, lu]
    rw [hF3.out]
    exact st3_2_345.out _ _ v19 v2 n3 n4 n5 (by kernel_rfl) HK2 (I19.out.keep hb2) hv2 (at_keep Z3.out hb2) g3 (at_keep Z4.out hb2) g4 (at_keep Z5.out hb2) g5 ne3_4 ne3_5 ne4_5
  try simp only [← hA3.out, Act.put, lt, ly, lu] at st3_1_345
  replace st3_1_345 := hid st3_1_345
  have st3_1_34 : ∀ (L : Array Bool) (u : World) (v19 : Value) (n3 n4 : Nat), L = #[true, true, true, true, true, false, true, true, false, true, true, false, false, false, false] → Hid (Held0 w2 NN3 w2 u) → Hid (IsBox u v19 a b) → Hid (Zero6 u n3) → NN3 ≤ n3 → Hid (Zero6 u n4) → NN3 ≤ n4 → n3 ≠ n4 → F3 6 L (Act.put (Act.put (Act.put A3 (some 3) (.pointer (some ⟨n3, 0, none⟩))) (some 4) (.pointer (some ⟨n4, 0, none⟩))) (some 19) v19) u := by
   intro L u v19 n3 n4 hLL HK I19 Z3 g3 Z4 g4 ne3_4
   subst hLL
   rw [← hF3.out, ← hA3.out]
   try simp only [Act.put, lt, ly, lu]
   refine wpAnyH_ready (rs := [5, 11]) (by kernel_rfl) (by simp) (AllReadyH.cons (o := ?o5q230) ?e5q230 ?k5q230 (AllReadyH.cons (o := ?o11q230) ?e11q230 ?k11q230 AllReadyH.nil))
   case e5q230 => simp only [lg, lz, ls] <;> rfl
   case e11q230 => simp only [lg, lz, ls] <;> rfl
   case k5q230 =>
    intro K hK
    go_simp
    go_at_call 29
    refine (box_to (cell_keep HMB2.out (below_eq HK.out.2.1 HSZ3.out)) ep3.out ep4.out l2.out h2.out).mono ?_
    rintro e u2 ⟨v2, rfl, hv2, hb2⟩
    have HK2 := hcall HK.out HSZ3 hb2
    refine hK.out _ _ ?_ (fun hHeld => ?_)
    · (try dsimp only); exact HK2.1
    clear hK K; try simp only [Act.put, lt, ly, lu]
    rw [hF3.out]
    exact st3_2_34.out _ _ v19 v2 n3 n4 (by kernel_rfl) HK2 (I19.out.keep hb2) hv2 (at_keep Z3.out hb2) g3 (at_keep Z4.out hb2) g4 ne3_4
   case k11q230 =>
    intro K hK
    go_simp
    have hb2 := zero6_below u
    have Z2 := zero6_at u
    have hsz := hgrow HK.out HSZ3
    have HK2 := hcall HK.out HSZ3 hb2
    refine hK.out _ _ ?_ (fun hHeld => ?_)
    · (try dsimp only); exact HK2.1
    clear hK K; try simp only [Act.put, lt, ly, lu]
    rw [hF3.out]
    exact st3_1_345.out _ _ v19 n3 n4 u.heap.size (by kernel_rfl) HK2 (I19.out.keep hb2) (at_keep Z3.out hb2) g3 (at_keep Z4.out hb2) g4 Z2 hsz ne3_4 (Nat.ne_of_lt (at_lt Z3.out)) (Nat.ne_of_lt (at_lt Z4.out))
  try simp only [← hA3.out, Act.put, lt, ly, lu] at st3_1_34
  replace st3_1_34 := hid st3_1_34
  have st3_1_35 : ∀ (L : Array Bool) (u : World) (v19 : Value) (n3 n5 : Nat), L = #[true, true, true, true, true, false, true, true, false, true, false, true, false, false, false] → Hid (Held0 w2 NN3 w2 u) → Hid (IsBox u v19 a b) → Hid (Zero6 u n3) → NN3 ≤ n3 → Hid (Zero6 u n5) → NN3 ≤ n5 → n3 ≠ n5 → F3 6 L (Act.put (Act.put (Act.put A3 (some 3) (.pointer (some ⟨n3, 0, none⟩))) (some 5) (.pointer (some ⟨n5, 0, none⟩))) (some 19) v19) u := by
   intro L u v19 n3 n5 hLL HK I19 Z3 g3 Z5 g5 ne3_5
   subst hLL
   rw [← hF3.out, ← hA3.out]
   try simp only [Act.put, lt, ly, lu]
   refine wpAnyH_ready (rs := [5, 10]) (by kernel_rfl) (by simp) (AllReadyH.cons (o := ?o5q231) ?e5q231 ?k5q231 (AllReadyH.cons (o := ?o10q231) ?e10q231 ?k10q231 AllReadyH.nil))
   case e5q231 => simp only [lg, lz, ls] <;> rfl
   case e10q231 => simp only [lg, lz, ls] <;> rfl
   case k5q231 =>
    intro K hK
    go_simp
    go_at_call 29
    refine (box_to (cell_keep HMB2.out (below_eq HK.out.2.1 HSZ3.out)) ep3.out ep4.out l2.out h2.out).mono ?_
    rintro e u2 ⟨v2, rfl, hv2, hb2⟩
    have HK2 := hcall HK.out HSZ3 hb2
    refine hK.out _ _ ?_ (fun hHeld => ?_)
    · (try dsimp only); exact HK2.1
    clear hK K; try simp only [Act.put, lt, ly, lu]
    rw [hF3.out]
    exact st3_2_35.out _ _ v19 v2 n3 n5 (by kernel_rfl) HK2 (I19.out.keep hb2) hv2 (at_keep Z3.out hb2) g3 (at_keep Z5.out hb2) g5 ne3_5
   case k10q231 =>
    intro K hK
    go_simp
    have hb2 := zero6_below u
    have Z2 := zero6_at u
    have hsz := hgrow HK.out HSZ3
    have HK2 := hcall HK.out HSZ3 hb2
    refine hK.out _ _ ?_ (fun hHeld => ?_)
    · (try dsimp only); exact HK2.1
    clear hK K; try simp only [Act.put, lt, ly, lu]
    rw [hF3.out]
    exact st3_1_345.out _ _ v19 n3 u.heap.size n5 (by kernel_rfl) HK2 (I19.out.keep hb2) (at_keep Z3.out hb2) g3 Z2 hsz (at_keep Z5.out hb2) g5 (Nat.ne_of_lt (at_lt Z3.out)) ne3_5 (Nat.ne_of_gt (at_lt Z5.out))
  try simp only [← hA3.out, Act.put, lt, ly, lu] at st3_1_35
  replace st3_1_35 := hid st3_1_35
  have st3_1_45 : ∀ (L : Array Bool) (u : World) (v19 : Value) (n4 n5 : Nat), L = #[true, true, true, true, true, false, true, true, false, false, true, true, false, false, false] → Hid (Held0 w2 NN3 w2 u) → Hid (IsBox u v19 a b) → Hid (Zero6 u n4) → NN3 ≤ n4 → Hid (Zero6 u n5) → NN3 ≤ n5 → n4 ≠ n5 → F3 6 L (Act.put (Act.put (Act.put A3 (some 4) (.pointer (some ⟨n4, 0, none⟩))) (some 5) (.pointer (some ⟨n5, 0, none⟩))) (some 19) v19) u := by
   intro L u v19 n4 n5 hLL HK I19 Z4 g4 Z5 g5 ne4_5
   subst hLL
   rw [← hF3.out, ← hA3.out]
   try simp only [Act.put, lt, ly, lu]
   refine wpAnyH_ready (rs := [5, 9]) (by kernel_rfl) (by simp) (AllReadyH.cons (o := ?o5q232) ?e5q232 ?k5q232 (AllReadyH.cons (o := ?o9q232) ?e9q232 ?k9q232 AllReadyH.nil))
   case e5q232 => simp only [lg, lz, ls] <;> rfl
   case e9q232 => simp only [lg, lz, ls] <;> rfl
   case k5q232 =>
    intro K hK
    go_simp
    go_at_call 29
    refine (box_to (cell_keep HMB2.out (below_eq HK.out.2.1 HSZ3.out)) ep3.out ep4.out l2.out h2.out).mono ?_
    rintro e u2 ⟨v2, rfl, hv2, hb2⟩
    have HK2 := hcall HK.out HSZ3 hb2
    refine hK.out _ _ ?_ (fun hHeld => ?_)
    · (try dsimp only); exact HK2.1
    clear hK K; try simp only [Act.put, lt, ly, lu]
    rw [hF3.out]
    exact st3_2_45.out _ _ v19 v2 n4 n5 (by kernel_rfl) HK2 (I19.out.keep hb2) hv2 (at_keep Z4.out hb2) g4 (at_keep Z5.out hb2) g5 ne4_5
   case k9q232 =>
    intro K hK
    go_simp
    have hb2 := zero6_below u
    have Z2 := zero6_at u
    have hsz := hgrow HK.out HSZ3
    have HK2 := hcall HK.out HSZ3 hb2
    refine hK.out _ _ ?_ (fun hHeld => ?_)
    · (try dsimp only); exact HK2.1
    clear hK K; try simp only [Act.put, lt, ly, lu]
    rw [hF3.out]
    exact st3_1_345.out _ _ v19 u.heap.size n4 n5 (by kernel_rfl) HK2 (I19.out.keep hb2) Z2 hsz (at_keep Z4.out hb2) g4 (at_keep Z5.out hb2) g5 (Nat.ne_of_gt (at_lt Z4.out)) (Nat.ne_of_gt (at_lt Z5.out)) ne4_5
  try simp only [← hA3.out, Act.put, lt, ly, lu] at st3_1_45
  replace st3_1_45 := hid st3_1_45
  have st3_1_3 : ∀ (L : Array Bool) (u : World) (v19 : Value) (n3 : Nat), L = #[true, true, true, true, true, false, true, true, false, true, false, false, false, false, false] → Hid (Held0 w2 NN3 w2 u) → Hid (IsBox u v19 a b) → Hid (Zero6 u n3) → NN3 ≤ n3 → F3 7 L (Act.put (Act.put A3 (some 3) (.pointer (some ⟨n3, 0, none⟩))) (some 19) v19) u := by
   intro L u v19 n3 hLL HK I19 Z3 g3
   subst hLL
   rw [← hF3.out, ← hA3.out]
   try simp only [Act.put, lt, ly, lu]
   refine wpAnyH_ready (rs := [5, 10, 11]) (by kernel_rfl) (by simp) (AllReadyH.cons (o := ?o5q233) ?e5q233 ?k5q233 (AllReadyH.cons (o := ?o10q233) ?e10q233 ?k10q233 (AllReadyH.cons (o := ?o11q233) ?e11q233 ?k11q233 AllReadyH.nil)))
   case e5q233 => simp only [lg, lz, ls] <;> rfl
   case e10q233 => simp only [lg, lz, ls] <;> rfl
   case e11q233 => simp only [lg, lz, ls] <;> rfl
   case k5q233 =>
    intro K hK
    go_simp
    go_at_call 29
    refine (box_to (cell_keep HMB2.out (below_eq HK.out.2.1 HSZ3.out)) ep3.out ep4.out l2.out h2.out).mono ?_
    rintro e u2 ⟨v2, rfl, hv2, hb2⟩
    have HK2 := hcall HK.out HSZ3 hb2
    refine hK.out _ _ ?_ (fun hHeld => ?_)
    · (try dsimp only); exact HK2.1
    clear hK K; try simp only [Act.put, lt, ly, lu]
    rw [hF3.out]
    exact st3_2_3.out _ _ v19 v2 n3 (by kernel_rfl) HK2 (I19.out.keep hb2) hv2 (at_keep Z3.out hb2) g3
   case k10q233 =>
    intro K hK
    go_simp
    have hb2 := zero6_below u
    have Z2 := zero6_at u
    have hsz := hgrow HK.out HSZ3
    have HK2 := hcall HK.out HSZ3 hb2
    refine hK.out _ _ ?_ (fun hHeld => ?_)
    · (try dsimp only); exact HK2.1
    clear hK K; try simp only [Act.put, lt, ly, lu]
    rw [hF3.out]
    exact st3_1_34.out _ _ v19 n3 u.heap.size (by kernel_rfl) HK2 (I19.out.keep hb2) (at_keep Z3.out hb2) g3 Z2 hsz (Nat.ne_of_lt (at_lt Z3.out))
   case k11q233 =>
    intro K hK
    go_simp
    have hb2 := zero6_below u
    have Z2 := zero6_at u
    have hsz := hgrow HK.out HSZ3
    have HK2 := hcall HK.out HSZ3 hb2
    refine hK.out _ _ ?_ (fun hHeld => ?_)
    · (try dsimp only); exact HK2.1
    clear hK K; try simp only [Act.put, lt, ly, lu]
    rw [hF3.out]
    exact st3_1_35.out _ _ v19 n3 u.heap.size (by kernel_rfl) HK2 (I19.out.keep hb2) (at_keep Z3.out hb2) g3 Z2 hsz (Nat.ne_of_lt (at_lt Z3.out))
  try simp only [← hA3.out, Act.put, lt, ly, lu] at st3_1_3
  replace st3_1_3 := hid st3_1_3
  have st3_1_4 : ∀ (L : Array Bool) (u : World) (v19 : Value) (n4 : Nat), L = #[true, true, true, true, true, false, true, true, false, false, true, false, false, false, false] → Hid (Held0 w2 NN3 w2 u) → Hid (IsBox u v19 a b) → Hid (Zero6 u n4) → NN3 ≤ n4 → F3 7 L (Act.put (Act.put A3 (some 4) (.pointer (some ⟨n4, 0, none⟩))) (some 19) v19) u := by
   intro L u v19 n4 hLL HK I19 Z4 g4
   subst hLL
   rw [← hF3.out, ← hA3.out]
   try simp only [Act.put, lt, ly, lu]
   refine wpAnyH_ready (rs := [5, 9, 11]) (by kernel_rfl) (by simp) (AllReadyH.cons (o := ?o5q234) ?e5q234 ?k5q234 (AllReadyH.cons (o := ?o9q234) ?e9q234 ?k9q234 (AllReadyH.cons (o := ?o11q234) ?e11q234 ?k11q234 AllReadyH.nil)))
   case e5q234 => simp only [lg, lz, ls] <;> rfl
   case e9q234 => simp only [lg, lz, ls] <;> rfl
   case e11q234 => simp only [lg, lz, ls] <;> rfl
   case k5q234 =>
    intro K hK
    go_simp
    go_at_call 29
    refine (box_to (cell_keep HMB2.out (below_eq HK.out.2.1 HSZ3.out)) ep3.out ep4.out l2.out h2.out).mono ?_
    rintro e u2 ⟨v2, rfl, hv2, hb2⟩
    have HK2 := hcall HK.out HSZ3 hb2
    refine hK.out _ _ ?_ (fun hHeld => ?_)
    · (try dsimp only); exact HK2.1
    clear hK K; try simp only [Act.put, lt, ly, lu]
    rw [hF3.out]
    exact st3_2_4.out _ _ v19 v2 n4 (by kernel_rfl) HK2 (I19.out.keep hb2) hv2 (at_keep Z4.out hb2) g4
   case k9q234 =>
    intro K hK
    go_simp
    have hb2 := zero6_below u
    have Z2 := zero6_at u
    have hsz := hgrow HK.out HSZ3
    have HK2 := hcall HK.out HSZ3 hb2
    refine hK.out _ _ ?_ (fun hHeld => ?_)
    · (try dsimp only); exact HK2.1
    clear hK K; try simp only [Act.put, lt, ly, lu]
    rw [hF3.out]
    exact st3_1_34.out _ _ v19 u.heap.size n4 (by kernel_rfl) HK2 (I19.out.keep hb2) Z2 hsz (at_keep Z4.out hb2) g4 (Nat.ne_of_gt (at_lt Z4.out))
   case k11q234 =>
    intro K hK
    go_simp
    have hb2 := zero6_below u
    have Z2 := zero6_at u
    have hsz := hgrow HK.out HSZ3
    have HK2 := hcall HK.out HSZ3 hb2
    refine hK.out _ _ ?_ (fun hHeld => ?_)
    · (try dsimp only); exact HK2.1
    clear hK K; try simp only [Act.put, lt, ly, lu]
    rw [hF3.out]
    exact st3_1_45.out _ _ v19 n4 u.heap.size (by kernel_rfl) HK2 (I19.out.keep hb2) (at_keep Z4.out hb2) g4 Z2 hsz (Nat.ne_of_lt (at_lt Z4.out))
  try simp only [← hA3.out, Act.put, lt, ly, lu] at st3_1_4
  replace st3_1_4 := hid st3_1_4
  have st3_1_5 : ∀ (L : Array Bool) (u : World) (v19 : Value) (n5 : Nat), L = #[true, true, true, true, true, false, true, true, false, false, false, true, false, false, false] → Hid (Held0 w2 NN3 w2 u) → Hid (IsBox u v19 a b) → Hid (Zero6 u n5) → NN3 ≤ n5 → F3 7 L (Act.put (Act.put A3 (some 5) (.pointer (some ⟨n5, 0, none⟩))) (some 19) v19) u := by
   intro L u v19 n5 hLL HK I19 Z5 g5
   subst hLL
   rw [← hF3.out, ← hA3.out]
   try simp only [Act.put, lt, ly, lu]
   refine wpAnyH_ready (rs := [5, 9, 10]) (by kernel_rfl) (by simp) (AllReadyH.cons (o := ?o5q235) ?e5q235 ?k5q235 (AllReadyH.cons (o := ?o9q235) ?e9q235 ?k9q235 (AllReadyH.cons (o := ?o10q235) ?e10q235 ?k10q235 AllReadyH.nil)))
   case e5q235 => simp only [lg, lz, ls] <;> rfl
   case e9q235 => simp only [lg, lz, ls] <;> rfl
   case e10q235 => simp only [lg, lz, ls] <;> rfl
   case k5q235 =>
    intro K hK
    go_simp
    go_at_call 29
    refine (box_to (cell_keep HMB2.out (below_eq HK.out.2.1 HSZ3.out)) ep3.out ep4.out l2.out h2.out).mono ?_
    rintro e u2 ⟨v2, rfl, hv2, hb2⟩
    have HK2 := hcall HK.out HSZ3 hb2
    refine hK.out _ _ ?_ (fun hHeld => ?_)
    · (try dsimp only); exact HK2.1
    clear hK K; try simp only [Act.put, lt, ly, lu]
    rw [hF3.out]
    exact st3_2_5.out _ _ v19 v2 n5 (by kernel_rfl) HK2 (I19.out.keep hb2) hv2 (at_keep Z5.out hb2) g5
   case k9q235 =>
    intro K hK
    go_simp
    have hb2 := zero6_below u
    have Z2 := zero6_at u
    have hsz := hgrow HK.out HSZ3
    have HK2 := hcall HK.out HSZ3 hb2
    refine hK.out _ _ ?_ (fun hHeld => ?_)
    · (try dsimp only); exact HK2.1
    clear hK K; try simp only [Act.put, lt, ly, lu]
    rw [hF3.out]
    exact st3_1_35.out _ _ v19 u.heap.size n5 (by kernel_rfl) HK2 (I19.out.keep hb2) Z2 hsz (at_keep Z5.out hb2) g5 (Nat.ne_of_gt (at_lt Z5.out))
   case k10q235 =>
    intro K hK
    go_simp
    have hb2 := zero6_below u
    have Z2 := zero6_at u
    have hsz := hgrow HK.out HSZ3
    have HK2 := hcall HK.out HSZ3 hb2
    refine hK.out _ _ ?_ (fun hHeld => ?_)
    · (try dsimp only); exact HK2.1
    clear hK K; try simp only [Act.put, lt, ly, lu]
    rw [hF3.out]
    exact st3_1_45.out _ _ v19 u.heap.size n5 (by kernel_rfl) HK2 (I19.out.keep hb2) Z2 hsz (at_keep Z5.out hb2) g5 (Nat.ne_of_gt (at_lt Z5.out))
  try simp only [← hA3.out, Act.put, lt, ly, lu] at st3_1_5
  replace st3_1_5 := hid st3_1_5
  have st3_1_n : ∀ (L : Array Bool) (u : World) (v19 : Value), L = #[true, true, true, true, true, false, true, true, false, false, false, false, false, false, false] → Hid (Held0 w2 NN3 w2 u) → Hid (IsBox u v19 a b) → F3 8 L (Act.put A3 (some 19) v19) u := by
   intro L u v19 hLL HK I19
   subst hLL
   rw [← hF3.out, ← hA3.out]
   try simp only [Act.put, lt, ly, lu]
   refine wpAnyH_ready (rs := [5, 9, 10, 11]) (by kernel_rfl) (by simp) (AllReadyH.cons (o := ?o5q236) ?e5q236 ?k5q236 (AllReadyH.cons (o := ?o9q236) ?e9q236 ?k9q236 (AllReadyH.cons (o := ?o10q236) ?e10q236 ?k10q236 (AllReadyH.cons (o := ?o11q236) ?e11q236 ?k11q236 AllReadyH.nil))))
   case e5q236 => simp only [lg, lz, ls] <;> rfl
   case e9q236 => simp only [lg, lz, ls] <;> rfl
   case e10q236 => simp only [lg, lz, ls] <;> rfl
   case e11q236 => simp only [lg, lz, ls] <;> rfl
   case k5q236 =>
    intro K hK
    go_simp
    go_at_call 29
    refine (box_to (cell_keep HMB2.out (below_eq HK.out.2.1 HSZ3.out)) ep3.out ep4.out l2.out h2.out).mono ?_
    rintro e u2 ⟨v2, rfl, hv2, hb2⟩
    have HK2 := hcall HK.out HSZ3 hb2
    refine hK.out _ _ ?_ (fun hHeld => ?_)
    · (try dsimp only); exact HK2.1
    clear hK K; try simp only [Act.put, lt, ly, lu]
    rw [hF3.out]
    exact st3_2_n.out _ _ v19 v2 (by kernel_rfl) HK2 (I19.out.keep hb2) hv2
   case k9q236 =>
    intro K hK
    go_simp
    have hb2 := zero6_below u
    have Z2 := zero6_at u
    have hsz := hgrow HK.out HSZ3
    have HK2 := hcall HK.out HSZ3 hb2
    refine hK.out _ _ ?_ (fun hHeld => ?_)
    · (try dsimp only); exact HK2.1
    clear hK K; try simp only [Act.put, lt, ly, lu]
    rw [hF3.out]
    exact st3_1_3.out _ _ v19 u.heap.size (by kernel_rfl) HK2 (I19.out.keep hb2) Z2 hsz
   case k10q236 =>
    intro K hK
    go_simp
    have hb2 := zero6_below u
    have Z2 := zero6_at u
    have hsz := hgrow HK.out HSZ3
    have HK2 := hcall HK.out HSZ3 hb2
    refine hK.out _ _ ?_ (fun hHeld => ?_)
    · (try dsimp only); exact HK2.1
    clear hK K; try simp only [Act.put, lt, ly, lu]
    rw [hF3.out]
    exact st3_1_4.out _ _ v19 u.heap.size (by kernel_rfl) HK2 (I19.out.keep hb2) Z2 hsz
   case k11q236 =>
    intro K hK
    go_simp
    have hb2 := zero6_below u
    have Z2 := zero6_at u
    have hsz := hgrow HK.out HSZ3
    have HK2 := hcall HK.out HSZ3 hb2
    refine hK.out _ _ ?_ (fun hHeld => ?_)
    · (try dsimp only); exact HK2.1
    clear hK K; try simp only [Act.put, lt, ly, lu]
    rw [hF3.out]
    exact st3_1_5.out _ _ v19 u.heap.size (by kernel_rfl) HK2 (I19.out.keep hb2) Z2 hsz
  try simp only [← hA3.out, Act.put, lt, ly, lu] at st3_1_n
  replace st3_1_n := hid st3_1_n
  have st3_0_345 : ∀ (L : Array Bool) (u : World) (n3 n4 n5 : Nat), L = #[true, true, false, true, true, false, true, true, false, true, true, true, false, false, false] → Hid (Held0 w2 NN3 w2 u) → Hid (Zero6 u n3) → NN3 ≤ n3 → Hid (Zero6 u n4) → NN3 ≤ n4 → Hid (Zero6 u n5) → NN3 ≤ n5 → n3 ≠ n4 → n3 ≠ n5 → n4 ≠ n5 → F3 6 L (Act.put (Act.put (Act.put A3 (some 3) (.pointer (some ⟨n3, 0, none⟩))) (some 4) (.pointer (some ⟨n4, 0, none⟩))) (some 5) (.pointer (some ⟨n5, 0, none⟩))) u := by
   intro L u n3 n4 n5 hLL HK Z3 g3 Z4 g4 Z5 g5 ne3_4 ne3_5 ne4_5
   subst hLL
   rw [← hF3.out, ← hA3.out]
   try simp only [Act.put, lt, ly, lu]
   refine wpAnyH_ready (rs := [2]) (by kernel_rfl) (by simp) (AllReadyH.cons (o := ?o2q237) ?e2q237 ?k2q237 AllReadyH.nil)
   case e2q237 => simp only [lg, lz, ls] <;> rfl
   case k2q237 =>
    intro K hK
    go_simp
    go_at_call 29
    refine (box_to (cell_keep HMB2.out (below_eq HK.out.2.1 HSZ3.out)) ep1.out ep2.out l1.out h1.out).mono ?_
    rintro e u2 ⟨v2, rfl, hv2, hb2⟩
    have HK2 := hcall HK.out HSZ3 hb2
    refine hK.out _ _ ?_ (fun hHeld => ?_)
    · (try dsimp only); exact HK2.1
    clear hK K; try simp only [Act.put, lt, ly, lu]
    rw [hF3.out]
    exact st3_1_345.out _ _ v2 n3 n4 n5 (by kernel_rfl) HK2 hv2 (at_keep Z3.out hb2) g3 (at_keep Z4.out hb2) g4 (at_keep Z5.out hb2) g5 ne3_4 ne3_5 ne4_5
  try simp only [← hA3.out, Act.put, lt, ly, lu] at st3_0_345
  replace st3_0_345 := hid st3_0_345
  have st3_0_34 : ∀ (L : Array Bool) (u : World) (n3 n4 : Nat), L = #[true, true, false, true, true, false, true, true, false, true, true, false, false, false, false] → Hid (Held0 w2 NN3 w2 u) → Hid (Zero6 u n3) → NN3 ≤ n3 → Hid (Zero6 u n4) → NN3 ≤ n4 → n3 ≠ n4 → F3 7 L (Act.put (Act.put A3 (some 3) (.pointer (some ⟨n3, 0, none⟩))) (some 4) (.pointer (some ⟨n4, 0, none⟩))) u := by
   intro L u n3 n4 hLL HK Z3 g3 Z4 g4 ne3_4
   subst hLL
   rw [← hF3.out, ← hA3.out]
   try simp only [Act.put, lt, ly, lu]
   refine wpAnyH_ready (rs := [2, 11]) (by kernel_rfl) (by simp) (AllReadyH.cons (o := ?o2q238) ?e2q238 ?k2q238 (AllReadyH.cons (o := ?o11q238) ?e11q238 ?k11q238 AllReadyH.nil))
   case e2q238 => simp only [lg, lz, ls] <;> rfl
   case e11q238 => simp only [lg, lz, ls] <;> rfl
   case k2q238 =>
    intro K hK
    go_simp
    go_at_call 29
    refine (box_to (cell_keep HMB2.out (below_eq HK.out.2.1 HSZ3.out)) ep1.out ep2.out l1.out h1.out).mono ?_
    rintro e u2 ⟨v2, rfl, hv2, hb2⟩
    have HK2 := hcall HK.out HSZ3 hb2
    refine hK.out _ _ ?_ (fun hHeld => ?_)
    · (try dsimp only); exact HK2.1
    clear hK K; try simp only [Act.put, lt, ly, lu]
    rw [hF3.out]
    exact st3_1_34.out _ _ v2 n3 n4 (by kernel_rfl) HK2 hv2 (at_keep Z3.out hb2) g3 (at_keep Z4.out hb2) g4 ne3_4
   case k11q238 =>
    intro K hK
    go_simp
    have hb2 := zero6_below u
    have Z2 := zero6_at u
    have hsz := hgrow HK.out HSZ3
    have HK2 := hcall HK.out HSZ3 hb2
    refine hK.out _ _ ?_ (fun hHeld => ?_)
    · (try dsimp only); exact HK2.1
    clear hK K; try simp only [Act.put, lt, ly, lu]
    rw [hF3.out]
    exact st3_0_345.out _ _ n3 n4 u.heap.size (by kernel_rfl) HK2 (at_keep Z3.out hb2) g3 (at_keep Z4.out hb2) g4 Z2 hsz ne3_4 (Nat.ne_of_lt (at_lt Z3.out)) (Nat.ne_of_lt (at_lt Z4.out))
  try simp only [← hA3.out, Act.put, lt, ly, lu] at st3_0_34
  replace st3_0_34 := hid st3_0_34
  have st3_0_35 : ∀ (L : Array Bool) (u : World) (n3 n5 : Nat), L = #[true, true, false, true, true, false, true, true, false, true, false, true, false, false, false] → Hid (Held0 w2 NN3 w2 u) → Hid (Zero6 u n3) → NN3 ≤ n3 → Hid (Zero6 u n5) → NN3 ≤ n5 → n3 ≠ n5 → F3 7 L (Act.put (Act.put A3 (some 3) (.pointer (some ⟨n3, 0, none⟩))) (some 5) (.pointer (some ⟨n5, 0, none⟩))) u := by
   intro L u n3 n5 hLL HK Z3 g3 Z5 g5 ne3_5
   subst hLL
   rw [← hF3.out, ← hA3.out]
   try simp only [Act.put, lt, ly, lu]
   refine wpAnyH_ready (rs := [2, 10]) (by kernel_rfl) (by simp) (AllReadyH.cons (o := ?o2q239) ?e2q239 ?k2q239 (AllReadyH.cons (o := ?o10q239) ?e10q239 ?k10q239 AllReadyH.nil))
   case e2q239 => simp only [lg, lz, ls] <;> rfl
   case e10q239 => simp only [lg, lz, ls] <;> rfl
   case k2q239 =>
    intro K hK
    go_simp
    go_at_call 29
    refine (box_to (cell_keep HMB2.out (below_eq HK.out.2.1 HSZ3.out)) ep1.out ep2.out l1.out h1.out).mono ?_
    rintro e u2 ⟨v2, rfl, hv2, hb2⟩
    have HK2 := hcall HK.out HSZ3 hb2
    refine hK.out _ _ ?_ (fun hHeld => ?_)
    · (try dsimp only); exact HK2.1
    clear hK K; try simp only [Act.put, lt, ly, lu]
    rw [hF3.out]
    exact st3_1_35.out _ _ v2 n3 n5 (by kernel_rfl) HK2 hv2 (at_keep Z3.out hb2) g3 (at_keep Z5.out hb2) g5 ne3_5
   case k10q239 =>
    intro K hK
    go_simp
    have hb2 := zero6_below u
    have Z2 := zero6_at u
    have hsz := hgrow HK.out HSZ3
    have HK2 := hcall HK.out HSZ3 hb2
    refine hK.out _ _ ?_ (fun hHeld => ?_)
    · (try dsimp only); exact HK2.1
    clear hK K; try simp only [Act.put, lt, ly, lu]
    rw [hF3.out]
    exact st3_0_345.out _ _ n3 u.heap.size n5 (by kernel_rfl) HK2 (at_keep Z3.out hb2) g3 Z2 hsz (at_keep Z5.out hb2) g5 (Nat.ne_of_lt (at_lt Z3.out)) ne3_5 (Nat.ne_of_gt (at_lt Z5.out))
  try simp only [← hA3.out, Act.put, lt, ly, lu] at st3_0_35
  replace st3_0_35 := hid st3_0_35
  have st3_0_45 : ∀ (L : Array Bool) (u : World) (n4 n5 : Nat), L = #[true, true, false, true, true, false, true, true, false, false, true, true, false, false, false] → Hid (Held0 w2 NN3 w2 u) → Hid (Zero6 u n4) → NN3 ≤ n4 → Hid (Zero6 u n5) → NN3 ≤ n5 → n4 ≠ n5 → F3 7 L (Act.put (Act.put A3 (some 4) (.pointer (some ⟨n4, 0, none⟩))) (some 5) (.pointer (some ⟨n5, 0, none⟩))) u := by
   intro L u n4 n5 hLL HK Z4 g4 Z5 g5 ne4_5
   subst hLL
   rw [← hF3.out, ← hA3.out]
   try simp only [Act.put, lt, ly, lu]
   refine wpAnyH_ready (rs := [2, 9]) (by kernel_rfl) (by simp) (AllReadyH.cons (o := ?o2q240) ?e2q240 ?k2q240 (AllReadyH.cons (o := ?o9q240) ?e9q240 ?k9q240 AllReadyH.nil))
   case e2q240 => simp only [lg, lz, ls] <;> rfl
   case e9q240 => simp only [lg, lz, ls] <;> rfl
   case k2q240 =>
    intro K hK
    go_simp
    go_at_call 29
    refine (box_to (cell_keep HMB2.out (below_eq HK.out.2.1 HSZ3.out)) ep1.out ep2.out l1.out h1.out).mono ?_
    rintro e u2 ⟨v2, rfl, hv2, hb2⟩
    have HK2 := hcall HK.out HSZ3 hb2
    refine hK.out _ _ ?_ (fun hHeld => ?_)
    · (try dsimp only); exact HK2.1
    clear hK K; try simp only [Act.put, lt, ly, lu]
    rw [hF3.out]
    exact st3_1_45.out _ _ v2 n4 n5 (by kernel_rfl) HK2 hv2 (at_keep Z4.out hb2) g4 (at_keep Z5.out hb2) g5 ne4_5
   case k9q240 =>
    intro K hK
    go_simp
    have hb2 := zero6_below u
    have Z2 := zero6_at u
    have hsz := hgrow HK.out HSZ3
    have HK2 := hcall HK.out HSZ3 hb2
    refine hK.out _ _ ?_ (fun hHeld => ?_)
    · (try dsimp only); exact HK2.1
    clear hK K; try simp only [Act.put, lt, ly, lu]
    rw [hF3.out]
    exact st3_0_345.out _ _ u.heap.size n4 n5 (by kernel_rfl) HK2 Z2 hsz (at_keep Z4.out hb2) g4 (at_keep Z5.out hb2) g5 (Nat.ne_of_gt (at_lt Z4.out)) (Nat.ne_of_gt (at_lt Z5.out)) ne4_5
  try simp only [← hA3.out, Act.put, lt, ly, lu] at st3_0_45
  replace st3_0_45 := hid st3_0_45
  have st3_0_3 : ∀ (L : Array Bool) (u : World) (n3 : Nat), L = #[true, true, false, true, true, false, true, true, false, true, false, false, false, false, false] → Hid (Held0 w2 NN3 w2 u) → Hid (Zero6 u n3) → NN3 ≤ n3 → F3 8 L (Act.put A3 (some 3) (.pointer (some ⟨n3, 0, none⟩))) u := by
   intro L u n3 hLL HK Z3 g3
   subst hLL
   rw [← hF3.out, ← hA3.out]
   try simp only [Act.put, lt, ly, lu]
   refine wpAnyH_ready (rs := [2, 10, 11]) (by kernel_rfl) (by simp) (AllReadyH.cons (o := ?o2q241) ?e2q241 ?k2q241 (AllReadyH.cons (o := ?o10q241) ?e10q241 ?k10q241 (AllReadyH.cons (o := ?o11q241) ?e11q241 ?k11q241 AllReadyH.nil)))
   case e2q241 => simp only [lg, lz, ls] <;> rfl
   case e10q241 => simp only [lg, lz, ls] <;> rfl
   case e11q241 => simp only [lg, lz, ls] <;> rfl
   case k2q241 =>
    intro K hK
    go_simp
    go_at_call 29
    refine (box_to (cell_keep HMB2.out (below_eq HK.out.2.1 HSZ3.out)) ep1.out ep2.out l1.out h1.out).mono ?_
    rintro e u2 ⟨v2, rfl, hv2, hb2⟩
    have HK2 := hcall HK.out HSZ3 hb2
    refine hK.out _ _ ?_ (fun hHeld => ?_)
    · (try dsimp only); exact HK2.1
    clear hK K; try simp only [Act.put, lt, ly, lu]
    rw [hF3.out]
    exact st3_1_3.out _ _ v2 n3 (by kernel_rfl) HK2 hv2 (at_keep Z3.out hb2) g3
   case k10q241 =>
    intro K hK
    go_simp
    have hb2 := zero6_below u
    have Z2 := zero6_at u
    have hsz := hgrow HK.out HSZ3
    have HK2 := hcall HK.out HSZ3 hb2
    refine hK.out _ _ ?_ (fun hHeld => ?_)
    · (try dsimp only); exact HK2.1
    clear hK K; try simp only [Act.put, lt, ly, lu]
    rw [hF3.out]
    exact st3_0_34.out _ _ n3 u.heap.size (by kernel_rfl) HK2 (at_keep Z3.out hb2) g3 Z2 hsz (Nat.ne_of_lt (at_lt Z3.out))
   case k11q241 =>
    intro K hK
    go_simp
    have hb2 := zero6_below u
    have Z2 := zero6_at u
    have hsz := hgrow HK.out HSZ3
    have HK2 := hcall HK.out HSZ3 hb2
    refine hK.out _ _ ?_ (fun hHeld => ?_)
    · (try dsimp only); exact HK2.1
    clear hK K; try simp only [Act.put, lt, ly, lu]
    rw [hF3.out]
    exact st3_0_35.out _ _ n3 u.heap.size (by kernel_rfl) HK2 (at_keep Z3.out hb2) g3 Z2 hsz (Nat.ne_of_lt (at_lt Z3.out))
  try simp only [← hA3.out, Act.put, lt, ly, lu] at st3_0_3
  replace st3_0_3 := hid st3_0_3
  have st3_0_4 : ∀ (L : Array Bool) (u : World) (n4 : Nat), L = #[true, true, false, true, true, false, true, true, false, false, true, false, false, false, false] → Hid (Held0 w2 NN3 w2 u) → Hid (Zero6 u n4) → NN3 ≤ n4 → F3 8 L (Act.put A3 (some 4) (.pointer (some ⟨n4, 0, none⟩))) u := by
   intro L u n4 hLL HK Z4 g4
   subst hLL
   rw [← hF3.out, ← hA3.out]
   try simp only [Act.put, lt, ly, lu]
   refine wpAnyH_ready (rs := [2, 9, 11]) (by kernel_rfl) (by simp) (AllReadyH.cons (o := ?o2q242) ?e2q242 ?k2q242 (AllReadyH.cons (o := ?o9q242) ?e9q242 ?k9q242 (AllReadyH.cons (o := ?o11q242) ?e11q242 ?k11q242 AllReadyH.nil)))
   case e2q242 => simp only [lg, lz, ls] <;> rfl
   case e9q242 => simp only [lg, lz, ls] <;> rfl
   case e11q242 => simp only [lg, lz, ls] <;> rfl
   case k2q242 =>
    intro K hK
    go_simp
    go_at_call 29
    refine (box_to (cell_keep HMB2.out (below_eq HK.out.2.1 HSZ3.out)) ep1.out ep2.out l1.out h1.out).mono ?_
    rintro e u2 ⟨v2, rfl, hv2, hb2⟩
    have HK2 := hcall HK.out HSZ3 hb2
    refine hK.out _ _ ?_ (fun hHeld => ?_)
    · (try dsimp only); exact HK2.1
    clear hK K; try simp only [Act.put, lt, ly, lu]
    rw [hF3.out]
    exact st3_1_4.out _ _ v2 n4 (by kernel_rfl) HK2 hv2 (at_keep Z4.out hb2) g4
   case k9q242 =>
    intro K hK
    go_simp
    have hb2 := zero6_below u
    have Z2 := zero6_at u
    have hsz := hgrow HK.out HSZ3
    have HK2 := hcall HK.out HSZ3 hb2
    refine hK.out _ _ ?_ (fun hHeld => ?_)
    · (try dsimp only); exact HK2.1
    clear hK K; try simp only [Act.put, lt, ly, lu]
    rw [hF3.out]
    exact st3_0_34.out _ _ u.heap.size n4 (by kernel_rfl) HK2 Z2 hsz (at_keep Z4.out hb2) g4 (Nat.ne_of_gt (at_lt Z4.out))
   case k11q242 =>
    intro K hK
    go_simp
    have hb2 := zero6_below u
    have Z2 := zero6_at u
    have hsz := hgrow HK.out HSZ3
    have HK2 := hcall HK.out HSZ3 hb2
    refine hK.out _ _ ?_ (fun hHeld => ?_)
    · (try dsimp only); exact HK2.1
    clear hK K; try simp only [Act.put, lt, ly, lu]
    rw [hF3.out]
    exact st3_0_45.out _ _ n4 u.heap.size (by kernel_rfl) HK2 (at_keep Z4.out hb2) g4 Z2 hsz (Nat.ne_of_lt (at_lt Z4.out))
  try simp only [← hA3.out, Act.put, lt, ly, lu] at st3_0_4
  replace st3_0_4 := hid st3_0_4
  have st3_0_5 : ∀ (L : Array Bool) (u : World) (n5 : Nat), L = #[true, true, false, true, true, false, true, true, false, false, false, true, false, false, false] → Hid (Held0 w2 NN3 w2 u) → Hid (Zero6 u n5) → NN3 ≤ n5 → F3 8 L (Act.put A3 (some 5) (.pointer (some ⟨n5, 0, none⟩))) u := by
   intro L u n5 hLL HK Z5 g5
   subst hLL
   rw [← hF3.out, ← hA3.out]
   try simp only [Act.put, lt, ly, lu]
   refine wpAnyH_ready (rs := [2, 9, 10]) (by kernel_rfl) (by simp) (AllReadyH.cons (o := ?o2q243) ?e2q243 ?k2q243 (AllReadyH.cons (o := ?o9q243) ?e9q243 ?k9q243 (AllReadyH.cons (o := ?o10q243) ?e10q243 ?k10q243 AllReadyH.nil)))
   case e2q243 => simp only [lg, lz, ls] <;> rfl
   case e9q243 => simp only [lg, lz, ls] <;> rfl
   case e10q243 => simp only [lg, lz, ls] <;> rfl
   case k2q243 =>
    intro K hK
    go_simp
    go_at_call 29
    refine (box_to (cell_keep HMB2.out (below_eq HK.out.2.1 HSZ3.out)) ep1.out ep2.out l1.out h1.out).mono ?_
    rintro e u2 ⟨v2, rfl, hv2, hb2⟩
    have HK2 := hcall HK.out HSZ3 hb2
    refine hK.out _ _ ?_ (fun hHeld => ?_)
    · (try dsimp only); exact HK2.1
    clear hK K; try simp only [Act.put, lt, ly, lu]
    rw [hF3.out]
    exact st3_1_5.out _ _ v2 n5 (by kernel_rfl) HK2 hv2 (at_keep Z5.out hb2) g5
   case k9q243 =>
    intro K hK
    go_simp
    have hb2 := zero6_below u
    have Z2 := zero6_at u
    have hsz := hgrow HK.out HSZ3
    have HK2 := hcall HK.out HSZ3 hb2
    refine hK.out _ _ ?_ (fun hHeld => ?_)
    · (try dsimp only); exact HK2.1
    clear hK K; try simp only [Act.put, lt, ly, lu]
    rw [hF3.out]
    exact st3_0_35.out _ _ u.heap.size n5 (by kernel_rfl) HK2 Z2 hsz (at_keep Z5.out hb2) g5 (Nat.ne_of_gt (at_lt Z5.out))
   case k10q243 =>
    intro K hK
    go_simp
    have hb2 := zero6_below u
    have Z2 := zero6_at u
    have hsz := hgrow HK.out HSZ3
    have HK2 := hcall HK.out HSZ3 hb2
    refine hK.out _ _ ?_ (fun hHeld => ?_)
    · (try dsimp only); exact HK2.1
    clear hK K; try simp only [Act.put, lt, ly, lu]
    rw [hF3.out]
    exact st3_0_45.out _ _ u.heap.size n5 (by kernel_rfl) HK2 Z2 hsz (at_keep Z5.out hb2) g5 (Nat.ne_of_gt (at_lt Z5.out))
  try simp only [← hA3.out, Act.put, lt, ly, lu] at st3_0_5
  replace st3_0_5 := hid st3_0_5
  have st3_0_n : ∀ (L : Array Bool) (u : World), L = #[true, true, false, true, true, false, true, true, false, false, false, false, false, false, false] → Hid (Held0 w2 NN3 w2 u) → F3 9 L A3 u := by
   intro L u  hLL HK
   subst hLL
   rw [← hF3.out, ← hA3.out]
   try simp only [Act.put, lt, ly, lu]
   refine wpAnyH_ready (rs := [2, 9, 10, 11]) (by kernel_rfl) (by simp) (AllReadyH.cons (o := ?o2q244) ?e2q244 ?k2q244 (AllReadyH.cons (o := ?o9q244) ?e9q244 ?k9q244 (AllReadyH.cons (o := ?o10q244) ?e10q244 ?k10q244 (AllReadyH.cons (o := ?o11q244) ?e11q244 ?k11q244 AllReadyH.nil))))
   case e2q244 => simp only [lg, lz, ls] <;> rfl
   case e9q244 => simp only [lg, lz, ls] <;> rfl
   case e10q244 => simp only [lg, lz, ls] <;> rfl
   case e11q244 => simp only [lg, lz, ls] <;> rfl
   case k2q244 =>
    intro K hK
    go_simp
    go_at_call 29
    refine (box_to (cell_keep HMB2.out (below_eq HK.out.2.1 HSZ3.out)) ep1.out ep2.out l1.out h1.out).mono ?_
    rintro e u2 ⟨v2, rfl, hv2, hb2⟩
    have HK2 := hcall HK.out HSZ3 hb2
    refine hK.out _ _ ?_ (fun hHeld => ?_)
    · (try dsimp only); exact HK2.1
    clear hK K; try simp only [Act.put, lt, ly, lu]
    rw [hF3.out]
    exact st3_1_n.out _ _ v2 (by kernel_rfl) HK2 hv2
   case k9q244 =>
    intro K hK
    go_simp
    have hb2 := zero6_below u
    have Z2 := zero6_at u
    have hsz := hgrow HK.out HSZ3
    have HK2 := hcall HK.out HSZ3 hb2
    refine hK.out _ _ ?_ (fun hHeld => ?_)
    · (try dsimp only); exact HK2.1
    clear hK K; try simp only [Act.put, lt, ly, lu]
    rw [hF3.out]
    exact st3_0_3.out _ _ u.heap.size (by kernel_rfl) HK2 Z2 hsz
   case k10q244 =>
    intro K hK
    go_simp
    have hb2 := zero6_below u
    have Z2 := zero6_at u
    have hsz := hgrow HK.out HSZ3
    have HK2 := hcall HK.out HSZ3 hb2
    refine hK.out _ _ ?_ (fun hHeld => ?_)
    · (try dsimp only); exact HK2.1
    clear hK K; try simp only [Act.put, lt, ly, lu]
    rw [hF3.out]
    exact st3_0_4.out _ _ u.heap.size (by kernel_rfl) HK2 Z2 hsz
   case k11q244 =>
    intro K hK
    go_simp
    have hb2 := zero6_below u
    have Z2 := zero6_at u
    have hsz := hgrow HK.out HSZ3
    have HK2 := hcall HK.out HSZ3 hb2
    refine hK.out _ _ ?_ (fun hHeld => ?_)
    · (try dsimp only); exact HK2.1
    clear hK K; try simp only [Act.put, lt, ly, lu]
    rw [hF3.out]
    exact st3_0_5.out _ _ u.heap.size (by kernel_rfl) HK2 Z2 hsz
  try simp only [← hA3.out, Act.put, lt, ly, lu] at st3_0_n
  replace st3_0_n := hid st3_0_n
  have HA := hA3.out
  subst HA
  exact st3_0_n.out _ _ (by kernel_rfl) H0h

theorem grows_any {w : World} {s1 s2 s3 s4 s5 s6 : ByteArray} {m n p : Nat} {mx : Int} (hm : m ≤ 255) (hn : n ≤ 255) (hM : w.cell? ⟨1, 0, none⟩ = some (.int .i64 mx)) (hT : TabAt 0 Lib.deBruijn64tab w) :
    Calls Tryz.prog 7 #[.agg #[.string s1, .string s2, .string s3, .string s4, .string s5, .string s6, .int .u8 (m : Nat), .int .u8 (n : Nat), .int .u8 (p : Nat)]] w (BoolRet w true) := by
  rcases hw : [s1, s2, s3, s4, s5, s6].any (fun s => decide (40 < s.size)) with _ | _
  · exact grows_main rfl rfl rfl rfl rfl rfl rfl rfl rfl rfl rfl rfl hw hm hn hM hT
  · exact grows_wide hw hM hT
end Go.Proofs.YtpfnckhfklgoaaaGreatDoor
