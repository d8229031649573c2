/-
  Contracts of the functions that the law calls, for every input (Roo).
-/
import Derived.Test.YtfppimacnhcflaaGreatDoorS04
import Derived.Test.YtfppimacnhcflaaGreatDoorS01
import Derived.Test.YtfppimacnhcflaaGreatDoorS03
set_option linter.all false
set_option maxRecDepth 100000
set_option maxHeartbeats 40000000
namespace Go.Proofs.YtfppimacnhcflaaGreatDoor.Rf
open Lib (hid)
open Go.RowKit
open Rx
open Vx (siz siz_num siz_den)
open List renaming getElem?_toArray → lg, getElem?_cons_zero → lz, getElem?_cons_succ → ls, setIfInBounds_toArray → lt, set_cons_zero → ly, set_cons_succ → lu
theorem ends_le {p q l h : Rat} (el : (if q < p then q else p) = l) (eh : (if q < p then p else q) = h) : l ≤ h := by
  subst el eh
  split
  · rename_i k; exact Rat.le_of_lt k
  · rename_i k; exact Rat.not_lt.1 k
theorem ends_siz {p q l h : Rat} {n : Nat} (el : (if q < p then q else p) = l) (eh : (if q < p then p else q) = h) (hp : siz p ≤ n) (hq : siz q ≤ n) : siz l ≤ n ∧ siz h ≤ n := by
  subst el eh
  split
  · exact ⟨hq, hp⟩
  · exact ⟨hp, hq⟩
theorem out_range {w : World} {vx vy : Value} {a b g o : Rat} (ho : 0 = o) (hg : g.num.sign ≤ 0) (hx : IsBox w vx a b) (hy : IsNum w vy g) :
    Calls Tryz.prog 81 #[vx, vy] w (BoxErrRet w o o 3) := by
  obtain ⟨n, en⟩ : ∃ z : Int, g.num.sign = z := ⟨_, rfl⟩
  have d1 : decide (n ≤ 0) = true := decide_eq_true (by rw [← en]; exact hg)
  replace en := hid en
  clear hg
  replace ho := hid ho
  obtain ⟨C1, j1, C2, j2, C3, j3, C4, j4, rfl, hxl, hxh⟩ := id hx.opened
  replace hx := hid hx
  replace hxl := hid hxl
  replace hxh := hid hxh
  obtain ⟨C5, j5, C6, j6, rfl, -, -⟩ := id hy.opened
  replace hy := hid hy
  obtain ⟨w1, hw1⟩ : ∃ u, u = (((w.alloc (.cells #[.bool (decide (a.num < 0)), .slice C1 (Vx.len a.num.natAbs) j1, .slice C2 (Vx.len (below a.den)) j2, .bool (decide (b.num < 0)), .slice C3 (Vx.len b.num.natAbs) j3, .slice C4 (Vx.len (below b.den)) j4] 71)).alloc (.cells #[.bool (decide (g.num < 0)), .slice C5 (Vx.len g.num.natAbs) j5, .slice C6 (Vx.len (below g.den)) j6] 25)).alloc (.cells #[.bool false, .slice none 0 0, .slice none 0 0, .bool false, .slice none 0 0, .slice none 0 0] 71)) := ⟨_, rfl⟩
  obtain ⟨b1, g1, g2, g3⟩ := news3' hw1
  replace g1 := hid g1
  replace g2 := hid g2
  replace g3 := hid g3
  replace b1 := hid b1
  go_enter Tryz.func81, Tryz.ntmps81
  go_upto_region 1 with fail
  rw [← hw1]
  clear hw1
  obtain ⟨z_y_0, z_y_1, z_y_2⟩ := cells3 g2.out
  have HX := hid (sign_val en.out (hy.out.keep b1.out))
  go_wp2_with fail
  refine (HX.out).mono ?_
  rintro e w2 ⟨rfl, b2⟩
  replace b2 := hid b2
  clear HX
  clear z_y_0 z_y_1 z_y_2
  have DR := (at_keep g3.out b2.out)
  have q0 : w2.cell? ⟨w.heap.size + 2, 0, none⟩ = some (.bool false) := cell_of_row _ _ _ _ _ _ DR
  have F0 : w2.frozen? ⟨w.heap.size + 2, 0, none⟩ = false := frozen_of_row w2 (w.heap.size + 2) 0 _ _ DR
  have q1 : w2.cell? ⟨w.heap.size + 2, 1, none⟩ = some (.slice none 0 0) := cell_of_row _ _ _ _ _ _ DR
  have F1 : w2.frozen? ⟨w.heap.size + 2, 1, none⟩ = false := frozen_of_row w2 (w.heap.size + 2) 1 _ _ DR
  have q2 : w2.cell? ⟨w.heap.size + 2, 2, none⟩ = some (.slice none 0 0) := cell_of_row _ _ _ _ _ _ DR
  have F2 : w2.frozen? ⟨w.heap.size + 2, 2, none⟩ = false := frozen_of_row w2 (w.heap.size + 2) 2 _ _ DR
  have q3 : w2.cell? ⟨w.heap.size + 2, 3, none⟩ = some (.bool false) := cell_of_row _ _ _ _ _ _ DR
  have F3 : w2.frozen? ⟨w.heap.size + 2, 3, none⟩ = false := frozen_of_row w2 (w.heap.size + 2) 3 _ _ DR
  have q4 : w2.cell? ⟨w.heap.size + 2, 4, none⟩ = some (.slice none 0 0) := cell_of_row _ _ _ _ _ _ DR
  have F4 : w2.frozen? ⟨w.heap.size + 2, 4, none⟩ = false := frozen_of_row w2 (w.heap.size + 2) 4 _ _ DR
  have q5 : w2.cell? ⟨w.heap.size + 2, 5, none⟩ = some (.slice none 0 0) := cell_of_row _ _ _ _ _ _ DR
  have F5 : w2.frozen? ⟨w.heap.size + 2, 5, none⟩ = false := frozen_of_row w2 (w.heap.size + 2) 5 _ _ DR
  have y0_2 := hid (Below.step b1.out b2.out)
  have FB := y0_2.out
  have FV := (show IsBox w2 (.agg #[.bool false, .slice none 0 0, .slice none 0 0, .bool false, .slice none 0 0, .slice none 0 0]) o o by rw [← ho.out]; exact IsNum.pair (zero_num _) (zero_num _))
  obtain ⟨ue, hw⟩ : ∃ z, z = ((((((w2.setCell ⟨w.heap.size + 2, 0, none⟩ (.bool false)).setCell ⟨w.heap.size + 2, 1, none⟩ (.slice none 0 0)).setCell ⟨w.heap.size + 2, 2, none⟩ (.slice none 0 0)).setCell ⟨w.heap.size + 2, 3, none⟩ (.bool false)).setCell ⟨w.heap.size + 2, 4, none⟩ (.slice none 0 0)).setCell ⟨w.heap.size + 2, 5, none⟩ (.slice none 0 0)) := ⟨_, rfl⟩
  obtain ⟨E_ue, -, LV, BL⟩ := stored6 DR hw
  have FE := hid (LV.box FV)
  replace FB := hid (BL _ _ (by omega) FB)
  replace E_ue := hid E_ue
  replace hw := hid hw
  clear DR FV LV BL
  go_wp2_with fail
  rw [← hw.out]
  obtain ⟨r0, r1, r2, r3, r4, r5⟩ := cells6 E_ue.out
  refine bodyPost_ret (v := .tuple #[.agg #[.bool false, .slice none 0 0, .slice none 0 0, .bool false, .slice none 0 0, .slice none 0 0], .int .i64 3]) ?_ rfl ⟨_, rfl, FE.out, FB.out⟩
  simp [results, Tryz.results81, go_sem, r0, r1, r2, r3, r4, r5]
theorem root_range {w : World} {vx vy : Value} {a b g o : Rat} (ho : 0 = o) (hg : g.num.sign ≤ 0) (hx : IsBox w vx a b) (hy : IsNum w vy g) :
    Calls Tryz.prog 80 #[vx, vy] w (BoxErrRet w o o 3) := by
  obtain ⟨n, en⟩ : ∃ z : Int, g.num.sign = z := ⟨_, rfl⟩
  have d1 : decide (n ≤ 0) = true := decide_eq_true (by rw [← en]; exact hg)
  replace en := hid en
  clear hg
  replace ho := hid ho
  obtain ⟨C1, j1, C2, j2, C3, j3, C4, j4, rfl, hxl, hxh⟩ := id hx.opened
  replace hx := hid hx
  replace hxl := hid hxl
  replace hxh := hid hxh
  obtain ⟨C5, j5, C6, j6, rfl, -, -⟩ := id hy.opened
  replace hy := hid hy
  obtain ⟨w1, hw1⟩ : ∃ u, u = (((w.alloc (.cells #[.bool (decide (a.num < 0)), .slice C1 (Vx.len a.num.natAbs) j1, .slice C2 (Vx.len (below a.den)) j2, .bool (decide (b.num < 0)), .slice C3 (Vx.len b.num.natAbs) j3, .slice C4 (Vx.len (below b.den)) j4] 71)).alloc (.cells #[.bool (decide (g.num < 0)), .slice C5 (Vx.len g.num.natAbs) j5, .slice C6 (Vx.len (below g.den)) j6] 25)).alloc (.cells #[.bool false, .slice none 0 0, .slice none 0 0, .bool false, .slice none 0 0, .slice none 0 0] 71)) := ⟨_, rfl⟩
  obtain ⟨b1, g1, g2, g3⟩ := news3' hw1
  replace g1 := hid g1
  replace g2 := hid g2
  replace g3 := hid g3
  replace b1 := hid b1
  go_enter Tryz.func80, Tryz.ntmps80
  go_upto_region 1 with fail
  rw [← hw1]
  clear hw1
  obtain ⟨z_y_0, z_y_1, z_y_2⟩ := cells3 g2.out
  have HX := hid (sign_val en.out (hy.out.keep b1.out))
  go_wp2_with fail
  refine (HX.out).mono ?_
  rintro e w2 ⟨rfl, b2⟩
  replace b2 := hid b2
  clear HX
  clear z_y_0 z_y_1 z_y_2
  have DR := (at_keep g3.out b2.out)
  have q0 : w2.cell? ⟨w.heap.size + 2, 0, none⟩ = some (.bool false) := cell_of_row _ _ _ _ _ _ DR
  have F0 : w2.frozen? ⟨w.heap.size + 2, 0, none⟩ = false := frozen_of_row w2 (w.heap.size + 2) 0 _ _ DR
  have q1 : w2.cell? ⟨w.heap.size + 2, 1, none⟩ = some (.slice none 0 0) := cell_of_row _ _ _ _ _ _ DR
  have F1 : w2.frozen? ⟨w.heap.size + 2, 1, none⟩ = false := frozen_of_row w2 (w.heap.size + 2) 1 _ _ DR
  have q2 : w2.cell? ⟨w.heap.size + 2, 2, none⟩ = some (.slice none 0 0) := cell_of_row _ _ _ _ _ _ DR
  have F2 : w2.frozen? ⟨w.heap.size + 2, 2, none⟩ = false := frozen_of_row w2 (w.heap.size + 2) 2 _ _ DR
  have q3 : w2.cell? ⟨w.heap.size + 2, 3, none⟩ = some (.bool false) := cell_of_row _ _ _ _ _ _ DR
  have F3 : w2.frozen? ⟨w.heap.size + 2, 3, none⟩ = false := frozen_of_row w2 (w.heap.size + 2) 3 _ _ DR
  have q4 : w2.cell? ⟨w.heap.size + 2, 4, none⟩ = some (.slice none 0 0) := cell_of_row _ _ _ _ _ _ DR
  have F4 : w2.frozen? ⟨w.heap.size + 2, 4, none⟩ = false := frozen_of_row w2 (w.heap.size + 2) 4 _ _ DR
  have q5 : w2.cell? ⟨w.heap.size + 2, 5, none⟩ = some (.slice none 0 0) := cell_of_row _ _ _ _ _ _ DR
  have F5 : w2.frozen? ⟨w.heap.size + 2, 5, none⟩ = false := frozen_of_row w2 (w.heap.size + 2) 5 _ _ DR
  have y0_2 := hid (Below.step b1.out b2.out)
  have FB := y0_2.out
  have FV := (show IsBox w2 (.agg #[.bool false, .slice none 0 0, .slice none 0 0, .bool false, .slice none 0 0, .slice none 0 0]) o o by rw [← ho.out]; exact IsNum.pair (zero_num _) (zero_num _))
  obtain ⟨ue, hw⟩ : ∃ z, z = ((((((w2.setCell ⟨w.heap.size + 2, 0, none⟩ (.bool false)).setCell ⟨w.heap.size + 2, 1, none⟩ (.slice none 0 0)).setCell ⟨w.heap.size + 2, 2, none⟩ (.slice none 0 0)).setCell ⟨w.heap.size + 2, 3, none⟩ (.bool false)).setCell ⟨w.heap.size + 2, 4, none⟩ (.slice none 0 0)).setCell ⟨w.heap.size + 2, 5, none⟩ (.slice none 0 0)) := ⟨_, rfl⟩
  obtain ⟨E_ue, -, LV, BL⟩ := stored6 DR hw
  have FE := hid (LV.box FV)
  replace FB := hid (BL _ _ (by omega) FB)
  replace E_ue := hid E_ue
  replace hw := hid hw
  clear DR FV LV BL
  go_wp2_with fail
  rw [← hw.out]
  obtain ⟨r0, r1, r2, r3, r4, r5⟩ := cells6 E_ue.out
  refine bodyPost_ret (v := .tuple #[.agg #[.bool false, .slice none 0 0, .slice none 0 0, .bool false, .slice none 0 0, .slice none 0 0], .int .i64 3]) ?_ rfl ⟨_, rfl, FE.out, FB.out⟩
  simp [results, Tryz.results80, go_sem, r0, r1, r2, r3, r4, r5]
theorem root_minus {w : World} {vx vy : Value} {a b g o : Rat} (ho : 0 = o) (hg : 0 < g.num.sign) (ha : a.num.sign < 0) (hx : IsBox w vx a b) (hy : IsNum w vy g) :
    Calls Tryz.prog 80 #[vx, vy] w (BoxErrRet w o o 11) := by
  obtain ⟨n, en⟩ : ∃ z : Int, g.num.sign = z := ⟨_, rfl⟩
  obtain ⟨m, em⟩ : ∃ z : Int, a.num.sign = z := ⟨_, rfl⟩
  have d1 : decide (n ≤ 0) = false := decide_eq_false (by rw [← en]; omega)
  have d2 : decide (m < 0) = true := decide_eq_true (by rw [← em]; exact ha)
  replace en := hid en
  replace em := hid em
  clear hg ha
  replace ho := hid ho
  obtain ⟨C1, j1, C2, j2, C3, j3, C4, j4, rfl, hxl, hxh⟩ := id hx.opened
  replace hx := hid hx
  replace hxl := hid hxl
  replace hxh := hid hxh
  obtain ⟨C5, j5, C6, j6, rfl, -, -⟩ := id hy.opened
  replace hy := hid hy
  obtain ⟨w1, hw1⟩ : ∃ u, u = (((w.alloc (.cells #[.bool (decide (a.num < 0)), .slice C1 (Vx.len a.num.natAbs) j1, .slice C2 (Vx.len (below a.den)) j2, .bool (decide (b.num < 0)), .slice C3 (Vx.len b.num.natAbs) j3, .slice C4 (Vx.len (below b.den)) j4] 71)).alloc (.cells #[.bool (decide (g.num < 0)), .slice C5 (Vx.len g.num.natAbs) j5, .slice C6 (Vx.len (below g.den)) j6] 25)).alloc (.cells #[.bool false, .slice none 0 0, .slice none 0 0, .bool false, .slice none 0 0, .slice none 0 0] 71)) := ⟨_, rfl⟩
  obtain ⟨b1, g1, g2, g3⟩ := news3' hw1
  replace g1 := hid g1
  replace g2 := hid g2
  replace g3 := hid g3
  replace b1 := hid b1
  go_enter Tryz.func80, Tryz.ntmps80
  go_upto_region 1 with fail
  rw [← hw1]
  clear hw1
  obtain ⟨z_y_0, z_y_1, z_y_2⟩ := cells3 g2.out
  have HX := hid (sign_val en.out (hy.out.keep b1.out))
  go_wp2_with fail
  refine (HX.out).mono ?_
  rintro e w2 ⟨rfl, b2⟩
  replace b2 := hid b2
  clear HX
  clear z_y_0 z_y_1 z_y_2
  obtain ⟨z_x_0, z_x_1, z_x_2, z_x_3, z_x_4, z_x_5⟩ := cells6 (at_keep g1.out b2.out)
  have y0_2 := hid (Below.step b1.out b2.out)
  have HX := hid (sign_val em.out (hxl.out.keep y0_2.out))
  go_wp2_with fail
  refine (HX.out).mono ?_
  rintro e w3 ⟨rfl, b3⟩
  replace b3 := hid b3
  clear HX
  clear z_x_0 z_x_1 z_x_2 z_x_3 z_x_4 z_x_5
  have y1_3 := hid (Below.step b2.out b3.out)
  have DR := (at_keep g3.out y1_3.out)
  have q0 : w3.cell? ⟨w.heap.size + 2, 0, none⟩ = some (.bool false) := cell_of_row _ _ _ _ _ _ DR
  have F0 : w3.frozen? ⟨w.heap.size + 2, 0, none⟩ = false := frozen_of_row w3 (w.heap.size + 2) 0 _ _ DR
  have q1 : w3.cell? ⟨w.heap.size + 2, 1, none⟩ = some (.slice none 0 0) := cell_of_row _ _ _ _ _ _ DR
  have F1 : w3.frozen? ⟨w.heap.size + 2, 1, none⟩ = false := frozen_of_row w3 (w.heap.size + 2) 1 _ _ DR
  have q2 : w3.cell? ⟨w.heap.size + 2, 2, none⟩ = some (.slice none 0 0) := cell_of_row _ _ _ _ _ _ DR
  have F2 : w3.frozen? ⟨w.heap.size + 2, 2, none⟩ = false := frozen_of_row w3 (w.heap.size + 2) 2 _ _ DR
  have q3 : w3.cell? ⟨w.heap.size + 2, 3, none⟩ = some (.bool false) := cell_of_row _ _ _ _ _ _ DR
  have F3 : w3.frozen? ⟨w.heap.size + 2, 3, none⟩ = false := frozen_of_row w3 (w.heap.size + 2) 3 _ _ DR
  have q4 : w3.cell? ⟨w.heap.size + 2, 4, none⟩ = some (.slice none 0 0) := cell_of_row _ _ _ _ _ _ DR
  have F4 : w3.frozen? ⟨w.heap.size + 2, 4, none⟩ = false := frozen_of_row w3 (w.heap.size + 2) 4 _ _ DR
  have q5 : w3.cell? ⟨w.heap.size + 2, 5, none⟩ = some (.slice none 0 0) := cell_of_row _ _ _ _ _ _ DR
  have F5 : w3.frozen? ⟨w.heap.size + 2, 5, none⟩ = false := frozen_of_row w3 (w.heap.size + 2) 5 _ _ DR
  have y0_3 := hid (Below.step y0_2.out b3.out)
  have FB := y0_3.out
  have FV := (show IsBox w3 (.agg #[.bool false, .slice none 0 0, .slice none 0 0, .bool false, .slice none 0 0, .slice none 0 0]) o o by rw [← ho.out]; exact IsNum.pair (zero_num _) (zero_num _))
  obtain ⟨ue, hw⟩ : ∃ z, z = ((((((w3.setCell ⟨w.heap.size + 2, 0, none⟩ (.bool false)).setCell ⟨w.heap.size + 2, 1, none⟩ (.slice none 0 0)).setCell ⟨w.heap.size + 2, 2, none⟩ (.slice none 0 0)).setCell ⟨w.heap.size + 2, 3, none⟩ (.bool false)).setCell ⟨w.heap.size + 2, 4, none⟩ (.slice none 0 0)).setCell ⟨w.heap.size + 2, 5, none⟩ (.slice none 0 0)) := ⟨_, rfl⟩
  obtain ⟨E_ue, -, LV, BL⟩ := stored6 DR hw
  have FE := hid (LV.box FV)
  replace FB := hid (BL _ _ (by omega) FB)
  replace E_ue := hid E_ue
  replace hw := hid hw
  clear DR FV LV BL
  go_wp2_with fail
  rw [← hw.out]
  obtain ⟨r0, r1, r2, r3, r4, r5⟩ := cells6 E_ue.out
  refine bodyPost_ret (v := .tuple #[.agg #[.bool false, .slice none 0 0, .slice none 0 0, .bool false, .slice none 0 0, .slice none 0 0], .int .i64 11]) ?_ rfl ⟨_, rfl, FE.out, FB.out⟩
  simp [results, Tryz.results80, go_sem, r0, r1, r2, r3, r4, r5]
theorem roots_long1 {w : World} {s1 s2 s3 : ByteArray} {mx : Int} (h1 : 40 < s1.size) (hM : w.cell? ⟨3, 0, none⟩ = some (.int .i64 mx)) (hT : TabAt 0 Lib.deBruijn64tab w) :
    Calls Tryz.prog 9 #[.agg #[.string s1, .string s2], .string s3] w (BoolRet w true) := by
  have d1 : decide (((s1.size : Nat) : Int) > 40) = true := decide_eq_true (by omega)
  have d1' : (((s1.size : Nat) : Int) > 40) := by omega
  clear h1
  replace hM := hid hM
  replace hT := hid hT
  obtain ⟨w1, hw1⟩ : ∃ u, u = w.alloc (.cells #[.string s1, .string s2] 80) := ⟨_, rfl⟩
  have b1 : Hid (Below w.heap.size w w1) := by rw [hw1]; exact hid (alloc_below _ _)
  have g1 : Hid (w1.heap[w.heap.size]? = some (.cells #[.string s1, .string s2] 80 (0, 0))) := by rw [hw1]; exact hid (heap_alloc_new w _)
  have hg : w1.heap[w.heap.size]? = some (.cells #[.string s1, .string s2] 80 (0, 0)) := ((Below.refl _ w1).block _ (Array.getElem?_eq_some_iff.1 g1.out).1).trans g1.out
  have z_e_0 : w1.cell? ⟨w.heap.size, 0, none⟩ = some (.string s1) := cell_of_row _ _ _ _ _ _ hg
  have z_e_1 : w1.cell? ⟨w.heap.size, 1, none⟩ = some (.string s2) := cell_of_row _ _ _ _ _ _ hg
  clear hg
  go_enter Tryz.func9, Tryz.ntmps9
  go_upto_region 1 with fail
  rw [← hw1]
  clear hw1
  have HX := hid (known_any (cell_keep hM.out b1.out) (tab_keep hT.out b1.out))
  go_wp2_with fail
  refine (HX.out).mono ?_
  rintro e w2 ⟨rfl, b2⟩
  replace b2 := hid b2
  clear HX
  have y0_2 := hid (Below.step b1.out b2.out)
  have HE := hid y0_2.out
  go_wp2_with fail
  go_ret
  exact ⟨rfl, HE.out⟩
theorem roots_long2 {w : World} {s1 s2 s3 : ByteArray} {mx : Int} (h1 : ¬ 40 < s1.size) (h2 : 40 < s2.size) (hM : w.cell? ⟨3, 0, none⟩ = some (.int .i64 mx)) (hT : TabAt 0 Lib.deBruijn64tab w) :
    Calls Tryz.prog 9 #[.agg #[.string s1, .string s2], .string s3] w (BoolRet w true) := by
  have d1 : decide (((s1.size : Nat) : Int) > 40) = false := decide_eq_false (by omega)
  have d1' : ¬ (((s1.size : Nat) : Int) > 40) := by omega
  have d2 : decide (((s2.size : Nat) : Int) > 40) = true := decide_eq_true (by omega)
  have d2' : (((s2.size : Nat) : Int) > 40) := by omega
  clear h1 h2
  replace hM := hid hM
  replace hT := hid hT
  obtain ⟨w1, hw1⟩ : ∃ u, u = w.alloc (.cells #[.string s1, .string s2] 80) := ⟨_, rfl⟩
  have b1 : Hid (Below w.heap.size w w1) := by rw [hw1]; exact hid (alloc_below _ _)
  have g1 : Hid (w1.heap[w.heap.size]? = some (.cells #[.string s1, .string s2] 80 (0, 0))) := by rw [hw1]; exact hid (heap_alloc_new w _)
  have hg : w1.heap[w.heap.size]? = some (.cells #[.string s1, .string s2] 80 (0, 0)) := ((Below.refl _ w1).block _ (Array.getElem?_eq_some_iff.1 g1.out).1).trans g1.out
  have z_e_0 : w1.cell? ⟨w.heap.size, 0, none⟩ = some (.string s1) := cell_of_row _ _ _ _ _ _ hg
  have z_e_1 : w1.cell? ⟨w.heap.size, 1, none⟩ = some (.string s2) := cell_of_row _ _ _ _ _ _ hg
  clear hg
  go_enter Tryz.func9, Tryz.ntmps9
  go_upto_region 1 with fail
  rw [← hw1]
  clear hw1
  have HX := hid (known_any (cell_keep hM.out b1.out) (tab_keep hT.out b1.out))
  go_wp2_with fail
  refine (HX.out).mono ?_
  rintro e w2 ⟨rfl, b2⟩
  replace b2 := hid b2
  clear HX
  have y0_2 := hid (Below.step b1.out b2.out)
  have HE := hid y0_2.out
  go_wp2_with fail
  go_ret
  exact ⟨rfl, HE.out⟩
theorem roots_long3 {w : World} {s1 s2 s3 : ByteArray} {mx : Int} (h1 : ¬ 40 < s1.size) (h2 : ¬ 40 < s2.size) (h3 : 40 < s3.size) (hM : w.cell? ⟨3, 0, none⟩ = some (.int .i64 mx)) (hT : TabAt 0 Lib.deBruijn64tab w) :
    Calls Tryz.prog 9 #[.agg #[.string s1, .string s2], .string s3] w (BoolRet w true) := by
  have d1 : decide (((s1.size : Nat) : Int) > 40) = false := decide_eq_false (by omega)
  have d1' : ¬ (((s1.size : Nat) : Int) > 40) := by omega
  have d2 : decide (((s2.size : Nat) : Int) > 40) = false := decide_eq_false (by omega)
  have d2' : ¬ (((s2.size : Nat) : Int) > 40) := by omega
  have d3 : decide (((s3.size : Nat) : Int) > 40) = true := decide_eq_true (by omega)
  have d3' : (((s3.size : Nat) : Int) > 40) := by omega
  clear h1 h2 h3
  replace hM := hid hM
  replace hT := hid hT
  obtain ⟨w1, hw1⟩ : ∃ u, u = w.alloc (.cells #[.string s1, .string s2] 80) := ⟨_, rfl⟩
  have b1 : Hid (Below w.heap.size w w1) := by rw [hw1]; exact hid (alloc_below _ _)
  have g1 : Hid (w1.heap[w.heap.size]? = some (.cells #[.string s1, .string s2] 80 (0, 0))) := by rw [hw1]; exact hid (heap_alloc_new w _)
  have hg : w1.heap[w.heap.size]? = some (.cells #[.string s1, .string s2] 80 (0, 0)) := ((Below.refl _ w1).block _ (Array.getElem?_eq_some_iff.1 g1.out).1).trans g1.out
  have z_e_0 : w1.cell? ⟨w.heap.size, 0, none⟩ = some (.string s1) := cell_of_row _ _ _ _ _ _ hg
  have z_e_1 : w1.cell? ⟨w.heap.size, 1, none⟩ = some (.string s2) := cell_of_row _ _ _ _ _ _ hg
  clear hg
  go_enter Tryz.func9, Tryz.ntmps9
  go_upto_region 1 with fail
  rw [← hw1]
  clear hw1
  have HX := hid (known_any (cell_keep hM.out b1.out) (tab_keep hT.out b1.out))
  go_wp2_with fail
  refine (HX.out).mono ?_
  rintro e w2 ⟨rfl, b2⟩
  replace b2 := hid b2
  clear HX
  have y0_2 := hid (Below.step b1.out b2.out)
  have HE := hid y0_2.out
  go_wp2_with fail
  go_ret
  exact ⟨rfl, HE.out⟩
theorem roots_short {w : World} {s1 s2 s3 : ByteArray} {mx : Int} (h1 : ¬ 40 < s1.size) (h2 : ¬ 40 < s2.size) (h3 : ¬ 40 < s3.size) (hM : w.cell? ⟨3, 0, none⟩ = some (.int .i64 mx)) (hT : TabAt 0 Lib.deBruijn64tab w) :
    Calls Tryz.prog 9 #[.agg #[.string s1, .string s2], .string s3] w (BoolRet w true) := by
  obtain ⟨p, e_p⟩ : ∃ v_ : Rat, (parseV s1).1 = v_ := ⟨_, rfl⟩
  have k_p : siz p ≤ 90 := by rw [← e_p]; have := parse_siz_le s1; omega
  have hs1 : s1.size ≤ 1048576 := by omega
  obtain ⟨q, e_q⟩ : ∃ v_ : Rat, (parseV s2).1 = v_ := ⟨_, rfl⟩
  have k_q : siz q ≤ 90 := by rw [← e_q]; have := parse_siz_le s2; omega
  have hs2 : s2.size ≤ 1048576 := by omega
  obtain ⟨g, e_g⟩ : ∃ v_ : Rat, (parseV s3).1 = v_ := ⟨_, rfl⟩
  have k_g : siz g ≤ 90 := by rw [← e_g]; have := parse_siz_le s3; omega
  have hs3 : s3.size ≤ 1048576 := by omega
  obtain ⟨l, e_l⟩ : ∃ v_ : Rat, (if q < p then q else p) = v_ := ⟨_, rfl⟩
  obtain ⟨h, e_h⟩ : ∃ v_ : Rat, (if q < p then p else q) = v_ := ⟨_, rfl⟩
  have hlh := ends_le e_l e_h
  obtain ⟨k_l, k_h⟩ := ends_siz e_l e_h k_p k_q
  have d1 : decide (((s1.size : Nat) : Int) > 40) = false := decide_eq_false (by omega)
  have d1' : ¬ (((s1.size : Nat) : Int) > 40) := by omega
  have d2 : decide (((s2.size : Nat) : Int) > 40) = false := decide_eq_false (by omega)
  have d2' : ¬ (((s2.size : Nat) : Int) > 40) := by omega
  have d3 : decide (((s3.size : Nat) : Int) > 40) = false := decide_eq_false (by omega)
  have d3' : ¬ (((s3.size : Nat) : Int) > 40) := by omega
  have z_l : siz l ≤ 4100 := by omega
  have n_l : siz l ≤ 1048576 := by omega
  have m_l : siz l ≤ 536870912 := by omega
  have z_h : siz h ≤ 4100 := by omega
  have n_h : siz h ≤ 1048576 := by omega
  have m_h : siz h ≤ 536870912 := by omega
  have z_g : siz g ≤ 4100 := by omega
  have n_g : siz g ≤ 1048576 := by omega
  have m_g : siz g ≤ 536870912 := by omega
  obtain ⟨sg, e_sg⟩ : ∃ v_ : Int, g.num.sign = v_ := ⟨_, rfl⟩
  obtain ⟨sl, e_sl⟩ : ∃ v_ : Int, l.num.sign = v_ := ⟨_, rfl⟩
  obtain ⟨o, e_o⟩ : ∃ v_ : Rat, 0 = v_ := ⟨_, rfl⟩
  rcases Decidable.em (g.num.sign ≤ 0) with hg | hg
  · have l9 : decide (sg ≤ 0) = true := decide_eq_true (by rw [← e_sg]; exact hg)
    replace hg := hid hg
    clear k_p k_q k_g k_l k_h h1 h2 h3
    replace hs1 := hid hs1
    replace hs2 := hid hs2
    replace hs3 := hid hs3
    replace hlh := hid hlh
    replace e_p := hid e_p
    replace e_q := hid e_q
    replace e_g := hid e_g
    replace e_l := hid e_l
    replace e_h := hid e_h
    replace e_sg := hid e_sg
    replace e_sl := hid e_sl
    replace e_o := hid e_o
    replace z_l := hid z_l
    replace z_h := hid z_h
    replace z_g := hid z_g
    replace n_l := hid n_l
    replace n_h := hid n_h
    replace n_g := hid n_g
    replace m_l := hid m_l
    replace m_h := hid m_h
    replace m_g := hid m_g
    replace hM := hid hM
    replace hT := hid hT
    obtain ⟨w1, hw1⟩ : ∃ u, u = w.alloc (.cells #[.string s1, .string s2] 80) := ⟨_, rfl⟩
    have b1 : Hid (Below w.heap.size w w1) := by rw [hw1]; exact hid (alloc_below _ _)
    have g1 : Hid (w1.heap[w.heap.size]? = some (.cells #[.string s1, .string s2] 80 (0, 0))) := by rw [hw1]; exact hid (heap_alloc_new w _)
    have hg : w1.heap[w.heap.size]? = some (.cells #[.string s1, .string s2] 80 (0, 0)) := ((Below.refl _ w1).block _ (Array.getElem?_eq_some_iff.1 g1.out).1).trans g1.out
    have z_e_0 : w1.cell? ⟨w.heap.size, 0, none⟩ = some (.string s1) := cell_of_row _ _ _ _ _ _ hg
    have z_e_1 : w1.cell? ⟨w.heap.size, 1, none⟩ = some (.string s2) := cell_of_row _ _ _ _ _ _ hg
    clear hg
    go_enter Tryz.func9, Tryz.ntmps9
    go_upto_region 1 with fail
    rw [← hw1]
    clear hw1
    have HX := hid (boxes_any e_p.out e_q.out e_l.out e_h.out hs1.out hs2.out (cell_keep hM.out b1.out))
    go_wp2_with fail
    refine (HX.out).mono ?_
    rintro e w2 ⟨va2, vb2, rfl, ha2, hb2, b2⟩
    obtain ⟨C1, j1, C2, j2, C3, j3, C4, j4, rfl, -, -, -, -⟩ := id ha2.opened
    replace ha2 := hid ha2
    obtain ⟨C5, j5, C6, j6, C7, j7, C8, j8, rfl, -, -, -, -⟩ := id hb2.opened
    replace hb2 := hid hb2
    replace b2 := hid b2
    clear HX
    clear z_e_0 z_e_1
    go_upto_region 4 with fail
    obtain ⟨w3, hw3⟩ : ∃ u, u = (w2.alloc (.cells #[.bool (decide (l.num < 0)), .slice C1 (Vx.len l.num.natAbs) j1, .slice C2 (Vx.len (below l.den)) j2, .bool (decide (h.num < 0)), .slice C3 (Vx.len h.num.natAbs) j3, .slice C4 (Vx.len (below h.den)) j4] 71)).alloc (.cells #[.bool (decide (l.num < 0)), .slice C5 (len l.num.natAbs) j5, .slice C6 (len l.den) j6, .bool (decide (h.num < 0)), .slice C7 (len h.num.natAbs) j7, .slice C8 (len h.den) j8] 76) := ⟨_, rfl⟩
    obtain ⟨b3, L3, M3⟩ := newz2 hw3
    rw [← hw3]
    clear hw3
    replace b3 := hid b3
    replace L3 := hid L3
    replace M3 := hid M3
    have y0_3 := hid (Below.step (Below.step b1.out b2.out) b3.out)
    have HX := hid (both_any e_g.out hs3.out (cell_keep hM.out y0_3.out))
    go_wp2_with fail
    refine (HX.out).mono ?_
    rintro e w4 ⟨va4, vb4, rfl, ha4, hb4, b4⟩
    obtain ⟨C9, j9, C10, j10, rfl, -, -⟩ := id ha4.opened
    replace ha4 := hid ha4
    obtain ⟨C11, j11, C12, j12, rfl, -, -⟩ := id hb4.opened
    replace hb4 := hid hb4
    replace b4 := hid b4
    clear HX
    go_upto_region 5 with fail
    obtain ⟨w5, hw5⟩ : ∃ u, u = (w4.alloc (.cells #[.bool (decide (g.num < 0)), .slice C9 (Vx.len g.num.natAbs) j9, .slice C10 (Vx.len (below g.den)) j10] 25)).alloc (.cells #[.bool (decide (g.num < 0)), .slice C11 (len g.num.natAbs) j11, .slice C12 (len g.den) j12] 33) := ⟨_, rfl⟩
    obtain ⟨b5, L5, M5⟩ := newz2 hw5
    rw [← hw5]
    clear hw5
    replace b5 := hid b5
    replace L5 := hid L5
    replace M5 := hid M5
    have y2_5 := hid (Below.step (Below.step b3.out b4.out) b5.out)
    have hRs5 := hid (ha2.out.keep y2_5.out)
    have hRt5 := hid (hb2.out.keep y2_5.out)
    have hRg5 := hid (ha4.out.keep b5.out)
    have hRr5 := hid (hb4.out.keep b5.out)
    have y3_5 := hid (Below.step b4.out b5.out)
    have LRs5 := hid (at_keep L3.out y3_5.out)
    have LRt5 := hid (at_keep M3.out y3_5.out)
    have y0_5 := hid (Below.step (Below.step y0_3.out b4.out) b5.out)
    have HMB5 := hid (cell_keep hM.out y0_5.out)
    have HTB5 := hid (tab_keep hT.out y0_5.out)
    have HBB5 := hid y0_5.out
    clear ha2 hb2 ha4 hb4 L3 M3 hM hT b1 b2 b3 b4 b5
    obtain ⟨z_s_0, z_s_1, z_s_2, z_s_3, z_s_4, z_s_5⟩ := cells6 LRs5.out
    obtain ⟨z_g_0, z_g_1, z_g_2⟩ := cells3 L5.out
    have HX := hid (root_range e_o.out hg.out hRs5.out hRg5.out)
    go_wp2_with fail
    refine (HX.out).mono ?_
    rintro e w6 ⟨v6, rfl, hv6, b6⟩
    obtain ⟨C13, j13, C14, j14, C15, j15, C16, j16, rfl, -, -, -, -⟩ := id hv6.opened
    replace hv6 := hid hv6
    replace b6 := hid b6
    clear HX
    clear z_s_0 z_s_1 z_s_2 z_s_3 z_s_4 z_s_5 z_g_0 z_g_1 z_g_2
    go_upto_region 6 with fail
    obtain ⟨w7, hw7⟩ : ∃ u, u = w6.alloc (.cells #[.bool (decide (o.num < 0)), .slice C13 (Vx.len o.num.natAbs) j13, .slice C14 (Vx.len (below o.den)) j14, .bool (decide (o.num < 0)), .slice C15 (Vx.len o.num.natAbs) j15, .slice C16 (Vx.len (below o.den)) j16] 71) := ⟨_, rfl⟩
    have b7 := hid (newb1 hw7)
    have L7 := hid (newz1 hw7)
    rw [← hw7]
    clear hw7
    have y5_7 := hid (Below.step b6.out b7.out)
    obtain ⟨z_s_0, z_s_1, z_s_2, z_s_3, z_s_4, z_s_5⟩ := cells6 (at_keep LRs5.out y5_7.out)
    obtain ⟨z_g_0, z_g_1, z_g_2⟩ := cells3 (at_keep L5.out y5_7.out)
    have HX := hid (out_range e_o.out hg.out (hRs5.out.keep y5_7.out) (hRg5.out.keep y5_7.out))
    go_wp2_with fail
    refine (HX.out).mono ?_
    rintro e w8 ⟨v8, rfl, hv8, b8⟩
    obtain ⟨C17, j17, C18, j18, C19, j19, C20, j20, rfl, -, -, -, -⟩ := id hv8.opened
    replace hv8 := hid hv8
    replace b8 := hid b8
    clear HX
    clear z_s_0 z_s_1 z_s_2 z_s_3 z_s_4 z_s_5 z_g_0 z_g_1 z_g_2
    go_upto_region 7 with fail
    obtain ⟨w9, hw9⟩ : ∃ u, u = w8.alloc (.cells #[.bool (decide (o.num < 0)), .slice C17 (Vx.len o.num.natAbs) j17, .slice C18 (Vx.len (below o.den)) j18, .bool (decide (o.num < 0)), .slice C19 (Vx.len o.num.natAbs) j19, .slice C20 (Vx.len (below o.den)) j20] 71) := ⟨_, rfl⟩
    have b9 := hid (newb1 hw9)
    have L9 := hid (newz1 hw9)
    rw [← hw9]
    clear hw9
    have y5_9 := hid (Below.step (Below.step y5_7.out b8.out) b9.out)
    have hRr9 := hid (hRr5.out.keep y5_9.out)
    have y6_9 := hid (Below.step (Below.step b7.out b8.out) b9.out)
    have hRx9 := hid (hv6.out.keep y6_9.out)
    have hRy9 := hid (hv8.out.keep b9.out)
    have LRr9 := hid (at_keep M5.out y5_9.out)
    have y7_9 := hid (Below.step b8.out b9.out)
    have LRx9 := hid (at_keep L7.out y7_9.out)
    have HMB9 := hid (cell_keep HMB5.out y5_9.out)
    have HTB9 := hid (tab_keep HTB5.out y5_9.out)
    have HBB9 := hid (Below.step HBB5.out y5_9.out)
    clear hRr5 hv6 hv8 M5 L7 HMB5 HTB5 HBB5 b6 b7 b8 b9
    obtain ⟨z_r_0, z_r_1, z_r_2⟩ := cells3 LRr9.out
    have HX := hid (signR_any e_sg.out hRr9.out)
    go_wp2_with fail
    refine (HX.out).mono ?_
    rintro e w10 ⟨rfl, b10⟩
    replace b10 := hid b10
    clear HX
    clear z_r_0 z_r_1 z_r_2
    obtain ⟨z_x_0, z_x_1, z_x_2, z_x_3, z_x_4, z_x_5⟩ := cells6 (at_keep LRx9.out b10.out)
    have HX := hid (none_any e_o.out.symm e_o.out.symm (hRx9.out.keep b10.out))
    go_wp2_with fail
    refine (HX.out).mono ?_
    rintro e w11 ⟨rfl, b11⟩
    replace b11 := hid b11
    clear HX
    clear z_x_0 z_x_1 z_x_2 z_x_3 z_x_4 z_x_5
    have y9_11 := hid (Below.step b10.out b11.out)
    obtain ⟨z_y_0, z_y_1, z_y_2, z_y_3, z_y_4, z_y_5⟩ := cells6 (at_keep L9.out y9_11.out)
    have HX := hid (none_any e_o.out.symm e_o.out.symm (hRy9.out.keep y9_11.out))
    go_wp2_with fail
    refine (HX.out).mono ?_
    rintro e w12 ⟨rfl, b12⟩
    replace b12 := hid b12
    clear HX
    clear z_y_0 z_y_1 z_y_2 z_y_3 z_y_4 z_y_5
    have y9_12 := hid (Below.step y9_11.out b12.out)
    have HX := hid (known_any (cell_keep HMB9.out y9_12.out) (tab_keep HTB9.out y9_12.out))
    go_wp2_with fail
    refine (HX.out).mono ?_
    rintro e w13 ⟨rfl, b13⟩
    replace b13 := hid b13
    clear HX
    have y9_13 := hid (Below.step y9_12.out b13.out)
    have HE := hid (Below.step HBB9.out y9_13.out)
    go_wp2_with fail
    go_ret
    exact ⟨rfl, HE.out⟩
  · have l9 : decide (sg ≤ 0) = false := decide_eq_false (by rw [← e_sg]; exact hg)
    have hg2 : 0 < g.num.sign := by omega
    have hgn : 0 < g.num := Int.sign_pos_iff.1 hg2
    have hg0 := num_pos.1 hgn
    have hg1 : g ≠ 0 := by intro e; rw [e] at hg0; exact absurd hg0 (Rat.lt_irrefl)
    obtain ⟨o1, e_o1⟩ : ∃ v_ : Rat, flr (l / g) * g = v_ := ⟨_, rfl⟩
    obtain ⟨o2, e_o2⟩ : ∃ v_ : Rat, -flr (-(h / g)) * g = v_ := ⟨_, rfl⟩
    have z_o1 : siz o1 ≤ 4100 := by rw [← e_o1]; have i1 := Vx.siz_mul (flr (l / g)) g; have i2 := siz_flr (l / g); have i3 := Vx.siz_div l g; omega
    have z_o2 : siz o2 ≤ 4100 := by rw [← e_o2]; have i1 := Vx.siz_mul (-flr (-(h / g))) g; have i2 := siz_ceil (h / g); have i3 := Vx.siz_div h g; omega
    rcases Decidable.em (l.num.sign < 0) with hl | hl
    · have l8 : decide (sl < 0) = true := decide_eq_true (by rw [← e_sl]; exact hl)
      replace hl := hid hl
      replace hg := hid hg
      replace hg2 := hid hg2
      replace hgn := hid hgn
      replace hg0 := hid hg0
      replace hg1 := hid hg1
      replace e_o1 := hid e_o1
      replace e_o2 := hid e_o2
      replace z_o1 := hid z_o1
      replace z_o2 := hid z_o2
      clear k_p k_q k_g k_l k_h h1 h2 h3
      replace hs1 := hid hs1
      replace hs2 := hid hs2
      replace hs3 := hid hs3
      replace hlh := hid hlh
      replace e_p := hid e_p
      replace e_q := hid e_q
      replace e_g := hid e_g
      replace e_l := hid e_l
      replace e_h := hid e_h
      replace e_sg := hid e_sg
      replace e_sl := hid e_sl
      replace e_o := hid e_o
      replace z_l := hid z_l
      replace z_h := hid z_h
      replace z_g := hid z_g
      replace n_l := hid n_l
      replace n_h := hid n_h
      replace n_g := hid n_g
      replace m_l := hid m_l
      replace m_h := hid m_h
      replace m_g := hid m_g
      replace hM := hid hM
      replace hT := hid hT
      obtain ⟨w1, hw1⟩ : ∃ u, u = w.alloc (.cells #[.string s1, .string s2] 80) := ⟨_, rfl⟩
      have b1 : Hid (Below w.heap.size w w1) := by rw [hw1]; exact hid (alloc_below _ _)
      have g1 : Hid (w1.heap[w.heap.size]? = some (.cells #[.string s1, .string s2] 80 (0, 0))) := by rw [hw1]; exact hid (heap_alloc_new w _)
      have hg : w1.heap[w.heap.size]? = some (.cells #[.string s1, .string s2] 80 (0, 0)) := ((Below.refl _ w1).block _ (Array.getElem?_eq_some_iff.1 g1.out).1).trans g1.out
      have z_e_0 : w1.cell? ⟨w.heap.size, 0, none⟩ = some (.string s1) := cell_of_row _ _ _ _ _ _ hg
      have z_e_1 : w1.cell? ⟨w.heap.size, 1, none⟩ = some (.string s2) := cell_of_row _ _ _ _ _ _ hg
      clear hg
      go_enter Tryz.func9, Tryz.ntmps9
      go_upto_region 1 with fail
      rw [← hw1]
      clear hw1
      have HX := hid (boxes_any e_p.out e_q.out e_l.out e_h.out hs1.out hs2.out (cell_keep hM.out b1.out))
      go_wp2_with fail
      refine (HX.out).mono ?_
      rintro e w2 ⟨va2, vb2, rfl, ha2, hb2, b2⟩
      obtain ⟨C21, j21, C22, j22, C23, j23, C24, j24, rfl, -, -, -, -⟩ := id ha2.opened
      replace ha2 := hid ha2
      obtain ⟨C25, j25, C26, j26, C27, j27, C28, j28, rfl, -, -, -, -⟩ := id hb2.opened
      replace hb2 := hid hb2
      replace b2 := hid b2
      clear HX
      clear z_e_0 z_e_1
      go_upto_region 4 with fail
      obtain ⟨w3, hw3⟩ : ∃ u, u = (w2.alloc (.cells #[.bool (decide (l.num < 0)), .slice C21 (Vx.len l.num.natAbs) j21, .slice C22 (Vx.len (below l.den)) j22, .bool (decide (h.num < 0)), .slice C23 (Vx.len h.num.natAbs) j23, .slice C24 (Vx.len (below h.den)) j24] 71)).alloc (.cells #[.bool (decide (l.num < 0)), .slice C25 (len l.num.natAbs) j25, .slice C26 (len l.den) j26, .bool (decide (h.num < 0)), .slice C27 (len h.num.natAbs) j27, .slice C28 (len h.den) j28] 76) := ⟨_, rfl⟩
      obtain ⟨b3, L3, M3⟩ := newz2 hw3
      rw [← hw3]
      clear hw3
      replace b3 := hid b3
      replace L3 := hid L3
      replace M3 := hid M3
      have y0_3 := hid (Below.step (Below.step b1.out b2.out) b3.out)
      have HX := hid (both_any e_g.out hs3.out (cell_keep hM.out y0_3.out))
      go_wp2_with fail
      refine (HX.out).mono ?_
      rintro e w4 ⟨va4, vb4, rfl, ha4, hb4, b4⟩
      obtain ⟨C29, j29, C30, j30, rfl, -, -⟩ := id ha4.opened
      replace ha4 := hid ha4
      obtain ⟨C31, j31, C32, j32, rfl, -, -⟩ := id hb4.opened
      replace hb4 := hid hb4
      replace b4 := hid b4
      clear HX
      go_upto_region 5 with fail
      obtain ⟨w5, hw5⟩ : ∃ u, u = (w4.alloc (.cells #[.bool (decide (g.num < 0)), .slice C29 (Vx.len g.num.natAbs) j29, .slice C30 (Vx.len (below g.den)) j30] 25)).alloc (.cells #[.bool (decide (g.num < 0)), .slice C31 (len g.num.natAbs) j31, .slice C32 (len g.den) j32] 33) := ⟨_, rfl⟩
      obtain ⟨b5, L5, M5⟩ := newz2 hw5
      rw [← hw5]
      clear hw5
      replace b5 := hid b5
      replace L5 := hid L5
      replace M5 := hid M5
      have y2_5 := hid (Below.step (Below.step b3.out b4.out) b5.out)
      have hRs5 := hid (ha2.out.keep y2_5.out)
      have hRt5 := hid (hb2.out.keep y2_5.out)
      have hRg5 := hid (ha4.out.keep b5.out)
      have hRr5 := hid (hb4.out.keep b5.out)
      have y3_5 := hid (Below.step b4.out b5.out)
      have LRs5 := hid (at_keep L3.out y3_5.out)
      have LRt5 := hid (at_keep M3.out y3_5.out)
      have y0_5 := hid (Below.step (Below.step y0_3.out b4.out) b5.out)
      have HMB5 := hid (cell_keep hM.out y0_5.out)
      have HTB5 := hid (tab_keep hT.out y0_5.out)
      have HBB5 := hid y0_5.out
      clear ha2 hb2 ha4 hb4 L3 M3 hM hT b1 b2 b3 b4 b5
      obtain ⟨z_s_0, z_s_1, z_s_2, z_s_3, z_s_4, z_s_5⟩ := cells6 LRs5.out
      obtain ⟨z_g_0, z_g_1, z_g_2⟩ := cells3 L5.out
      have HX := hid (root_minus e_o.out hg2.out hl.out hRs5.out hRg5.out)
      go_wp2_with fail
      refine (HX.out).mono ?_
      rintro e w6 ⟨v6, rfl, hv6, b6⟩
      obtain ⟨C33, j33, C34, j34, C35, j35, C36, j36, rfl, -, -, -, -⟩ := id hv6.opened
      replace hv6 := hid hv6
      replace b6 := hid b6
      clear HX
      clear z_s_0 z_s_1 z_s_2 z_s_3 z_s_4 z_s_5 z_g_0 z_g_1 z_g_2
      go_upto_region 6 with fail
      obtain ⟨w7, hw7⟩ : ∃ u, u = w6.alloc (.cells #[.bool (decide (o.num < 0)), .slice C33 (Vx.len o.num.natAbs) j33, .slice C34 (Vx.len (below o.den)) j34, .bool (decide (o.num < 0)), .slice C35 (Vx.len o.num.natAbs) j35, .slice C36 (Vx.len (below o.den)) j36] 71) := ⟨_, rfl⟩
      have b7 := hid (newb1 hw7)
      have L7 := hid (newz1 hw7)
      rw [← hw7]
      clear hw7
      have y5_7 := hid (Below.step b6.out b7.out)
      obtain ⟨z_s_0, z_s_1, z_s_2, z_s_3, z_s_4, z_s_5⟩ := cells6 (at_keep LRs5.out y5_7.out)
      obtain ⟨z_g_0, z_g_1, z_g_2⟩ := cells3 (at_keep L5.out y5_7.out)
      have HX := hid (out_val e_o1.out e_o2.out (hRs5.out.keep y5_7.out) (hRg5.out.keep y5_7.out) m_l.out m_h.out m_g.out hgn.out)
      go_wp2_with fail
      refine (HX.out).mono ?_
      rintro e w8 ⟨v8, rfl, hv8, b8⟩
      obtain ⟨C37, j37, C38, j38, C39, j39, C40, j40, rfl, -, -, -, -⟩ := id hv8.opened
      replace hv8 := hid hv8
      replace b8 := hid b8
      clear HX
      clear z_s_0 z_s_1 z_s_2 z_s_3 z_s_4 z_s_5 z_g_0 z_g_1 z_g_2
      go_upto_region 7 with fail
      obtain ⟨w9, hw9⟩ : ∃ u, u = w8.alloc (.cells #[.bool (decide (o1.num < 0)), .slice C37 (Vx.len o1.num.natAbs) j37, .slice C38 (Vx.len (below o1.den)) j38, .bool (decide (o2.num < 0)), .slice C39 (Vx.len o2.num.natAbs) j39, .slice C40 (Vx.len (below o2.den)) j40] 71) := ⟨_, rfl⟩
      have b9 := hid (newb1 hw9)
      have L9 := hid (newz1 hw9)
      rw [← hw9]
      clear hw9
      have y5_9 := hid (Below.step (Below.step y5_7.out b8.out) b9.out)
      have hRt9 := hid (hRt5.out.keep y5_9.out)
      have hRr9 := hid (hRr5.out.keep y5_9.out)
      have y6_9 := hid (Below.step (Below.step b7.out b8.out) b9.out)
      have hRx9 := hid (hv6.out.keep y6_9.out)
      have hRy9 := hid (hv8.out.keep b9.out)
      have LRt9 := hid (at_keep LRt5.out y5_9.out)
      have LRr9 := hid (at_keep M5.out y5_9.out)
      have y7_9 := hid (Below.step b8.out b9.out)
      have LRx9 := hid (at_keep L7.out y7_9.out)
      have HMB9 := hid (cell_keep HMB5.out y5_9.out)
      have HTB9 := hid (tab_keep HTB5.out y5_9.out)
      have HBB9 := hid (Below.step HBB5.out y5_9.out)
      clear hRt5 hRr5 hv6 hv8 LRt5 M5 L7 HMB5 HTB5 HBB5 b6 b7 b8 b9
      obtain ⟨z_r_0, z_r_1, z_r_2⟩ := cells3 LRr9.out
      have HX := hid (signR_any e_sg.out hRr9.out)
      go_wp2_with fail
      refine (HX.out).mono ?_
      rintro e w10 ⟨rfl, b10⟩
      replace b10 := hid b10
      clear HX
      clear z_r_0 z_r_1 z_r_2
      go_upto_region 9 with fail
      go_wp2_with fail
      obtain ⟨NN9, hNN⟩ : ∃ n : Nat, w10.heap.size = n := ⟨_, rfl⟩
      have HSZ9 : Hid (w10.heap.size = NN9) := hNN
      obtain ⟨z_t_0, z_t_1, z_t_2, z_t_3, z_t_4, z_t_5⟩ := cells6 (at_keep LRt9.out b10.out)
      have hlt9_t : w2.heap.size + 1 < NN9 := Nat.lt_of_lt_of_eq (World.block_lt_of_cell? _ _ z_t_0) hNN
      obtain ⟨z_r_0, z_r_1, z_r_2⟩ := cells3 (at_keep LRr9.out b10.out)
      have hlt9_r : w4.heap.size + 1 < NN9 := Nat.lt_of_lt_of_eq (World.block_lt_of_cell? _ _ z_r_0) hNN
      obtain ⟨z_y_0, z_y_1, z_y_2, z_y_3, z_y_4, z_y_5⟩ := cells6 (at_keep L9.out b10.out)
      have hlt9_y : w8.heap.size < NN9 := Nat.lt_of_lt_of_eq (World.block_lt_of_cell? _ _ z_y_0) hNN
      have H0 := Held0.start w10 NN9
      have H0' := H0
      unfold Held0 at H0'
      refine wp_region_held_drew (S := (fun w' => (∀ b o, b < NN9 → w'.cell? ⟨b, o, none⟩ = w10.cell? ⟨b, o, none⟩) ∧ Below (NN9) w10 w' ∧ Stay w10 w')) (by kernel_rfl) ?_ (fun hHeld => ?_)
      · (try dsimp only)
        exact H0'
      obtain ⟨w11, hw11⟩ : ∃ u, u = w10.drew := ⟨_, rfl⟩
      have b11 : Hid (Below w10.heap.size w10 w11) := by rw [hw11]; exact ⟨rfl, rfl, rfl, Nat.le_refl _, fun _ _ => rfl⟩
      rw [← hw11] at hHeld H0 ⊢
      clear hw11 H0' hNN
      as_aux_lemma =>
       refine tk (i := 0) (h := ?_)
       try simp only [Act.put, lt, ly, lu]
       refine tk (i := 1) (h := ?_)
       try simp only [Act.put, lt, ly, lu]
       refine tk (i := 2) (h := ?_)
       try simp only [Act.put, lt, ly, lu]
       refine tk (i := 3) (h := ?_)
       try simp only [Act.put, lt, ly, lu]
       refine tk (i := 4) (h := ?_)
       try simp only [Act.put, lt, ly, lu]
       refine tk (i := 5) (h := ?_)
       try simp only [Act.put, lt, ly, lu]
       have y9_11 := hid (Below.step b10.out b11.out)
       refine wpAnyH_ready (rs := [6]) (by kernel_rfl) (by simp) (AllReadyH.cons (o := ?oq7) ?eq7 ?kq7 AllReadyH.nil)
       case eq7 => simp only [lg, lz, ls]; rfl
       intro K hK; go_simp; go_at_call 82
       refine (outBoxR_any hg1.out e_o1.out e_o2.out (hRt9.out.keep y9_11.out) (hRr9.out.keep y9_11.out) z_l.out z_h.out z_g.out).mono ?_
       rintro e w12 ⟨v12, rfl, hv12, b12⟩
       obtain ⟨C41, j41, C42, j42, C43, j43, C44, j44, rfl, -, -, -, -⟩ := id hv12.opened
       replace hv12 := hid hv12
       replace b12 := hid b12
       have hk12 := hcall H0 HSZ9 b12.out; have hk12' := hk12; unfold Held0 at hk12'; clear hHeld H0
       refine hK.out _ _ ?_ (fun hHeld => ?_)
       · (try dsimp only); with_reducible exact hk12'
       clear hK K hk12'; try simp only [Act.put, lt, ly, lu]
       have y9_12 := hid (Below.step y9_11.out b12.out)
       refine wpAnyH_ready (rs := [7]) (by kernel_rfl) (by simp) (AllReadyH.cons (o := ?oq8) ?eq8 ?kq8 AllReadyH.nil)
       case eq8 => simp only [lg, lz, ls]; rfl
       intro K hK; go_simp; go_at_call 52
       refine (sameBox_any (hRy9.out.keep y9_12.out) hv12.out z_o1.out z_o2.out (tab_keep HTB9.out y9_12.out)).mono ?_
       rintro e w13 ⟨rfl, b13⟩
       replace b13 := hid b13
       have hk13 := hcall hk12 HSZ9 b13.out; have hk13' := hk13; unfold Held0 at hk13'; clear hHeld hk12
       refine hK.out _ _ ?_ (fun hHeld => ?_)
       · (try dsimp only); with_reducible exact hk13'
       clear hK K hk13'; try simp only [Act.put, lt, ly, lu]
       refine tk (i := 8) (h := ?_)
       try simp only [Act.put, lt, ly, lu]
       refine tk (i := 9) (h := ?_)
       try simp only [Act.put, lt, ly, lu]
       refine wpAnyH_done (by kernel_rfl) ?_ _
       clear hHeld
       clear z_t_0 z_t_1 z_t_2 z_t_3 z_t_4 z_t_5 z_r_0 z_r_1 z_r_2 z_y_0 z_y_1 z_y_2 z_y_3 z_y_4 z_y_5 hlt9_t hlt9_r hlt9_y
       clear hk13 HSZ9
       have y9_13 := hid (Below.step y9_12.out b13.out)
       have hRt13 := hid (hRt9.out.keep y9_13.out)
       have hRr13 := hid (hRr9.out.keep y9_13.out)
       have hRx13 := hid (hRx9.out.keep y9_13.out)
       have LRt13 := hid (at_keep LRt9.out y9_13.out)
       have LRr13 := hid (at_keep LRr9.out y9_13.out)
       have LRx13 := hid (at_keep LRx9.out y9_13.out)
       have HMB13 := hid (cell_keep HMB9.out y9_13.out)
       have HTB13 := hid (tab_keep HTB9.out y9_13.out)
       have HBB13 := hid (Below.step HBB9.out y9_13.out)
       clear hRt9 hRr9 hRx9 LRt9 LRr9 LRx9 HMB9 HTB9 HBB9 b10 b11 b12 b13
       go_upto_region 11 with fail
       have HTL := hid (show IsRat w13 (.agg #[.bool (decide (l.num < 0)), .slice C25 (len l.num.natAbs) j25, .slice C26 (len l.den) j26]) l from by obtain ⟨u1, u2, u3, u4, e, i1, i2, -, -⟩ := hRt13.out; simp only [Value.agg.injEq, Array.mk.injEq, List.cons.injEq, and_true, true_and] at e; obtain ⟨rfl, rfl, -, -, -⟩ := e; exact ⟨_, _, rfl, i1, i2⟩)
       obtain ⟨z_t_0, z_t_1, z_t_2, z_t_3, z_t_4, z_t_5⟩ := cells6 LRt13.out
       have HX := hid (signR_any e_sl.out HTL.out)
       go_wp2_with fail
       refine (HX.out).mono ?_
       rintro e w14 ⟨rfl, b14⟩
       replace b14 := hid b14
       clear HX
       clear z_t_0 z_t_1 z_t_2 z_t_3 z_t_4 z_t_5
       clear HTL
       obtain ⟨z_x_0, z_x_1, z_x_2, z_x_3, z_x_4, z_x_5⟩ := cells6 (at_keep LRx13.out b14.out)
       have HX := hid (none_any e_o.out.symm e_o.out.symm (hRx13.out.keep b14.out))
       go_wp2_with fail
       refine (HX.out).mono ?_
       rintro e w15 ⟨rfl, b15⟩
       replace b15 := hid b15
       clear HX
       clear z_x_0 z_x_1 z_x_2 z_x_3 z_x_4 z_x_5
       have y13_15 := hid (Below.step b14.out b15.out)
       have HX := hid (known_any (cell_keep HMB13.out y13_15.out) (tab_keep HTB13.out y13_15.out))
       go_wp2_with fail
       refine (HX.out).mono ?_
       rintro e w16 ⟨rfl, b16⟩
       replace b16 := hid b16
       clear HX
       have y13_16 := hid (Below.step y13_15.out b16.out)
       have HE := hid (Below.step HBB13.out y13_16.out)
       go_wp2_with fail
       go_ret
       exact ⟨rfl, HE.out⟩
    · have l8 : decide (sl < 0) = false := decide_eq_false (by rw [← e_sl]; exact hl)
      have hl0 : 0 ≤ l.num := by have := Int.sign_nonneg_iff.1 (show 0 ≤ l.num.sign by omega); exact this
      have hl1 := num_nonneg.1 hl0
      obtain ⟨r1, e_r1⟩ : ∃ v_ : Rat, lowRt l g = v_ := ⟨_, rfl⟩
      obtain ⟨r2, e_r2⟩ : ∃ v_ : Rat, highRt h g = v_ := ⟨_, rfl⟩
      have z_r1 : siz r1 ≤ 4100 := by rw [← e_r1]; have := siz_low (a := l) (g := g) k_l k_g; omega
      have z_r2 : siz r2 ≤ 4100 := by rw [← e_r2]; have := siz_high (a := h) (g := g) k_h k_g; omega
      replace hl := hid hl
      replace hl0 := hid hl0
      replace hl1 := hid hl1
      replace e_r1 := hid e_r1
      replace e_r2 := hid e_r2
      replace z_r1 := hid z_r1
      replace z_r2 := hid z_r2
      replace hg := hid hg
      replace hg2 := hid hg2
      replace hgn := hid hgn
      replace hg0 := hid hg0
      replace hg1 := hid hg1
      replace e_o1 := hid e_o1
      replace e_o2 := hid e_o2
      replace z_o1 := hid z_o1
      replace z_o2 := hid z_o2
      clear k_p k_q k_g k_l k_h h1 h2 h3
      replace hs1 := hid hs1
      replace hs2 := hid hs2
      replace hs3 := hid hs3
      replace hlh := hid hlh
      replace e_p := hid e_p
      replace e_q := hid e_q
      replace e_g := hid e_g
      replace e_l := hid e_l
      replace e_h := hid e_h
      replace e_sg := hid e_sg
      replace e_sl := hid e_sl
      replace e_o := hid e_o
      replace z_l := hid z_l
      replace z_h := hid z_h
      replace z_g := hid z_g
      replace n_l := hid n_l
      replace n_h := hid n_h
      replace n_g := hid n_g
      replace m_l := hid m_l
      replace m_h := hid m_h
      replace m_g := hid m_g
      replace hM := hid hM
      replace hT := hid hT
      obtain ⟨w1, hw1⟩ : ∃ u, u = w.alloc (.cells #[.string s1, .string s2] 80) := ⟨_, rfl⟩
      have b1 : Hid (Below w.heap.size w w1) := by rw [hw1]; exact hid (alloc_below _ _)
      have g1 : Hid (w1.heap[w.heap.size]? = some (.cells #[.string s1, .string s2] 80 (0, 0))) := by rw [hw1]; exact hid (heap_alloc_new w _)
      have hg : w1.heap[w.heap.size]? = some (.cells #[.string s1, .string s2] 80 (0, 0)) := ((Below.refl _ w1).block _ (Array.getElem?_eq_some_iff.1 g1.out).1).trans g1.out
      have z_e_0 : w1.cell? ⟨w.heap.size, 0, none⟩ = some (.string s1) := cell_of_row _ _ _ _ _ _ hg
      have z_e_1 : w1.cell? ⟨w.heap.size, 1, none⟩ = some (.string s2) := cell_of_row _ _ _ _ _ _ hg
      clear hg
      go_enter Tryz.func9, Tryz.ntmps9
      go_upto_region 1 with fail
      rw [← hw1]
      clear hw1
      have HX := hid (boxes_any e_p.out e_q.out e_l.out e_h.out hs1.out hs2.out (cell_keep hM.out b1.out))
      go_wp2_with fail
      refine (HX.out).mono ?_
      rintro e w2 ⟨va2, vb2, rfl, ha2, hb2, b2⟩
      obtain ⟨C45, j45, C46, j46, C47, j47, C48, j48, rfl, -, -, -, -⟩ := id ha2.opened
      replace ha2 := hid ha2
      obtain ⟨C49, j49, C50, j50, C51, j51, C52, j52, rfl, -, -, -, -⟩ := id hb2.opened
      replace hb2 := hid hb2
      replace b2 := hid b2
      clear HX
      clear z_e_0 z_e_1
      go_upto_region 4 with fail
      obtain ⟨w3, hw3⟩ : ∃ u, u = (w2.alloc (.cells #[.bool (decide (l.num < 0)), .slice C45 (Vx.len l.num.natAbs) j45, .slice C46 (Vx.len (below l.den)) j46, .bool (decide (h.num < 0)), .slice C47 (Vx.len h.num.natAbs) j47, .slice C48 (Vx.len (below h.den)) j48] 71)).alloc (.cells #[.bool (decide (l.num < 0)), .slice C49 (len l.num.natAbs) j49, .slice C50 (len l.den) j50, .bool (decide (h.num < 0)), .slice C51 (len h.num.natAbs) j51, .slice C52 (len h.den) j52] 76) := ⟨_, rfl⟩
      obtain ⟨b3, L3, M3⟩ := newz2 hw3
      rw [← hw3]
      clear hw3
      replace b3 := hid b3
      replace L3 := hid L3
      replace M3 := hid M3
      have y0_3 := hid (Below.step (Below.step b1.out b2.out) b3.out)
      have HX := hid (both_any e_g.out hs3.out (cell_keep hM.out y0_3.out))
      go_wp2_with fail
      refine (HX.out).mono ?_
      rintro e w4 ⟨va4, vb4, rfl, ha4, hb4, b4⟩
      obtain ⟨C53, j53, C54, j54, rfl, -, -⟩ := id ha4.opened
      replace ha4 := hid ha4
      obtain ⟨C55, j55, C56, j56, rfl, -, -⟩ := id hb4.opened
      replace hb4 := hid hb4
      replace b4 := hid b4
      clear HX
      go_upto_region 5 with fail
      obtain ⟨w5, hw5⟩ : ∃ u, u = (w4.alloc (.cells #[.bool (decide (g.num < 0)), .slice C53 (Vx.len g.num.natAbs) j53, .slice C54 (Vx.len (below g.den)) j54] 25)).alloc (.cells #[.bool (decide (g.num < 0)), .slice C55 (len g.num.natAbs) j55, .slice C56 (len g.den) j56] 33) := ⟨_, rfl⟩
      obtain ⟨b5, L5, M5⟩ := newz2 hw5
      rw [← hw5]
      clear hw5
      replace b5 := hid b5
      replace L5 := hid L5
      replace M5 := hid M5
      have y2_5 := hid (Below.step (Below.step b3.out b4.out) b5.out)
      have hRs5 := hid (ha2.out.keep y2_5.out)
      have hRt5 := hid (hb2.out.keep y2_5.out)
      have hRg5 := hid (ha4.out.keep b5.out)
      have hRr5 := hid (hb4.out.keep b5.out)
      have y3_5 := hid (Below.step b4.out b5.out)
      have LRs5 := hid (at_keep L3.out y3_5.out)
      have LRt5 := hid (at_keep M3.out y3_5.out)
      have y0_5 := hid (Below.step (Below.step y0_3.out b4.out) b5.out)
      have HMB5 := hid (cell_keep hM.out y0_5.out)
      have HTB5 := hid (tab_keep hT.out y0_5.out)
      have HBB5 := hid y0_5.out
      clear ha2 hb2 ha4 hb4 L3 M3 hM hT b1 b2 b3 b4 b5
      obtain ⟨z_s_0, z_s_1, z_s_2, z_s_3, z_s_4, z_s_5⟩ := cells6 LRs5.out
      obtain ⟨z_g_0, z_g_1, z_g_2⟩ := cells3 L5.out
      have HX := hid (root_val' e_r1.out e_r2.out hRs5.out hRg5.out n_l.out n_h.out n_g.out hgn.out hl0.out)
      go_wp2_with fail
      refine (HX.out).mono ?_
      rintro e w6 ⟨v6, rfl, hv6, b6⟩
      obtain ⟨C57, j57, C58, j58, C59, j59, C60, j60, rfl, -, -, -, -⟩ := id hv6.opened
      replace hv6 := hid hv6
      replace b6 := hid b6
      clear HX
      clear z_s_0 z_s_1 z_s_2 z_s_3 z_s_4 z_s_5 z_g_0 z_g_1 z_g_2
      go_upto_region 6 with fail
      obtain ⟨w7, hw7⟩ : ∃ u, u = w6.alloc (.cells #[.bool (decide (r1.num < 0)), .slice C57 (Vx.len r1.num.natAbs) j57, .slice C58 (Vx.len (below r1.den)) j58, .bool (decide (r2.num < 0)), .slice C59 (Vx.len r2.num.natAbs) j59, .slice C60 (Vx.len (below r2.den)) j60] 71) := ⟨_, rfl⟩
      have b7 := hid (newb1 hw7)
      have L7 := hid (newz1 hw7)
      rw [← hw7]
      clear hw7
      have y5_7 := hid (Below.step b6.out b7.out)
      obtain ⟨z_s_0, z_s_1, z_s_2, z_s_3, z_s_4, z_s_5⟩ := cells6 (at_keep LRs5.out y5_7.out)
      obtain ⟨z_g_0, z_g_1, z_g_2⟩ := cells3 (at_keep L5.out y5_7.out)
      have HX := hid (out_val e_o1.out e_o2.out (hRs5.out.keep y5_7.out) (hRg5.out.keep y5_7.out) m_l.out m_h.out m_g.out hgn.out)
      go_wp2_with fail
      refine (HX.out).mono ?_
      rintro e w8 ⟨v8, rfl, hv8, b8⟩
      obtain ⟨C61, j61, C62, j62, C63, j63, C64, j64, rfl, -, -, -, -⟩ := id hv8.opened
      replace hv8 := hid hv8
      replace b8 := hid b8
      clear HX
      clear z_s_0 z_s_1 z_s_2 z_s_3 z_s_4 z_s_5 z_g_0 z_g_1 z_g_2
      go_upto_region 7 with fail
      obtain ⟨w9, hw9⟩ : ∃ u, u = w8.alloc (.cells #[.bool (decide (o1.num < 0)), .slice C61 (Vx.len o1.num.natAbs) j61, .slice C62 (Vx.len (below o1.den)) j62, .bool (decide (o2.num < 0)), .slice C63 (Vx.len o2.num.natAbs) j63, .slice C64 (Vx.len (below o2.den)) j64] 71) := ⟨_, rfl⟩
      have b9 := hid (newb1 hw9)
      have L9 := hid (newz1 hw9)
      rw [← hw9]
      clear hw9
      have y5_9 := hid (Below.step (Below.step y5_7.out b8.out) b9.out)
      have hRt9 := hid (hRt5.out.keep y5_9.out)
      have hRr9 := hid (hRr5.out.keep y5_9.out)
      have y6_9 := hid (Below.step (Below.step b7.out b8.out) b9.out)
      have hRx9 := hid (hv6.out.keep y6_9.out)
      have hRy9 := hid (hv8.out.keep b9.out)
      have LRt9 := hid (at_keep LRt5.out y5_9.out)
      have LRr9 := hid (at_keep M5.out y5_9.out)
      have y7_9 := hid (Below.step b8.out b9.out)
      have LRx9 := hid (at_keep L7.out y7_9.out)
      have HMB9 := hid (cell_keep HMB5.out y5_9.out)
      have HTB9 := hid (tab_keep HTB5.out y5_9.out)
      have HBB9 := hid (Below.step HBB5.out y5_9.out)
      clear hRt5 hRr5 hv6 hv8 LRt5 M5 L7 HMB5 HTB5 HBB5 b6 b7 b8 b9
      obtain ⟨z_r_0, z_r_1, z_r_2⟩ := cells3 LRr9.out
      have HX := hid (signR_any e_sg.out hRr9.out)
      go_wp2_with fail
      refine (HX.out).mono ?_
      rintro e w10 ⟨rfl, b10⟩
      replace b10 := hid b10
      clear HX
      clear z_r_0 z_r_1 z_r_2
      go_upto_region 9 with fail
      go_wp2_with fail
      obtain ⟨NN9, hNN⟩ : ∃ n : Nat, w10.heap.size = n := ⟨_, rfl⟩
      have HSZ9 : Hid (w10.heap.size = NN9) := hNN
      obtain ⟨z_t_0, z_t_1, z_t_2, z_t_3, z_t_4, z_t_5⟩ := cells6 (at_keep LRt9.out b10.out)
      have hlt9_t : w2.heap.size + 1 < NN9 := Nat.lt_of_lt_of_eq (World.block_lt_of_cell? _ _ z_t_0) hNN
      obtain ⟨z_r_0, z_r_1, z_r_2⟩ := cells3 (at_keep LRr9.out b10.out)
      have hlt9_r : w4.heap.size + 1 < NN9 := Nat.lt_of_lt_of_eq (World.block_lt_of_cell? _ _ z_r_0) hNN
      obtain ⟨z_y_0, z_y_1, z_y_2, z_y_3, z_y_4, z_y_5⟩ := cells6 (at_keep L9.out b10.out)
      have hlt9_y : w8.heap.size < NN9 := Nat.lt_of_lt_of_eq (World.block_lt_of_cell? _ _ z_y_0) hNN
      have H0 := Held0.start w10 NN9
      have H0' := H0
      unfold Held0 at H0'
      refine wp_region_held_drew (S := (fun w' => (∀ b o, b < NN9 → w'.cell? ⟨b, o, none⟩ = w10.cell? ⟨b, o, none⟩) ∧ Below (NN9) w10 w' ∧ Stay w10 w')) (by kernel_rfl) ?_ (fun hHeld => ?_)
      · (try dsimp only)
        exact H0'
      obtain ⟨w11, hw11⟩ : ∃ u, u = w10.drew := ⟨_, rfl⟩
      have b11 : Hid (Below w10.heap.size w10 w11) := by rw [hw11]; exact ⟨rfl, rfl, rfl, Nat.le_refl _, fun _ _ => rfl⟩
      rw [← hw11] at hHeld H0 ⊢
      clear hw11 H0' hNN
      as_aux_lemma =>
       refine tk (i := 0) (h := ?_)
       try simp only [Act.put, lt, ly, lu]
       refine tk (i := 1) (h := ?_)
       try simp only [Act.put, lt, ly, lu]
       refine tk (i := 2) (h := ?_)
       try simp only [Act.put, lt, ly, lu]
       refine tk (i := 3) (h := ?_)
       try simp only [Act.put, lt, ly, lu]
       refine tk (i := 4) (h := ?_)
       try simp only [Act.put, lt, ly, lu]
       refine tk (i := 5) (h := ?_)
       try simp only [Act.put, lt, ly, lu]
       have y9_11 := hid (Below.step b10.out b11.out)
       refine wpAnyH_ready (rs := [6]) (by kernel_rfl) (by simp) (AllReadyH.cons (o := ?oq17) ?eq17 ?kq17 AllReadyH.nil)
       case eq17 => simp only [lg, lz, ls]; rfl
       intro K hK; go_simp; go_at_call 82
       refine (outBoxR_any hg1.out e_o1.out e_o2.out (hRt9.out.keep y9_11.out) (hRr9.out.keep y9_11.out) z_l.out z_h.out z_g.out).mono ?_
       rintro e w12 ⟨v12, rfl, hv12, b12⟩
       obtain ⟨C65, j65, C66, j66, C67, j67, C68, j68, rfl, -, -, -, -⟩ := id hv12.opened
       replace hv12 := hid hv12
       replace b12 := hid b12
       have hk12 := hcall H0 HSZ9 b12.out; have hk12' := hk12; unfold Held0 at hk12'; clear hHeld H0
       refine hK.out _ _ ?_ (fun hHeld => ?_)
       · (try dsimp only); with_reducible exact hk12'
       clear hK K hk12'; try simp only [Act.put, lt, ly, lu]
       have y9_12 := hid (Below.step y9_11.out b12.out)
       refine wpAnyH_ready (rs := [7]) (by kernel_rfl) (by simp) (AllReadyH.cons (o := ?oq18) ?eq18 ?kq18 AllReadyH.nil)
       case eq18 => simp only [lg, lz, ls]; rfl
       intro K hK; go_simp; go_at_call 52
       refine (sameBox_any (hRy9.out.keep y9_12.out) hv12.out z_o1.out z_o2.out (tab_keep HTB9.out y9_12.out)).mono ?_
       rintro e w13 ⟨rfl, b13⟩
       replace b13 := hid b13
       have hk13 := hcall hk12 HSZ9 b13.out; have hk13' := hk13; unfold Held0 at hk13'; clear hHeld hk12
       refine hK.out _ _ ?_ (fun hHeld => ?_)
       · (try dsimp only); with_reducible exact hk13'
       clear hK K hk13'; try simp only [Act.put, lt, ly, lu]
       refine tk (i := 8) (h := ?_)
       try simp only [Act.put, lt, ly, lu]
       refine tk (i := 9) (h := ?_)
       try simp only [Act.put, lt, ly, lu]
       refine wpAnyH_done (by kernel_rfl) ?_ _
       clear hHeld
       clear z_t_0 z_t_1 z_t_2 z_t_3 z_t_4 z_t_5 z_r_0 z_r_1 z_r_2 z_y_0 z_y_1 z_y_2 z_y_3 z_y_4 z_y_5 hlt9_t hlt9_r hlt9_y
       clear hk13 HSZ9
       have y9_13 := hid (Below.step y9_12.out b13.out)
       have hRt13 := hid (hRt9.out.keep y9_13.out)
       have hRr13 := hid (hRr9.out.keep y9_13.out)
       have hRx13 := hid (hRx9.out.keep y9_13.out)
       have LRt13 := hid (at_keep LRt9.out y9_13.out)
       have LRr13 := hid (at_keep LRr9.out y9_13.out)
       have LRx13 := hid (at_keep LRx9.out y9_13.out)
       have HMB13 := hid (cell_keep HMB9.out y9_13.out)
       have HTB13 := hid (tab_keep HTB9.out y9_13.out)
       have HBB13 := hid (Below.step HBB9.out y9_13.out)
       clear hRt9 hRr9 hRx9 LRt9 LRr9 LRx9 HMB9 HTB9 HBB9 b10 b11 b12 b13
       go_upto_region 11 with fail
       have HTL := hid (show IsRat w13 (.agg #[.bool (decide (l.num < 0)), .slice C49 (len l.num.natAbs) j49, .slice C50 (len l.den) j50]) l from by obtain ⟨u1, u2, u3, u4, e, i1, i2, -, -⟩ := hRt13.out; simp only [Value.agg.injEq, Array.mk.injEq, List.cons.injEq, and_true, true_and] at e; obtain ⟨rfl, rfl, -, -, -⟩ := e; exact ⟨_, _, rfl, i1, i2⟩)
       obtain ⟨z_t_0, z_t_1, z_t_2, z_t_3, z_t_4, z_t_5⟩ := cells6 LRt13.out
       have HX := hid (signR_any e_sl.out HTL.out)
       go_wp2_with fail
       refine (HX.out).mono ?_
       rintro e w14 ⟨rfl, b14⟩
       replace b14 := hid b14
       clear HX
       clear z_t_0 z_t_1 z_t_2 z_t_3 z_t_4 z_t_5
       clear HTL
       have hRt14 := hid (hRt13.out.keep b14.out)
       have hRr14 := hid (hRr13.out.keep b14.out)
       have hRx14 := hid (hRx13.out.keep b14.out)
       have LRt14 := hid (at_keep LRt13.out b14.out)
       have LRr14 := hid (at_keep LRr13.out b14.out)
       have LRx14 := hid (at_keep LRx13.out b14.out)
       have HMB14 := hid (cell_keep HMB13.out b14.out)
       have HTB14 := hid (tab_keep HTB13.out b14.out)
       have HBB14 := hid (Below.step HBB13.out b14.out)
       clear hRt13 hRr13 hRx13 LRt13 LRr13 LRx13 HMB13 HTB13 HBB13 b14
       go_upto_region 13 with fail
       go_wp2_with fail
       obtain ⟨NN13, hNN⟩ : ∃ n : Nat, w14.heap.size = n := ⟨_, rfl⟩
       have HSZ13 : Hid (w14.heap.size = NN13) := hNN
       obtain ⟨z_t_0, z_t_1, z_t_2, z_t_3, z_t_4, z_t_5⟩ := cells6 LRt14.out
       have hlt13_t : w2.heap.size + 1 < NN13 := Nat.lt_of_lt_of_eq (World.block_lt_of_cell? _ _ z_t_0) hNN
       obtain ⟨z_r_0, z_r_1, z_r_2⟩ := cells3 LRr14.out
       have hlt13_r : w4.heap.size + 1 < NN13 := Nat.lt_of_lt_of_eq (World.block_lt_of_cell? _ _ z_r_0) hNN
       obtain ⟨z_x_0, z_x_1, z_x_2, z_x_3, z_x_4, z_x_5⟩ := cells6 LRx14.out
       have hlt13_x : w6.heap.size < NN13 := Nat.lt_of_lt_of_eq (World.block_lt_of_cell? _ _ z_x_0) hNN
       have H0 := Held0.start w14 NN13
       have H0' := H0
       unfold Held0 at H0'
       refine wp_region_held_drew (S := (fun w' => (∀ b o, b < NN13 → w'.cell? ⟨b, o, none⟩ = w14.cell? ⟨b, o, none⟩) ∧ Below (NN13) w14 w' ∧ Stay w14 w')) (by kernel_rfl) ?_ (fun hHeld => ?_)
       · (try dsimp only)
         exact H0'
       obtain ⟨w15, hw15⟩ : ∃ u, u = w14.drew := ⟨_, rfl⟩
       have b15 : Hid (Below w14.heap.size w14 w15) := by rw [hw15]; exact ⟨rfl, rfl, rfl, Nat.le_refl _, fun _ _ => rfl⟩
       rw [← hw15] at hHeld H0 ⊢
       clear hw15 H0' hNN
       as_aux_lemma =>
        refine tk (i := 0) (h := ?_)
        try simp only [Act.put, lt, ly, lu]
        refine tk (i := 1) (h := ?_)
        try simp only [Act.put, lt, ly, lu]
        refine tk (i := 2) (h := ?_)
        try simp only [Act.put, lt, ly, lu]
        refine tk (i := 3) (h := ?_)
        try simp only [Act.put, lt, ly, lu]
        refine tk (i := 4) (h := ?_)
        try simp only [Act.put, lt, ly, lu]
        refine tk (i := 5) (h := ?_)
        try simp only [Act.put, lt, ly, lu]
        refine wpAnyH_ready (rs := [6]) (by kernel_rfl) (by simp) (AllReadyH.cons (o := ?oq27) ?eq27 ?kq27 AllReadyH.nil)
        case eq27 => simp only [lg, lz, ls]; rfl
        intro K hK; go_simp; go_at_call 83
        refine (rootBoxR_any e_r1.out e_r2.out hl1.out hlh.out hg0.out (hRt14.out.keep b15.out) (hRr14.out.keep b15.out) z_l.out z_h.out z_g.out).mono ?_
        rintro e w16 ⟨v16, rfl, hv16, b16⟩
        obtain ⟨C69, j69, C70, j70, C71, j71, C72, j72, rfl, -, -, -, -⟩ := id hv16.opened
        replace hv16 := hid hv16
        replace b16 := hid b16
        have hk16 := hcall H0 HSZ13 b16.out; have hk16' := hk16; unfold Held0 at hk16'; clear hHeld H0
        refine hK.out _ _ ?_ (fun hHeld => ?_)
        · (try dsimp only); with_reducible exact hk16'
        clear hK K hk16'; try simp only [Act.put, lt, ly, lu]
        have y14_16 := hid (Below.step b15.out b16.out)
        refine wpAnyH_ready (rs := [7]) (by kernel_rfl) (by simp) (AllReadyH.cons (o := ?oq28) ?eq28 ?kq28 AllReadyH.nil)
        case eq28 => simp only [lg, lz, ls]; rfl
        intro K hK; go_simp; go_at_call 52
        refine (sameBox_any (hRx14.out.keep y14_16.out) hv16.out z_r1.out z_r2.out (tab_keep HTB14.out y14_16.out)).mono ?_
        rintro e w17 ⟨rfl, b17⟩
        replace b17 := hid b17
        have hk17 := hcall hk16 HSZ13 b17.out; have hk17' := hk17; unfold Held0 at hk17'; clear hHeld hk16
        refine hK.out _ _ ?_ (fun hHeld => ?_)
        · (try dsimp only); with_reducible exact hk17'
        clear hK K hk17'; try simp only [Act.put, lt, ly, lu]
        refine tk (i := 8) (h := ?_)
        try simp only [Act.put, lt, ly, lu]
        refine tk (i := 9) (h := ?_)
        try simp only [Act.put, lt, ly, lu]
        have y14_17 := hid (Below.step y14_16.out b17.out)
        refine wpAnyH_ready (rs := [10]) (by kernel_rfl) (by simp) (AllReadyH.cons (o := ?oq31) ?eq31 ?kq31 AllReadyH.nil)
        case eq31 => simp only [lg, lz, ls]; rfl
        intro K hK; go_simp; go_at_call 17
        refine (known_any (cell_keep HMB14.out y14_17.out) (tab_keep HTB14.out y14_17.out)).mono ?_
        rintro e w18 ⟨rfl, b18⟩
        replace b18 := hid b18
        have hk18 := hcall hk17 HSZ13 b18.out; have hk18' := hk18; unfold Held0 at hk18'; clear hHeld hk17
        refine hK.out _ _ ?_ (fun hHeld => ?_)
        · (try dsimp only); with_reducible exact hk18'
        clear hK K hk18'; try simp only [Act.put, lt, ly, lu]
        refine tk (i := 11) (h := ?_)
        try simp only [Act.put, lt, ly, lu]
        as_aux_lemma =>
         refine tk (i := 12) (h := ?_)
         try simp only [Act.put, lt, ly, lu]
         have y14_18 := hid (Below.step y14_17.out b18.out)
         have HE := hid (Below.step HBB14.out y14_18.out)
         refine wpAnyH_done (by kernel_rfl) ?_ _
         clear hHeld
         go_wp2_with fail
         go_ret
         exact ⟨rfl, HE.out⟩
theorem roots_any {w : World} {s1 s2 s3 : ByteArray} {mx : Int} (hM : w.cell? ⟨3, 0, none⟩ = some (.int .i64 mx)) (hT : TabAt 0 Lib.deBruijn64tab w) :
    Calls Tryz.prog 9 #[.agg #[.string s1, .string s2], .string s3] w (BoolRet w true) := by
  rcases Decidable.em (40 < s1.size) with h1 | h1
  · exact roots_long1 h1 hM hT
  · rcases Decidable.em (40 < s2.size) with h2 | h2
    · exact roots_long2 h1 h2 hM hT
    · rcases Decidable.em (40 < s3.size) with h3 | h3
      · exact roots_long3 h1 h2 h3 hM hT
      · exact roots_short h1 h2 h3 hM hT
end Go.Proofs.YtfppimacnhcflaaGreatDoor.Rf
