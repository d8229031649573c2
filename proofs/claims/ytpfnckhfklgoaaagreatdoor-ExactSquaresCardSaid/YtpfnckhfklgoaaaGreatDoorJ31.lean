/-
  Contracts of the functions that the law calls, for every input (SqA).
-/
import Derived.Test.YtpfnckhfklgoaaaGreatDoorJ30
set_option linter.all false
namespace Go.Proofs.YtpfnckhfklgoaaaGreatDoor
open Go.RowKit
open Vx

set_option maxRecDepth 100000 in
set_option maxHeartbeats 40000000 in
theorem squares_long1 {w : World} {s1 s2 s3 : ByteArray} {p : Nat} {mx : Int} (h1 : 40 < s1.size) (hM : w.cell? ⟨1, 0, none⟩ = some (.int .i64 mx)) (hT : TabAt 0 Lib.deBruijn64tab w) :
    Calls Tryz.prog 8 #[.agg #[.string s1, .string s2], .string s3, .int .u8 (p : Nat)] w (BoolRet w true) := by
  have hd1 : decide (((s1.size : Nat) : Int) > 40) = true := decide_eq_true (by omega)
  clear h1
  replace hM := Lib.hid hM
  replace hT := Lib.hid hT
  obtain ⟨w1, hw1⟩ : ∃ u, u = w.alloc (.cells #[.string s1, .string s2] 48) := ⟨_, rfl⟩
  have b1 : Hid (Below w.heap.size w w1) := by rw [hw1]; exact (Below.refl _ _).alloc (Nat.le_refl _) _
  have L1 : Hid (w1.heap[w.heap.size]? = some (.cells #[.string s1, .string s2] 48 (0, 0))) := by rw [hw1]; exact heap_alloc_new w _
  have hg : w1.heap[w.heap.size]? = some (.cells #[.string s1, .string s2] 48 (0, 0)) := ((Below.refl _ w1).block _ (Array.getElem?_eq_some_iff.1 L1.out).1).trans L1.out
  have z_ends_0 : w1.cell? ⟨w.heap.size, 0, none⟩ = some (.string s1) := cell_of_row _ _ _ _ _ _ hg
  have z_ends_1 : w1.cell? ⟨w.heap.size, 1, none⟩ = some (.string s2) := cell_of_row _ _ _ _ _ _ hg
  clear hg
  go_enter Tryz.func8, Tryz.ntmps8
  go_upto_region 1 with fail
  rw [← hw1]
  clear hw1
  have HX := Lib.hid (known_any (cell_keep hM.out b1.out) (tab_keep hT.out b1.out))
  go_wp2_with fail
  refine (HX.out).mono ?_
  rintro e w2 ⟨rfl, b2⟩
  replace b2 := Lib.hid b2
  clear HX
  have HE := Lib.hid (Below.step b1.out b2.out)
  go_wp2_with fail
  go_ret
  exact ⟨rfl, HE.out⟩

set_option maxRecDepth 100000 in
set_option maxHeartbeats 40000000 in
theorem squares_long2 {w : World} {s1 s2 s3 : ByteArray} {p : Nat} {mx : Int} (h1 : ¬ 40 < s1.size) (h2 : 40 < s2.size) (hM : w.cell? ⟨1, 0, none⟩ = some (.int .i64 mx)) (hT : TabAt 0 Lib.deBruijn64tab w) :
    Calls Tryz.prog 8 #[.agg #[.string s1, .string s2], .string s3, .int .u8 (p : Nat)] w (BoolRet w true) := by
  have hd1 : decide (((s1.size : Nat) : Int) > 40) = false := decide_eq_false (by omega)
  have hd2 : decide (((s2.size : Nat) : Int) > 40) = true := decide_eq_true (by omega)
  clear h1 h2
  replace hM := Lib.hid hM
  replace hT := Lib.hid hT
  obtain ⟨w1, hw1⟩ : ∃ u, u = w.alloc (.cells #[.string s1, .string s2] 48) := ⟨_, rfl⟩
  have b1 : Hid (Below w.heap.size w w1) := by rw [hw1]; exact (Below.refl _ _).alloc (Nat.le_refl _) _
  have L1 : Hid (w1.heap[w.heap.size]? = some (.cells #[.string s1, .string s2] 48 (0, 0))) := by rw [hw1]; exact heap_alloc_new w _
  have hg : w1.heap[w.heap.size]? = some (.cells #[.string s1, .string s2] 48 (0, 0)) := ((Below.refl _ w1).block _ (Array.getElem?_eq_some_iff.1 L1.out).1).trans L1.out
  have z_ends_0 : w1.cell? ⟨w.heap.size, 0, none⟩ = some (.string s1) := cell_of_row _ _ _ _ _ _ hg
  have z_ends_1 : w1.cell? ⟨w.heap.size, 1, none⟩ = some (.string s2) := cell_of_row _ _ _ _ _ _ hg
  clear hg
  go_enter Tryz.func8, Tryz.ntmps8
  go_upto_region 1 with fail
  rw [← hw1]
  clear hw1
  have HX := Lib.hid (known_any (cell_keep hM.out b1.out) (tab_keep hT.out b1.out))
  go_wp2_with fail
  refine (HX.out).mono ?_
  rintro e w2 ⟨rfl, b2⟩
  replace b2 := Lib.hid b2
  clear HX
  have HE := Lib.hid (Below.step b1.out b2.out)
  go_wp2_with fail
  go_ret
  exact ⟨rfl, HE.out⟩

set_option maxRecDepth 100000 in
set_option maxHeartbeats 40000000 in
theorem squares_long3 {w : World} {s1 s2 s3 : ByteArray} {p : Nat} {mx : Int} (h1 : ¬ 40 < s1.size) (h2 : ¬ 40 < s2.size) (h3 : 40 < s3.size) (hM : w.cell? ⟨1, 0, none⟩ = some (.int .i64 mx)) (hT : TabAt 0 Lib.deBruijn64tab w) :
    Calls Tryz.prog 8 #[.agg #[.string s1, .string s2], .string s3, .int .u8 (p : Nat)] w (BoolRet w true) := by
  have hd1 : decide (((s1.size : Nat) : Int) > 40) = false := decide_eq_false (by omega)
  have hd2 : decide (((s2.size : Nat) : Int) > 40) = false := decide_eq_false (by omega)
  have hd3 : decide (((s3.size : Nat) : Int) > 40) = true := decide_eq_true (by omega)
  clear h1 h2 h3
  replace hM := Lib.hid hM
  replace hT := Lib.hid hT
  obtain ⟨w1, hw1⟩ : ∃ u, u = w.alloc (.cells #[.string s1, .string s2] 48) := ⟨_, rfl⟩
  have b1 : Hid (Below w.heap.size w w1) := by rw [hw1]; exact (Below.refl _ _).alloc (Nat.le_refl _) _
  have L1 : Hid (w1.heap[w.heap.size]? = some (.cells #[.string s1, .string s2] 48 (0, 0))) := by rw [hw1]; exact heap_alloc_new w _
  have hg : w1.heap[w.heap.size]? = some (.cells #[.string s1, .string s2] 48 (0, 0)) := ((Below.refl _ w1).block _ (Array.getElem?_eq_some_iff.1 L1.out).1).trans L1.out
  have z_ends_0 : w1.cell? ⟨w.heap.size, 0, none⟩ = some (.string s1) := cell_of_row _ _ _ _ _ _ hg
  have z_ends_1 : w1.cell? ⟨w.heap.size, 1, none⟩ = some (.string s2) := cell_of_row _ _ _ _ _ _ hg
  clear hg
  go_enter Tryz.func8, Tryz.ntmps8
  go_upto_region 1 with fail
  rw [← hw1]
  clear hw1
  have HX := Lib.hid (known_any (cell_keep hM.out b1.out) (tab_keep hT.out b1.out))
  go_wp2_with fail
  refine (HX.out).mono ?_
  rintro e w2 ⟨rfl, b2⟩
  replace b2 := Lib.hid b2
  clear HX
  have HE := Lib.hid (Below.step b1.out b2.out)
  go_wp2_with fail
  go_ret
  exact ⟨rfl, HE.out⟩

set_option maxRecDepth 100000 in
set_option maxHeartbeats 40000000 in
theorem squares_grid {w : World} {s1 s2 s3 : ByteArray} {p : Nat} {mx : Int} {pa pb l h g : Rat} (ea : (parseV s1).1 = pa) (eb : (parseV s2).1 = pb) (eg : (parseV s3).1 = g) (hl : l = if pb < pa then pb else pa) (hh : h = if pb < pa then pa else pb) (h1 : ¬ 40 < s1.size) (h2 : ¬ 40 < s2.size) (h3 : ¬ 40 < s3.size) (hg : g.num.sign ≤ 0) (hM : w.cell? ⟨1, 0, none⟩ = some (.int .i64 mx)) (hT : TabAt 0 Lib.deBruijn64tab w) :
    Calls Tryz.prog 8 #[.agg #[.string s1, .string s2], .string s3, .int .u8 (p : Nat)] w (BoolRet w true) := by
  have hd1 : decide (((s1.size : Nat) : Int) > 40) = false := decide_eq_false (by omega)
  have hd2 : decide (((s2.size : Nat) : Int) > 40) = false := decide_eq_false (by omega)
  have hd3 : decide (((s3.size : Nat) : Int) > 40) = false := decide_eq_false (by omega)
  clear h1 h2 h3
  obtain ⟨ng, eng⟩ : ∃ n : Int, g.num.sign = n := ⟨_, rfl⟩
  have dg : decide (ng ≤ 0) = true := decide_eq_true (by rw [← eng]; exact hg)
  replace eng := Lib.hid eng
  clear hg
  replace hM := Lib.hid hM
  replace hT := Lib.hid hT
  obtain ⟨w1, hw1⟩ : ∃ u, u = w.alloc (.cells #[.string s1, .string s2] 48) := ⟨_, rfl⟩
  have b1 : Hid (Below w.heap.size w w1) := by rw [hw1]; exact (Below.refl _ _).alloc (Nat.le_refl _) _
  have L1 : Hid (w1.heap[w.heap.size]? = some (.cells #[.string s1, .string s2] 48 (0, 0))) := by rw [hw1]; exact heap_alloc_new w _
  have hg : w1.heap[w.heap.size]? = some (.cells #[.string s1, .string s2] 48 (0, 0)) := ((Below.refl _ w1).block _ (Array.getElem?_eq_some_iff.1 L1.out).1).trans L1.out
  have z_ends_0 : w1.cell? ⟨w.heap.size, 0, none⟩ = some (.string s1) := cell_of_row _ _ _ _ _ _ hg
  have z_ends_1 : w1.cell? ⟨w.heap.size, 1, none⟩ = some (.string s2) := cell_of_row _ _ _ _ _ _ hg
  clear hg
  go_enter Tryz.func8, Tryz.ntmps8
  go_upto_region 1 with fail
  rw [← hw1]
  clear hw1
  replace ea := Lib.hid ea
  replace eb := Lib.hid eb
  replace eg := Lib.hid eg
  replace hl := Lib.hid hl
  replace hh := Lib.hid hh
  have HX := Lib.hid (box_to (cell_keep hM.out b1.out) ea.out eb.out hl.out hh.out)
  go_wp2_with fail
  refine (HX.out).mono ?_
  rintro e w2 ⟨v2, rfl, hv2, b2⟩
  obtain ⟨C1, j1, C2, j2, C3, j3, C4, j4, rfl, hp2, hq2⟩ := id hv2.opened
  replace hv2 := Lib.hid hv2
  clear hp2 hq2
  replace b2 := Lib.hid b2
  clear HX
  clear z_ends_0 z_ends_1
  have HX := Lib.hid (number_val (cell_keep hM.out (Below.step b1.out b2.out)) eg.out)
  go_wp2_with fail
  refine (HX.out).mono ?_
  rintro e w3 ⟨v3, rfl, hv3, b3⟩
  obtain ⟨C5, j5, C6, j6, rfl, -, -⟩ := id hv3.opened
  replace hv3 := Lib.hid hv3
  replace b3 := Lib.hid b3
  clear HX
  go_upto_region 4 with fail
  obtain ⟨w4, hw4⟩ : ∃ u, u = (w3.alloc (.cells #[.bool (decide (l.num < 0)), .slice C1 (len l.num.natAbs) j1, .slice C2 (len (below l.den)) j2, .bool (decide (h.num < 0)), .slice C3 (len h.num.natAbs) j3, .slice C4 (len (below h.den)) j4] 53)).alloc (.cells #[.bool (decide (g.num < 0)), .slice C5 (len g.num.natAbs) j5, .slice C6 (len (below g.den)) j6] 27) := ⟨_, rfl⟩
  obtain ⟨b4, L4, M4⟩ := news2 w3 (.cells #[.bool (decide (l.num < 0)), .slice C1 (len l.num.natAbs) j1, .slice C2 (len (below l.den)) j2, .bool (decide (h.num < 0)), .slice C3 (len h.num.natAbs) j3, .slice C4 (len (below h.den)) j4] 53) (.cells #[.bool (decide (g.num < 0)), .slice C5 (len g.num.natAbs) j5, .slice C6 (len (below g.den)) j6] 27)
  rw [← hw4] at b4 L4 M4 ⊢
  clear hw4
  replace b4 := Lib.hid b4
  replace L4 := Lib.hid L4
  replace M4 := Lib.hid M4
  have hg : w4.heap[w3.heap.size + 1]? = some (.cells #[.bool (decide (g.num < 0)), .slice C5 (len g.num.natAbs) j5, .slice C6 (len (below g.den)) j6] 27 (0, 0)) := ((Below.refl _ w4).block _ (Array.getElem?_eq_some_iff.1 M4.out).1).trans M4.out
  have z_g_0 : w4.cell? ⟨w3.heap.size + 1, 0, none⟩ = some (.bool (decide (g.num < 0))) := cell_of_row _ _ _ _ _ _ hg
  have z_g_1 : w4.cell? ⟨w3.heap.size + 1, 1, none⟩ = some (.slice C5 (len g.num.natAbs) j5) := cell_of_row _ _ _ _ _ _ hg
  have z_g_2 : w4.cell? ⟨w3.heap.size + 1, 2, none⟩ = some (.slice C6 (len (below g.den)) j6) := cell_of_row _ _ _ _ _ _ hg
  clear hg
  have HX := Lib.hid (sign_val eng.out (hv3.out.keep b4.out))
  go_wp2_with fail
  refine (HX.out).mono ?_
  rintro e w5 ⟨rfl, b5⟩
  replace b5 := Lib.hid b5
  clear HX
  clear z_g_0 z_g_1 z_g_2
  have HX := Lib.hid (known_any (cell_keep hM.out (Below.step (Below.step (Below.step (Below.step b1.out b2.out) b3.out) b4.out) b5.out)) (tab_keep hT.out (Below.step (Below.step (Below.step (Below.step b1.out b2.out) b3.out) b4.out) b5.out)))
  go_wp2_with fail
  refine (HX.out).mono ?_
  rintro e w6 ⟨rfl, b6⟩
  replace b6 := Lib.hid b6
  clear HX
  have HE := Lib.hid (Below.step (Below.step (Below.step (Below.step (Below.step b1.out b2.out) b3.out) b4.out) b5.out) b6.out)
  go_wp2_with fail
  go_ret
  exact ⟨rfl, HE.out⟩
end Go.Proofs.YtpfnckhfklgoaaaGreatDoor
