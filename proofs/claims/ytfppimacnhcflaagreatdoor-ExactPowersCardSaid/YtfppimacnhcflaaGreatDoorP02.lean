/-
  Contracts of the functions that the law calls, for every input (Po).
-/
import Derived.Test.YtfppimacnhcflaaGreatDoorP01
set_option linter.all false
namespace Go.Proofs.YtfppimacnhcflaaGreatDoor.Rf
open Go.RowKit
open Rx
open Lib (hid)
open Vx (siz siz_num siz_den)
open List renaming getElem?_toArray → lg, getElem?_cons_zero → lz, getElem?_cons_succ → ls, setIfInBounds_toArray → lt, set_cons_zero → ly, set_cons_succ → lu

set_option maxRecDepth 100000 in
set_option maxHeartbeats 40000000 in
theorem powers_long1 {w : World} {sa sb : ByteArray} {n : Int} {mx : Int} (h1 : 60 < sa.size) (hM : w.cell? ⟨3, 0, none⟩ = some (.int .i64 mx)) (hT : TabAt 0 Lib.deBruijn64tab w) :
    Calls Tryz.prog 5 #[.string sa, .string sb, .int .i64 n] w (BoolRet w true) := by
  have d1 : decide (((sa.size : Nat) : Int) > 60) = true := decide_eq_true (by omega)
  have d1' : (((sa.size : Nat) : Int) > 60) := by omega
  clear h1
  replace hM := hid hM
  replace hT := hid hT
  go_enter Tryz.func5, Tryz.ntmps5
  have HX := hid (known_any (cell_keep hM.out (Below.refl _ w)) (tab_keep hT.out (Below.refl _ w)))
  go_wp2_with fail
  refine (HX.out).mono ?_
  rintro e w1 ⟨rfl, b1⟩
  replace b1 := hid b1
  clear HX
  have HE := hid b1.out
  go_wp2_with fail
  go_ret
  exact ⟨rfl, HE.out⟩

set_option maxRecDepth 100000 in
set_option maxHeartbeats 40000000 in
theorem powers_long2 {w : World} {sa sb : ByteArray} {n : Int} {mx : Int} (h1 : ¬ 60 < sa.size) (h2 : 60 < sb.size) (hM : w.cell? ⟨3, 0, none⟩ = some (.int .i64 mx)) (hT : TabAt 0 Lib.deBruijn64tab w) :
    Calls Tryz.prog 5 #[.string sa, .string sb, .int .i64 n] w (BoolRet w true) := by
  have d1 : decide (((sa.size : Nat) : Int) > 60) = false := decide_eq_false (by omega)
  have d1' : ¬ (((sa.size : Nat) : Int) > 60) := by omega
  have d2 : decide (((sb.size : Nat) : Int) > 60) = true := decide_eq_true (by omega)
  have d2' : (((sb.size : Nat) : Int) > 60) := by omega
  clear h1 h2
  replace hM := hid hM
  replace hT := hid hT
  go_enter Tryz.func5, Tryz.ntmps5
  have HX := hid (known_any (cell_keep hM.out (Below.refl _ w)) (tab_keep hT.out (Below.refl _ w)))
  go_wp2_with fail
  refine (HX.out).mono ?_
  rintro e w1 ⟨rfl, b1⟩
  replace b1 := hid b1
  clear HX
  have HE := hid b1.out
  go_wp2_with fail
  go_ret
  exact ⟨rfl, HE.out⟩

set_option maxRecDepth 100000 in
set_option maxHeartbeats 40000000 in
theorem powers_long3 {w : World} {sa sb : ByteArray} {n : Int} {mx : Int} (h1 : ¬ 60 < sa.size) (h2 : ¬ 60 < sb.size) (h3 : 12 < n) (h4 : n ≤ 64) (hM : w.cell? ⟨3, 0, none⟩ = some (.int .i64 mx)) (hT : TabAt 0 Lib.deBruijn64tab w) :
    Calls Tryz.prog 5 #[.string sa, .string sb, .int .i64 n] w (BoolRet w true) := by
  have d1 : decide (((sa.size : Nat) : Int) > 60) = false := decide_eq_false (by omega)
  have d1' : ¬ (((sa.size : Nat) : Int) > 60) := by omega
  have d2 : decide (((sb.size : Nat) : Int) > 60) = false := decide_eq_false (by omega)
  have d2' : ¬ (((sb.size : Nat) : Int) > 60) := by omega
  have d3 : decide (n > 12) = true := decide_eq_true (by omega)
  have d4 : decide (n ≤ 64) = true := decide_eq_true (by omega)
  clear h1 h2
  replace hM := hid hM
  replace hT := hid hT
  go_enter Tryz.func5, Tryz.ntmps5
  have HX := hid (known_any (cell_keep hM.out (Below.refl _ w)) (tab_keep hT.out (Below.refl _ w)))
  go_wp2_with fail
  refine (HX.out).mono ?_
  rintro e w1 ⟨rfl, b1⟩
  replace b1 := hid b1
  clear HX
  have HE := hid b1.out
  go_wp2_with fail
  go_ret
  exact ⟨rfl, HE.out⟩
theorem pow_no1 {w : World} {vx : Value} {x y : Rat} {n : Int} (hy : 0 = y) (hx : IsNum w vx x) (h : n < 0) : Calls Tryz.prog 41 #[vx, .int .i64 n] w (NumErrRet w y 3) := by rw [← hy]; exact pow_low hx h
theorem pow_no2 {w : World} {vx : Value} {x y : Rat} {n : Int} (hy : 0 = y) (hx : IsNum w vx x) (h : 64 < n) : Calls Tryz.prog 41 #[vx, .int .i64 n] w (NumErrRet w y 3) := by rw [← hy]; exact pow_high hx h

set_option maxRecDepth 100000 in
set_option maxHeartbeats 40000000 in
theorem powers_lo {w : World} {sa sb : ByteArray} {n : Int} {mx : Int} (h1 : ¬ 60 < sa.size) (h2 : ¬ 60 < sb.size) (h3 : n < 0) (hM : w.cell? ⟨3, 0, none⟩ = some (.int .i64 mx)) (hT : TabAt 0 Lib.deBruijn64tab w) :
    Calls Tryz.prog 5 #[.string sa, .string sb, .int .i64 n] w (BoolRet w true) := by
  obtain ⟨x, e_x⟩ : ∃ v_ : Rat, (parseV sa).1 = v_ := ⟨_, rfl⟩
  obtain ⟨g, e_g⟩ : ∃ v_ : Rat, (parseV sb).1 = v_ := ⟨_, rfl⟩
  have z_x : siz x ≤ 130 := by rw [← e_x]; have := parse_siz_le sa; omega
  have z_g : siz g ≤ 130 := by rw [← e_g]; have := parse_siz_le sb; omega
  have hla : sa.size ≤ 1048576 := by omega
  have hlb : sb.size ≤ 1048576 := by omega
  obtain ⟨y, e_y⟩ : ∃ v_ : Rat, 0 = v_ := ⟨_, rfl⟩
  have y_s : y.num.sign = 0 := by rw [← e_y]; rfl
  obtain ⟨sg, e_sg⟩ : ∃ v_ : Int, g.num.sign = v_ := ⟨_, rfl⟩
  have s_x : siz x ≤ 536870912 := by omega
  have t_x : siz x ≤ 16777216 := by omega
  have s_g : siz g ≤ 536870912 := by omega
  have t_g : siz g ≤ 16777216 := by omega
  have h9 := hid (show n < 0 from h3)
  have d1 : decide (((sa.size : Nat) : Int) > 60) = false := decide_eq_false (by omega)
  have d1' : ¬ (((sa.size : Nat) : Int) > 60) := by omega
  have d2 : decide (((sb.size : Nat) : Int) > 60) = false := decide_eq_false (by omega)
  have d2' : ¬ (((sb.size : Nat) : Int) > 60) := by omega
  have d3 : decide (n > 12) = false := decide_eq_false (by omega)
  have l0 : decide (n < 0) = true := decide_eq_true (by omega)
  rcases Decidable.em (0 < g.num) with hg | hg
  · obtain ⟨z, e_z⟩ : ∃ v_ : Rat, flr (x / g + mkRat 1 2) * g = v_ := ⟨_, rfl⟩
    have z_z : siz z ≤ 4100 := by
      rw [← e_z]
      have i1 := Vx.siz_mul (flr (x / g + mkRat 1 2)) g
      have i2 := siz_flr (x / g + mkRat 1 2)
      have i3 := Vx.siz_add (x / g) (mkRat 1 2)
      have i4 := Vx.siz_div x g
      have i5 : siz (mkRat 1 2) ≤ 3 := by decide +kernel
      omega
    have l9 : decide (sg ≤ 0) = false := decide_eq_false (by rw [← e_sg]; have := Int.sign_eq_one_of_pos hg; omega)
    have g0 : g ≠ 0 := by intro e; rw [e] at hg; exact absurd hg (by decide)
    replace z_z := hid z_z
    replace e_z := hid e_z
    replace g0 := hid g0
    replace hg := hid hg
    replace s_x := hid s_x
    replace s_g := hid s_g
    replace t_x := hid t_x
    replace t_g := hid t_g
    replace hla := hid hla
    replace hlb := hid hlb
    replace e_x := hid e_x
    replace e_g := hid e_g
    replace e_y := hid e_y
    replace e_sg := hid e_sg
    replace y_s := hid y_s
    clear z_x z_g h1 h2 h3
    skip
    replace hM := hid hM
    replace hT := hid hT
    go_enter Tryz.func5, Tryz.ntmps5
    have HX := hid (both_any e_x.out hla.out (cell_keep hM.out (Below.refl _ w)))
    go_wp2_with fail
    refine (HX.out).mono ?_
    rintro e w1 ⟨va1, vb1, rfl, ha1, hb1, b1⟩
    obtain ⟨C1, j1, C2, j2, rfl, -, -⟩ := id ha1.opened
    replace ha1 := hid ha1
    obtain ⟨C3, j3, C4, j4, rfl, -, -⟩ := id hb1.opened
    replace hb1 := hid hb1
    replace b1 := hid b1
    clear HX
    go_upto_region 4 with fail
    obtain ⟨w2, hw2⟩ : ∃ u, u = (w1.alloc (.cells #[.bool (decide (x.num < 0)), .slice C1 (Vx.len x.num.natAbs) j1, .slice C2 (Vx.len (below x.den)) j2] 25)).alloc (.cells #[.bool (decide (x.num < 0)), .slice C3 (len x.num.natAbs) j3, .slice C4 (len x.den) j4] 33) := ⟨_, rfl⟩
    obtain ⟨b2, L2, M2⟩ := news2 w1 (.cells #[.bool (decide (x.num < 0)), .slice C1 (Vx.len x.num.natAbs) j1, .slice C2 (Vx.len (below x.den)) j2] 25) (.cells #[.bool (decide (x.num < 0)), .slice C3 (len x.num.natAbs) j3, .slice C4 (len x.den) j4] 33)
    rw [← hw2] at b2 L2 M2 ⊢
    clear hw2
    replace b2 := hid b2
    replace L2 := hid L2
    replace M2 := hid M2
    have HX := hid (both_any e_g.out hlb.out (cell_keep hM.out (Below.step b1.out b2.out)))
    go_wp2_with fail
    refine (HX.out).mono ?_
    rintro e w3 ⟨va3, vb3, rfl, ha3, hb3, b3⟩
    obtain ⟨C5, j5, C6, j6, rfl, -, -⟩ := id ha3.opened
    replace ha3 := hid ha3
    obtain ⟨C7, j7, C8, j8, rfl, -, -⟩ := id hb3.opened
    replace hb3 := hid hb3
    replace b3 := hid b3
    clear HX
    go_upto_region 5 with fail
    obtain ⟨w4, hw4⟩ : ∃ u, u = (w3.alloc (.cells #[.bool (decide (g.num < 0)), .slice C5 (Vx.len g.num.natAbs) j5, .slice C6 (Vx.len (below g.den)) j6] 25)).alloc (.cells #[.bool (decide (g.num < 0)), .slice C7 (len g.num.natAbs) j7, .slice C8 (len g.den) j8] 33) := ⟨_, rfl⟩
    obtain ⟨b4, L4, M4⟩ := news2 w3 (.cells #[.bool (decide (g.num < 0)), .slice C5 (Vx.len g.num.natAbs) j5, .slice C6 (Vx.len (below g.den)) j6] 25) (.cells #[.bool (decide (g.num < 0)), .slice C7 (len g.num.natAbs) j7, .slice C8 (len g.den) j8] 33)
    rw [← hw4] at b4 L4 M4 ⊢
    clear hw4
    replace b4 := hid b4
    replace L4 := hid L4
    replace M4 := hid M4
    have hRx4 := hid (ha1.out.keep (Below.step (Below.step b2.out b3.out) b4.out))
    have hRp4 := hid (hb1.out.keep (Below.step (Below.step b2.out b3.out) b4.out))
    have hRg4 := hid (ha3.out.keep b4.out)
    have hRq4 := hid (hb3.out.keep b4.out)
    have LRx4 : Hid (w4.heap[w1.heap.size]? = some (.cells #[.bool (decide (x.num < 0)), .slice C1 (Vx.len x.num.natAbs) j1, .slice C2 (Vx.len (below x.den)) j2] 25 (0, 0))) := ((Below.step b3.out b4.out).block _ (Array.getElem?_eq_some_iff.1 L2.out).1).trans L2.out
    have LRp4 : Hid (w4.heap[w1.heap.size + 1]? = some (.cells #[.bool (decide (x.num < 0)), .slice C3 (len x.num.natAbs) j3, .slice C4 (len x.den) j4] 33 (0, 0))) := ((Below.step b3.out b4.out).block _ (Array.getElem?_eq_some_iff.1 M2.out).1).trans M2.out
    have HMB4 := hid (cell_keep hM.out (Below.step (Below.step (Below.step b1.out b2.out) b3.out) b4.out))
    have HTB4 := hid (tab_keep hT.out (Below.step (Below.step (Below.step b1.out b2.out) b3.out) b4.out))
    have HBB4 := hid (Below.step (Below.step (Below.step b1.out b2.out) b3.out) b4.out)
    clear ha1 hb1 ha3 hb3 L2 M2 hM hT b1 b2 b3 b4
    have hg : w4.heap[w1.heap.size]? = some (.cells #[.bool (decide (x.num < 0)), .slice C1 (Vx.len x.num.natAbs) j1, .slice C2 (Vx.len (below x.den)) j2] 25 (0, 0)) := ((Below.refl _ w4).block _ (Array.getElem?_eq_some_iff.1 LRx4.out).1).trans LRx4.out
    obtain ⟨z_x_0, z_x_1, z_x_2⟩ := cells3 hg
    clear hg
    have HX := hid (pow_no1 e_y.out hRx4.out h9.out)
    go_wp2_with fail
    refine (HX.out).mono ?_
    rintro e w5 ⟨v5, rfl, hv5, b5⟩
    obtain ⟨C9, j9, C10, j10, rfl, -, -⟩ := id hv5.opened
    replace hv5 := hid hv5
    replace b5 := hid b5
    clear HX
    clear z_x_0 z_x_1 z_x_2
    go_upto_region 6 with fail
    obtain ⟨w6, hw6⟩ : ∃ u, u = w5.alloc (.cells #[.bool (decide (y.num < 0)), .slice C9 (Vx.len y.num.natAbs) j9, .slice C10 (Vx.len (below y.den)) j10] 25) := ⟨_, rfl⟩
    have b6 : Hid (Below w5.heap.size w5 w6) := by rw [hw6]; exact (Below.refl _ _).alloc (Nat.le_refl _) _
    have L6 : Hid (w6.heap[w5.heap.size]? = some (.cells #[.bool (decide (y.num < 0)), .slice C9 (Vx.len y.num.natAbs) j9, .slice C10 (Vx.len (below y.den)) j10] 25 (0, 0))) := by rw [hw6]; exact heap_alloc_new w5 _
    rw [← hw6]
    clear hw6
    have hg : w6.heap[w1.heap.size]? = some (.cells #[.bool (decide (x.num < 0)), .slice C1 (Vx.len x.num.natAbs) j1, .slice C2 (Vx.len (below x.den)) j2] 25 (0, 0)) := ((Below.step b5.out b6.out).block _ (Array.getElem?_eq_some_iff.1 LRx4.out).1).trans LRx4.out
    obtain ⟨z_x_0, z_x_1, z_x_2⟩ := cells3 hg
    clear hg
    have hg : w6.heap[w3.heap.size]? = some (.cells #[.bool (decide (g.num < 0)), .slice C5 (Vx.len g.num.natAbs) j5, .slice C6 (Vx.len (below g.den)) j6] 25 (0, 0)) := ((Below.step b5.out b6.out).block _ (Array.getElem?_eq_some_iff.1 L4.out).1).trans L4.out
    obtain ⟨z_g_0, z_g_1, z_g_2⟩ := cells3 hg
    clear hg
    have HX := hid (round_val e_z.out hg.out (hRx4.out.keep (Below.step b5.out b6.out)) (hRg4.out.keep (Below.step b5.out b6.out)) s_x.out s_g.out)
    go_wp2_with fail
    refine (HX.out).mono ?_
    rintro e w7 ⟨v7, rfl, hv7, b7⟩
    obtain ⟨C11, j11, C12, j12, rfl, -, -⟩ := id hv7.opened
    replace hv7 := hid hv7
    replace b7 := hid b7
    clear HX
    clear z_x_0 z_x_1 z_x_2 z_g_0 z_g_1 z_g_2
    go_upto_region 7 with fail
    obtain ⟨w8, hw8⟩ : ∃ u, u = w7.alloc (.cells #[.bool (decide (z.num < 0)), .slice C11 (Vx.len z.num.natAbs) j11, .slice C12 (Vx.len (below z.den)) j12] 25) := ⟨_, rfl⟩
    have b8 : Hid (Below w7.heap.size w7 w8) := by rw [hw8]; exact (Below.refl _ _).alloc (Nat.le_refl _) _
    have L8 : Hid (w8.heap[w7.heap.size]? = some (.cells #[.bool (decide (z.num < 0)), .slice C11 (Vx.len z.num.natAbs) j11, .slice C12 (Vx.len (below z.den)) j12] 25 (0, 0))) := by rw [hw8]; exact heap_alloc_new w7 _
    rw [← hw8]
    clear hw8
    have hRx8 := hid (hRx4.out.keep (Below.step (Below.step (Below.step b5.out b6.out) b7.out) b8.out))
    have hRp8 := hid (hRp4.out.keep (Below.step (Below.step (Below.step b5.out b6.out) b7.out) b8.out))
    have hRg8 := hid (hRg4.out.keep (Below.step (Below.step (Below.step b5.out b6.out) b7.out) b8.out))
    have hRq8 := hid (hRq4.out.keep (Below.step (Below.step (Below.step b5.out b6.out) b7.out) b8.out))
    have hRy8 := hid (hv5.out.keep (Below.step (Below.step b6.out b7.out) b8.out))
    have hRz8 := hid (hv7.out.keep b8.out)
    have LRx8 : Hid (w8.heap[w1.heap.size]? = some (.cells #[.bool (decide (x.num < 0)), .slice C1 (Vx.len x.num.natAbs) j1, .slice C2 (Vx.len (below x.den)) j2] 25 (0, 0))) := ((Below.step (Below.step (Below.step b5.out b6.out) b7.out) b8.out).block _ (Array.getElem?_eq_some_iff.1 LRx4.out).1).trans LRx4.out
    have LRp8 : Hid (w8.heap[w1.heap.size + 1]? = some (.cells #[.bool (decide (x.num < 0)), .slice C3 (len x.num.natAbs) j3, .slice C4 (len x.den) j4] 33 (0, 0))) := ((Below.step (Below.step (Below.step b5.out b6.out) b7.out) b8.out).block _ (Array.getElem?_eq_some_iff.1 LRp4.out).1).trans LRp4.out
    have LRg8 : Hid (w8.heap[w3.heap.size]? = some (.cells #[.bool (decide (g.num < 0)), .slice C5 (Vx.len g.num.natAbs) j5, .slice C6 (Vx.len (below g.den)) j6] 25 (0, 0))) := ((Below.step (Below.step (Below.step b5.out b6.out) b7.out) b8.out).block _ (Array.getElem?_eq_some_iff.1 L4.out).1).trans L4.out
    have LRq8 : Hid (w8.heap[w3.heap.size + 1]? = some (.cells #[.bool (decide (g.num < 0)), .slice C7 (len g.num.natAbs) j7, .slice C8 (len g.den) j8] 33 (0, 0))) := ((Below.step (Below.step (Below.step b5.out b6.out) b7.out) b8.out).block _ (Array.getElem?_eq_some_iff.1 M4.out).1).trans M4.out
    have LRy8 : Hid (w8.heap[w5.heap.size]? = some (.cells #[.bool (decide (y.num < 0)), .slice C9 (Vx.len y.num.natAbs) j9, .slice C10 (Vx.len (below y.den)) j10] 25 (0, 0))) := ((Below.step b7.out b8.out).block _ (Array.getElem?_eq_some_iff.1 L6.out).1).trans L6.out
    have HMB8 := hid (cell_keep HMB4.out (Below.step (Below.step (Below.step b5.out b6.out) b7.out) b8.out))
    have HTB8 := hid (tab_keep HTB4.out (Below.step (Below.step (Below.step b5.out b6.out) b7.out) b8.out))
    have HBB8 := hid (Below.step HBB4.out (Below.step (Below.step (Below.step b5.out b6.out) b7.out) b8.out))
    clear hRx4 hRp4 hRg4 hRq4 hv5 hv7 LRx4 LRp4 L4 M4 L6 HMB4 HTB4 HBB4 b5 b6 b7 b8
    have hg : w8.heap[w5.heap.size]? = some (.cells #[.bool (decide (y.num < 0)), .slice C9 (Vx.len y.num.natAbs) j9, .slice C10 (Vx.len (below y.den)) j10] 25 (0, 0)) := ((Below.refl _ w8).block _ (Array.getElem?_eq_some_iff.1 LRy8.out).1).trans LRy8.out
    obtain ⟨z_y_0, z_y_1, z_y_2⟩ := cells3 hg
    clear hg
    have HX := hid (sign_val y_s.out hRy8.out)
    go_wp2_with fail
    refine (HX.out).mono ?_
    rintro e w9 ⟨rfl, b9⟩
    replace b9 := hid b9
    clear HX
    clear z_y_0 z_y_1 z_y_2
    have hRx9 := hid (hRx8.out.keep b9.out)
    have hRp9 := hid (hRp8.out.keep b9.out)
    have hRg9 := hid (hRg8.out.keep b9.out)
    have hRq9 := hid (hRq8.out.keep b9.out)
    have hRz9 := hid (hRz8.out.keep b9.out)
    have LRx9 : Hid (w9.heap[w1.heap.size]? = some (.cells #[.bool (decide (x.num < 0)), .slice C1 (Vx.len x.num.natAbs) j1, .slice C2 (Vx.len (below x.den)) j2] 25 (0, 0))) := (b9.out.block _ (Array.getElem?_eq_some_iff.1 LRx8.out).1).trans LRx8.out
    have LRp9 : Hid (w9.heap[w1.heap.size + 1]? = some (.cells #[.bool (decide (x.num < 0)), .slice C3 (len x.num.natAbs) j3, .slice C4 (len x.den) j4] 33 (0, 0))) := (b9.out.block _ (Array.getElem?_eq_some_iff.1 LRp8.out).1).trans LRp8.out
    have LRg9 : Hid (w9.heap[w3.heap.size]? = some (.cells #[.bool (decide (g.num < 0)), .slice C5 (Vx.len g.num.natAbs) j5, .slice C6 (Vx.len (below g.den)) j6] 25 (0, 0))) := (b9.out.block _ (Array.getElem?_eq_some_iff.1 LRg8.out).1).trans LRg8.out
    have LRq9 : Hid (w9.heap[w3.heap.size + 1]? = some (.cells #[.bool (decide (g.num < 0)), .slice C7 (len g.num.natAbs) j7, .slice C8 (len g.den) j8] 33 (0, 0))) := (b9.out.block _ (Array.getElem?_eq_some_iff.1 LRq8.out).1).trans LRq8.out
    have LRz9 : Hid (w9.heap[w7.heap.size]? = some (.cells #[.bool (decide (z.num < 0)), .slice C11 (Vx.len z.num.natAbs) j11, .slice C12 (Vx.len (below z.den)) j12] 25 (0, 0))) := (b9.out.block _ (Array.getElem?_eq_some_iff.1 L8.out).1).trans L8.out
    have HMB9 := hid (cell_keep HMB8.out b9.out)
    have HTB9 := hid (tab_keep HTB8.out b9.out)
    have HBB9 := hid (Below.step HBB8.out b9.out)
    clear hRx8 hRp8 hRg8 hRq8 hRz8 LRx8 LRp8 LRg8 LRq8 L8 HMB8 HTB8 HBB8 b9
    go_upto_region 12 with fail
    have hg : w9.heap[w3.heap.size + 1]? = some (.cells #[.bool (decide (g.num < 0)), .slice C7 (len g.num.natAbs) j7, .slice C8 (len g.den) j8] 33 (0, 0)) := ((Below.refl _ w9).block _ (Array.getElem?_eq_some_iff.1 LRq9.out).1).trans LRq9.out
    obtain ⟨z_q_0, z_q_1, z_q_2⟩ := cells3 hg
    clear hg
    have HX := hid (signR_any e_sg.out hRq9.out)
    go_wp2_with fail
    refine (HX.out).mono ?_
    rintro e w10 ⟨rfl, b10⟩
    replace b10 := hid b10
    clear HX
    clear z_q_0 z_q_1 z_q_2
    have hRp10 := hid (hRp9.out.keep b10.out)
    have hRq10 := hid (hRq9.out.keep b10.out)
    have hRz10 := hid (hRz9.out.keep b10.out)
    have LRp10 : Hid (w10.heap[w1.heap.size + 1]? = some (.cells #[.bool (decide (x.num < 0)), .slice C3 (len x.num.natAbs) j3, .slice C4 (len x.den) j4] 33 (0, 0))) := (b10.out.block _ (Array.getElem?_eq_some_iff.1 LRp9.out).1).trans LRp9.out
    have LRq10 : Hid (w10.heap[w3.heap.size + 1]? = some (.cells #[.bool (decide (g.num < 0)), .slice C7 (len g.num.natAbs) j7, .slice C8 (len g.den) j8] 33 (0, 0))) := (b10.out.block _ (Array.getElem?_eq_some_iff.1 LRq9.out).1).trans LRq9.out
    have LRz10 : Hid (w10.heap[w7.heap.size]? = some (.cells #[.bool (decide (z.num < 0)), .slice C11 (Vx.len z.num.natAbs) j11, .slice C12 (Vx.len (below z.den)) j12] 25 (0, 0))) := (b10.out.block _ (Array.getElem?_eq_some_iff.1 LRz9.out).1).trans LRz9.out
    have HMB10 := hid (cell_keep HMB9.out b10.out)
    have HTB10 := hid (tab_keep HTB9.out b10.out)
    have HBB10 := hid (Below.step HBB9.out b10.out)
    clear hRp9 hRq9 hRz9 LRp9 LRq9 LRz9 HMB9 HTB9 HBB9 b10
    go_upto_region 14 with fail
    go_wp2_with fail
    obtain ⟨NNb, hNN⟩ : ∃ n : Nat, w10.heap.size = n := ⟨_, rfl⟩
    have HSZb : Hid (w10.heap.size = NNb) := hNN
    have hg : w10.heap[w1.heap.size + 1]? = some (.cells #[.bool (decide (x.num < 0)), .slice C3 (len x.num.natAbs) j3, .slice C4 (len x.den) j4] 33 (0, 0)) := ((Below.refl _ w10).block _ (Array.getElem?_eq_some_iff.1 LRp10.out).1).trans LRp10.out
    obtain ⟨z_p_0, z_p_1, z_p_2⟩ := cells3 hg
    clear hg
    have hltb_p : w1.heap.size + 1 < NNb := Nat.lt_of_lt_of_eq (World.block_lt_of_cell? _ _ z_p_0) hNN
    have hg : w10.heap[w3.heap.size + 1]? = some (.cells #[.bool (decide (g.num < 0)), .slice C7 (len g.num.natAbs) j7, .slice C8 (len g.den) j8] 33 (0, 0)) := ((Below.refl _ w10).block _ (Array.getElem?_eq_some_iff.1 LRq10.out).1).trans LRq10.out
    obtain ⟨z_q_0, z_q_1, z_q_2⟩ := cells3 hg
    clear hg
    have hltb_q : w3.heap.size + 1 < NNb := Nat.lt_of_lt_of_eq (World.block_lt_of_cell? _ _ z_q_0) hNN
    have hg : w10.heap[w7.heap.size]? = some (.cells #[.bool (decide (z.num < 0)), .slice C11 (Vx.len z.num.natAbs) j11, .slice C12 (Vx.len (below z.den)) j12] 25 (0, 0)) := ((Below.refl _ w10).block _ (Array.getElem?_eq_some_iff.1 LRz10.out).1).trans LRz10.out
    obtain ⟨z_z_0, z_z_1, z_z_2⟩ := cells3 hg
    clear hg
    have hltb_z : w7.heap.size < NNb := Nat.lt_of_lt_of_eq (World.block_lt_of_cell? _ _ z_z_0) hNN
    have H0 := Held0.start w10 NNb
    have H0' := H0
    unfold Held0 at H0'
    refine wp_region_held_drew (S := (fun w' => (∀ b o, b < NNb → w'.cell? ⟨b, o, none⟩ = w10.cell? ⟨b, o, none⟩) ∧ Below (NNb) w10 w' ∧ Stay w10 w')) (by kernel_rfl) ?_ (fun hHeld => ?_)
    · (try dsimp only)
      exact H0'
    obtain ⟨w11, hw11⟩ : ∃ u, u = w10.drew := ⟨_, rfl⟩
    have b11 : Hid (Below w10.heap.size w10 w11) := by rw [hw11]; exact ⟨rfl, rfl, rfl, Nat.le_refl _, fun _ _ => rfl⟩
    rw [← hw11] at hHeld H0 ⊢
    clear hw11 H0' hNN
    as_aux_lemma =>
     refine tk (i := 0) (h := ?_)
     try simp only [Act.put, lt, ly, lu]
     refine tk (i := 1) (h := ?_)
     try simp only [Act.put, lt, ly, lu]
     refine tk (i := 2) (h := ?_)
     try simp only [Act.put, lt, ly, lu]
     refine tk (i := 3) (h := ?_)
     try simp only [Act.put, lt, ly, lu]
     refine tk (i := 4) (h := ?_)
     try simp only [Act.put, lt, ly, lu]
     refine tk (i := 5) (h := ?_)
     try simp only [Act.put, lt, ly, lu]
     refine wpAnyH_ready (rs := [6]) (by kernel_rfl) (by simp) (AllReadyH.cons (o := ?oq7) ?eq7 ?kq7 AllReadyH.nil)
     case eq7 => simp only [lg, lz, ls]; rfl
     intro K hK; go_simp; go_at_call 44
     refine (roundR_any g0.out e_z.out (hRp10.out.keep b11.out) (hRq10.out.keep b11.out) t_x.out t_g.out).mono ?_
     rintro e w12 ⟨v12, rfl, hv12, b12⟩
     obtain ⟨C13, j13, C14, j14, rfl, -, -⟩ := id hv12.opened
     replace hv12 := hid hv12
     replace b12 := hid b12
     have hk12 := hcall H0 HSZb b12.out; have hk12' := hk12; unfold Held0 at hk12'; clear hHeld H0
     refine hK.out _ _ ?_ (fun hHeld => ?_)
     · (try dsimp only); with_reducible exact hk12'
     clear hK K hk12'; try simp only [Act.put, lt, ly, lu]
     refine wpAnyH_ready (rs := [7]) (by kernel_rfl) (by simp) (AllReadyH.cons (o := ?oq8) ?eq8 ?kq8 AllReadyH.nil)
     case eq8 => simp only [lg, lz, ls]; rfl
     intro K hK; go_simp; go_at_call 13
     refine (same_any (hRz10.out.keep (Below.step b11.out b12.out)) hv12.out z_z.out (tab_keep HTB10.out (Below.step b11.out b12.out))).mono ?_
     rintro e w13 ⟨rfl, b13⟩
     replace b13 := hid b13
     have hk13 := hcall hk12 HSZb b13.out; have hk13' := hk13; unfold Held0 at hk13'; clear hHeld hk12
     refine hK.out _ _ ?_ (fun hHeld => ?_)
     · (try dsimp only); with_reducible exact hk13'
     clear hK K hk13'; try simp only [Act.put, lt, ly, lu]
     refine tk (i := 8) (h := ?_)
     try simp only [Act.put, lt, ly, lu]
     refine tk (i := 9) (h := ?_)
     try simp only [Act.put, lt, ly, lu]
     refine wpAnyH_ready (rs := [10]) (by kernel_rfl) (by simp) (AllReadyH.cons (o := ?oq11) ?eq11 ?kq11 AllReadyH.nil)
     case eq11 => simp only [lg, lz, ls]; rfl
     intro K hK; go_simp; go_at_call 17
     refine (known_any (cell_keep HMB10.out (Below.step (Below.step b11.out b12.out) b13.out)) (tab_keep HTB10.out (Below.step (Below.step b11.out b12.out) b13.out))).mono ?_
     rintro e w14 ⟨rfl, b14⟩
     replace b14 := hid b14
     have hk14 := hcall hk13 HSZb b14.out; have hk14' := hk14; unfold Held0 at hk14'; clear hHeld hk13
     refine hK.out _ _ ?_ (fun hHeld => ?_)
     · (try dsimp only); with_reducible exact hk14'
     clear hK K hk14'; try simp only [Act.put, lt, ly, lu]
     refine tk (i := 11) (h := ?_)
     try simp only [Act.put, lt, ly, lu]
     as_aux_lemma =>
      refine tk (i := 12) (h := ?_)
      try simp only [Act.put, lt, ly, lu]
      have HE := hid (Below.step HBB10.out (Below.step (Below.step (Below.step b11.out b12.out) b13.out) b14.out))
      refine wpAnyH_done (by kernel_rfl) ?_ _
      clear hHeld
      go_wp2_with fail
      go_ret
      exact ⟨rfl, HE.out⟩
  · obtain ⟨z, e_z⟩ : ∃ v_ : Rat, 0 = v_ := ⟨_, rfl⟩
    have z_s : z.num.sign = 0 := by rw [← e_z]; rfl
    have l9 : decide (sg ≤ 0) = true := decide_eq_true (by rw [← e_sg]; exact Int.sign_nonpos_iff.2 (by omega))
    replace hg := hid (show g.num ≤ 0 by omega)
    replace z_s := hid z_s
    replace e_z := hid e_z
    replace s_x := hid s_x
    replace s_g := hid s_g
    replace t_x := hid t_x
    replace t_g := hid t_g
    replace hla := hid hla
    replace hlb := hid hlb
    replace e_x := hid e_x
    replace e_g := hid e_g
    replace e_y := hid e_y
    replace e_sg := hid e_sg
    replace y_s := hid y_s
    clear z_x z_g h1 h2 h3
    skip
    replace hM := hid hM
    replace hT := hid hT
    go_enter Tryz.func5, Tryz.ntmps5
    have HX := hid (both_any e_x.out hla.out (cell_keep hM.out (Below.refl _ w)))
    go_wp2_with fail
    refine (HX.out).mono ?_
    rintro e w1 ⟨va1, vb1, rfl, ha1, hb1, b1⟩
    obtain ⟨C15, j15, C16, j16, rfl, -, -⟩ := id ha1.opened
    replace ha1 := hid ha1
    obtain ⟨C17, j17, C18, j18, rfl, -, -⟩ := id hb1.opened
    replace hb1 := hid hb1
    replace b1 := hid b1
    clear HX
    go_upto_region 4 with fail
    obtain ⟨w2, hw2⟩ : ∃ u, u = (w1.alloc (.cells #[.bool (decide (x.num < 0)), .slice C15 (Vx.len x.num.natAbs) j15, .slice C16 (Vx.len (below x.den)) j16] 25)).alloc (.cells #[.bool (decide (x.num < 0)), .slice C17 (len x.num.natAbs) j17, .slice C18 (len x.den) j18] 33) := ⟨_, rfl⟩
    obtain ⟨b2, L2, M2⟩ := news2 w1 (.cells #[.bool (decide (x.num < 0)), .slice C15 (Vx.len x.num.natAbs) j15, .slice C16 (Vx.len (below x.den)) j16] 25) (.cells #[.bool (decide (x.num < 0)), .slice C17 (len x.num.natAbs) j17, .slice C18 (len x.den) j18] 33)
    rw [← hw2] at b2 L2 M2 ⊢
    clear hw2
    replace b2 := hid b2
    replace L2 := hid L2
    replace M2 := hid M2
    have HX := hid (both_any e_g.out hlb.out (cell_keep hM.out (Below.step b1.out b2.out)))
    go_wp2_with fail
    refine (HX.out).mono ?_
    rintro e w3 ⟨va3, vb3, rfl, ha3, hb3, b3⟩
    obtain ⟨C19, j19, C20, j20, rfl, -, -⟩ := id ha3.opened
    replace ha3 := hid ha3
    obtain ⟨C21, j21, C22, j22, rfl, -, -⟩ := id hb3.opened
    replace hb3 := hid hb3
    replace b3 := hid b3
    clear HX
    go_upto_region 5 with fail
    obtain ⟨w4, hw4⟩ : ∃ u, u = (w3.alloc (.cells #[.bool (decide (g.num < 0)), .slice C19 (Vx.len g.num.natAbs) j19, .slice C20 (Vx.len (below g.den)) j20] 25)).alloc (.cells #[.bool (decide (g.num < 0)), .slice C21 (len g.num.natAbs) j21, .slice C22 (len g.den) j22] 33) := ⟨_, rfl⟩
    obtain ⟨b4, L4, M4⟩ := news2 w3 (.cells #[.bool (decide (g.num < 0)), .slice C19 (Vx.len g.num.natAbs) j19, .slice C20 (Vx.len (below g.den)) j20] 25) (.cells #[.bool (decide (g.num < 0)), .slice C21 (len g.num.natAbs) j21, .slice C22 (len g.den) j22] 33)
    rw [← hw4] at b4 L4 M4 ⊢
    clear hw4
    replace b4 := hid b4
    replace L4 := hid L4
    replace M4 := hid M4
    have hRx4 := hid (ha1.out.keep (Below.step (Below.step b2.out b3.out) b4.out))
    have hRp4 := hid (hb1.out.keep (Below.step (Below.step b2.out b3.out) b4.out))
    have hRg4 := hid (ha3.out.keep b4.out)
    have hRq4 := hid (hb3.out.keep b4.out)
    have LRx4 : Hid (w4.heap[w1.heap.size]? = some (.cells #[.bool (decide (x.num < 0)), .slice C15 (Vx.len x.num.natAbs) j15, .slice C16 (Vx.len (below x.den)) j16] 25 (0, 0))) := ((Below.step b3.out b4.out).block _ (Array.getElem?_eq_some_iff.1 L2.out).1).trans L2.out
    have LRp4 : Hid (w4.heap[w1.heap.size + 1]? = some (.cells #[.bool (decide (x.num < 0)), .slice C17 (len x.num.natAbs) j17, .slice C18 (len x.den) j18] 33 (0, 0))) := ((Below.step b3.out b4.out).block _ (Array.getElem?_eq_some_iff.1 M2.out).1).trans M2.out
    have HMB4 := hid (cell_keep hM.out (Below.step (Below.step (Below.step b1.out b2.out) b3.out) b4.out))
    have HTB4 := hid (tab_keep hT.out (Below.step (Below.step (Below.step b1.out b2.out) b3.out) b4.out))
    have HBB4 := hid (Below.step (Below.step (Below.step b1.out b2.out) b3.out) b4.out)
    clear ha1 hb1 ha3 hb3 L2 M2 hM hT b1 b2 b3 b4
    have hg : w4.heap[w1.heap.size]? = some (.cells #[.bool (decide (x.num < 0)), .slice C15 (Vx.len x.num.natAbs) j15, .slice C16 (Vx.len (below x.den)) j16] 25 (0, 0)) := ((Below.refl _ w4).block _ (Array.getElem?_eq_some_iff.1 LRx4.out).1).trans LRx4.out
    obtain ⟨z_x_0, z_x_1, z_x_2⟩ := cells3 hg
    clear hg
    have HX := hid (pow_no1 e_y.out hRx4.out h9.out)
    go_wp2_with fail
    refine (HX.out).mono ?_
    rintro e w5 ⟨v5, rfl, hv5, b5⟩
    obtain ⟨C23, j23, C24, j24, rfl, -, -⟩ := id hv5.opened
    replace hv5 := hid hv5
    replace b5 := hid b5
    clear HX
    clear z_x_0 z_x_1 z_x_2
    go_upto_region 6 with fail
    obtain ⟨w6, hw6⟩ : ∃ u, u = w5.alloc (.cells #[.bool (decide (y.num < 0)), .slice C23 (Vx.len y.num.natAbs) j23, .slice C24 (Vx.len (below y.den)) j24] 25) := ⟨_, rfl⟩
    have b6 : Hid (Below w5.heap.size w5 w6) := by rw [hw6]; exact (Below.refl _ _).alloc (Nat.le_refl _) _
    have L6 : Hid (w6.heap[w5.heap.size]? = some (.cells #[.bool (decide (y.num < 0)), .slice C23 (Vx.len y.num.natAbs) j23, .slice C24 (Vx.len (below y.den)) j24] 25 (0, 0))) := by rw [hw6]; exact heap_alloc_new w5 _
    rw [← hw6]
    clear hw6
    have hg : w6.heap[w1.heap.size]? = some (.cells #[.bool (decide (x.num < 0)), .slice C15 (Vx.len x.num.natAbs) j15, .slice C16 (Vx.len (below x.den)) j16] 25 (0, 0)) := ((Below.step b5.out b6.out).block _ (Array.getElem?_eq_some_iff.1 LRx4.out).1).trans LRx4.out
    obtain ⟨z_x_0, z_x_1, z_x_2⟩ := cells3 hg
    clear hg
    have hg : w6.heap[w3.heap.size]? = some (.cells #[.bool (decide (g.num < 0)), .slice C19 (Vx.len g.num.natAbs) j19, .slice C20 (Vx.len (below g.den)) j20] 25 (0, 0)) := ((Below.step b5.out b6.out).block _ (Array.getElem?_eq_some_iff.1 L4.out).1).trans L4.out
    obtain ⟨z_g_0, z_g_1, z_g_2⟩ := cells3 hg
    clear hg
    have HX := hid (round_no e_z.out hg.out (hRx4.out.keep (Below.step b5.out b6.out)) (hRg4.out.keep (Below.step b5.out b6.out)))
    go_wp2_with fail
    refine (HX.out).mono ?_
    rintro e w7 ⟨v7, rfl, hv7, b7⟩
    obtain ⟨C25, j25, C26, j26, rfl, -, -⟩ := id hv7.opened
    replace hv7 := hid hv7
    replace b7 := hid b7
    clear HX
    clear z_x_0 z_x_1 z_x_2 z_g_0 z_g_1 z_g_2
    go_upto_region 7 with fail
    obtain ⟨w8, hw8⟩ : ∃ u, u = w7.alloc (.cells #[.bool (decide (z.num < 0)), .slice C25 (Vx.len z.num.natAbs) j25, .slice C26 (Vx.len (below z.den)) j26] 25) := ⟨_, rfl⟩
    have b8 : Hid (Below w7.heap.size w7 w8) := by rw [hw8]; exact (Below.refl _ _).alloc (Nat.le_refl _) _
    have L8 : Hid (w8.heap[w7.heap.size]? = some (.cells #[.bool (decide (z.num < 0)), .slice C25 (Vx.len z.num.natAbs) j25, .slice C26 (Vx.len (below z.den)) j26] 25 (0, 0))) := by rw [hw8]; exact heap_alloc_new w7 _
    rw [← hw8]
    clear hw8
    have hRx8 := hid (hRx4.out.keep (Below.step (Below.step (Below.step b5.out b6.out) b7.out) b8.out))
    have hRp8 := hid (hRp4.out.keep (Below.step (Below.step (Below.step b5.out b6.out) b7.out) b8.out))
    have hRg8 := hid (hRg4.out.keep (Below.step (Below.step (Below.step b5.out b6.out) b7.out) b8.out))
    have hRq8 := hid (hRq4.out.keep (Below.step (Below.step (Below.step b5.out b6.out) b7.out) b8.out))
    have hRy8 := hid (hv5.out.keep (Below.step (Below.step b6.out b7.out) b8.out))
    have hRz8 := hid (hv7.out.keep b8.out)
    have LRx8 : Hid (w8.heap[w1.heap.size]? = some (.cells #[.bool (decide (x.num < 0)), .slice C15 (Vx.len x.num.natAbs) j15, .slice C16 (Vx.len (below x.den)) j16] 25 (0, 0))) := ((Below.step (Below.step (Below.step b5.out b6.out) b7.out) b8.out).block _ (Array.getElem?_eq_some_iff.1 LRx4.out).1).trans LRx4.out
    have LRp8 : Hid (w8.heap[w1.heap.size + 1]? = some (.cells #[.bool (decide (x.num < 0)), .slice C17 (len x.num.natAbs) j17, .slice C18 (len x.den) j18] 33 (0, 0))) := ((Below.step (Below.step (Below.step b5.out b6.out) b7.out) b8.out).block _ (Array.getElem?_eq_some_iff.1 LRp4.out).1).trans LRp4.out
    have LRg8 : Hid (w8.heap[w3.heap.size]? = some (.cells #[.bool (decide (g.num < 0)), .slice C19 (Vx.len g.num.natAbs) j19, .slice C20 (Vx.len (below g.den)) j20] 25 (0, 0))) := ((Below.step (Below.step (Below.step b5.out b6.out) b7.out) b8.out).block _ (Array.getElem?_eq_some_iff.1 L4.out).1).trans L4.out
    have LRq8 : Hid (w8.heap[w3.heap.size + 1]? = some (.cells #[.bool (decide (g.num < 0)), .slice C21 (len g.num.natAbs) j21, .slice C22 (len g.den) j22] 33 (0, 0))) := ((Below.step (Below.step (Below.step b5.out b6.out) b7.out) b8.out).block _ (Array.getElem?_eq_some_iff.1 M4.out).1).trans M4.out
    have LRy8 : Hid (w8.heap[w5.heap.size]? = some (.cells #[.bool (decide (y.num < 0)), .slice C23 (Vx.len y.num.natAbs) j23, .slice C24 (Vx.len (below y.den)) j24] 25 (0, 0))) := ((Below.step b7.out b8.out).block _ (Array.getElem?_eq_some_iff.1 L6.out).1).trans L6.out
    have HMB8 := hid (cell_keep HMB4.out (Below.step (Below.step (Below.step b5.out b6.out) b7.out) b8.out))
    have HTB8 := hid (tab_keep HTB4.out (Below.step (Below.step (Below.step b5.out b6.out) b7.out) b8.out))
    have HBB8 := hid (Below.step HBB4.out (Below.step (Below.step (Below.step b5.out b6.out) b7.out) b8.out))
    clear hRx4 hRp4 hRg4 hRq4 hv5 hv7 LRx4 LRp4 L4 M4 L6 HMB4 HTB4 HBB4 b5 b6 b7 b8
    have hg : w8.heap[w5.heap.size]? = some (.cells #[.bool (decide (y.num < 0)), .slice C23 (Vx.len y.num.natAbs) j23, .slice C24 (Vx.len (below y.den)) j24] 25 (0, 0)) := ((Below.refl _ w8).block _ (Array.getElem?_eq_some_iff.1 LRy8.out).1).trans LRy8.out
    obtain ⟨z_y_0, z_y_1, z_y_2⟩ := cells3 hg
    clear hg
    have HX := hid (sign_val y_s.out hRy8.out)
    go_wp2_with fail
    refine (HX.out).mono ?_
    rintro e w9 ⟨rfl, b9⟩
    replace b9 := hid b9
    clear HX
    clear z_y_0 z_y_1 z_y_2
    have hRx9 := hid (hRx8.out.keep b9.out)
    have hRp9 := hid (hRp8.out.keep b9.out)
    have hRg9 := hid (hRg8.out.keep b9.out)
    have hRq9 := hid (hRq8.out.keep b9.out)
    have hRz9 := hid (hRz8.out.keep b9.out)
    have LRx9 : Hid (w9.heap[w1.heap.size]? = some (.cells #[.bool (decide (x.num < 0)), .slice C15 (Vx.len x.num.natAbs) j15, .slice C16 (Vx.len (below x.den)) j16] 25 (0, 0))) := (b9.out.block _ (Array.getElem?_eq_some_iff.1 LRx8.out).1).trans LRx8.out
    have LRp9 : Hid (w9.heap[w1.heap.size + 1]? = some (.cells #[.bool (decide (x.num < 0)), .slice C17 (len x.num.natAbs) j17, .slice C18 (len x.den) j18] 33 (0, 0))) := (b9.out.block _ (Array.getElem?_eq_some_iff.1 LRp8.out).1).trans LRp8.out
    have LRg9 : Hid (w9.heap[w3.heap.size]? = some (.cells #[.bool (decide (g.num < 0)), .slice C19 (Vx.len g.num.natAbs) j19, .slice C20 (Vx.len (below g.den)) j20] 25 (0, 0))) := (b9.out.block _ (Array.getElem?_eq_some_iff.1 LRg8.out).1).trans LRg8.out
    have LRq9 : Hid (w9.heap[w3.heap.size + 1]? = some (.cells #[.bool (decide (g.num < 0)), .slice C21 (len g.num.natAbs) j21, .slice C22 (len g.den) j22] 33 (0, 0))) := (b9.out.block _ (Array.getElem?_eq_some_iff.1 LRq8.out).1).trans LRq8.out
    have LRz9 : Hid (w9.heap[w7.heap.size]? = some (.cells #[.bool (decide (z.num < 0)), .slice C25 (Vx.len z.num.natAbs) j25, .slice C26 (Vx.len (below z.den)) j26] 25 (0, 0))) := (b9.out.block _ (Array.getElem?_eq_some_iff.1 L8.out).1).trans L8.out
    have HMB9 := hid (cell_keep HMB8.out b9.out)
    have HTB9 := hid (tab_keep HTB8.out b9.out)
    have HBB9 := hid (Below.step HBB8.out b9.out)
    clear hRx8 hRp8 hRg8 hRq8 hRz8 LRx8 LRp8 LRg8 LRq8 L8 HMB8 HTB8 HBB8 b9
    go_upto_region 12 with fail
    have hg : w9.heap[w3.heap.size + 1]? = some (.cells #[.bool (decide (g.num < 0)), .slice C21 (len g.num.natAbs) j21, .slice C22 (len g.den) j22] 33 (0, 0)) := ((Below.refl _ w9).block _ (Array.getElem?_eq_some_iff.1 LRq9.out).1).trans LRq9.out
    obtain ⟨z_q_0, z_q_1, z_q_2⟩ := cells3 hg
    clear hg
    have HX := hid (signR_any e_sg.out hRq9.out)
    go_wp2_with fail
    refine (HX.out).mono ?_
    rintro e w10 ⟨rfl, b10⟩
    replace b10 := hid b10
    clear HX
    clear z_q_0 z_q_1 z_q_2
    have hg : w10.heap[w7.heap.size]? = some (.cells #[.bool (decide (z.num < 0)), .slice C25 (Vx.len z.num.natAbs) j25, .slice C26 (Vx.len (below z.den)) j26] 25 (0, 0)) := (b10.out.block _ (Array.getElem?_eq_some_iff.1 LRz9.out).1).trans LRz9.out
    obtain ⟨z_z_0, z_z_1, z_z_2⟩ := cells3 hg
    clear hg
    have HX := hid (sign_val z_s.out (hRz9.out.keep b10.out))
    go_wp2_with fail
    refine (HX.out).mono ?_
    rintro e w11 ⟨rfl, b11⟩
    replace b11 := hid b11
    clear HX
    clear z_z_0 z_z_1 z_z_2
    have HX := hid (known_any (cell_keep HMB9.out (Below.step b10.out b11.out)) (tab_keep HTB9.out (Below.step b10.out b11.out)))
    go_wp2_with fail
    refine (HX.out).mono ?_
    rintro e w12 ⟨rfl, b12⟩
    replace b12 := hid b12
    clear HX
    have HE := hid (Below.step HBB9.out (Below.step (Below.step b10.out b11.out) b12.out))
    go_wp2_with fail
    go_ret
    exact ⟨rfl, HE.out⟩

set_option maxRecDepth 100000 in
set_option maxHeartbeats 40000000 in
theorem powers_hi {w : World} {sa sb : ByteArray} {n : Int} {mx : Int} (h1 : ¬ 60 < sa.size) (h2 : ¬ 60 < sb.size) (h3 : 64 < n) (hM : w.cell? ⟨3, 0, none⟩ = some (.int .i64 mx)) (hT : TabAt 0 Lib.deBruijn64tab w) :
    Calls Tryz.prog 5 #[.string sa, .string sb, .int .i64 n] w (BoolRet w true) := by
  obtain ⟨x, e_x⟩ : ∃ v_ : Rat, (parseV sa).1 = v_ := ⟨_, rfl⟩
  obtain ⟨g, e_g⟩ : ∃ v_ : Rat, (parseV sb).1 = v_ := ⟨_, rfl⟩
  have z_x : siz x ≤ 130 := by rw [← e_x]; have := parse_siz_le sa; omega
  have z_g : siz g ≤ 130 := by rw [← e_g]; have := parse_siz_le sb; omega
  have hla : sa.size ≤ 1048576 := by omega
  have hlb : sb.size ≤ 1048576 := by omega
  obtain ⟨y, e_y⟩ : ∃ v_ : Rat, 0 = v_ := ⟨_, rfl⟩
  have y_s : y.num.sign = 0 := by rw [← e_y]; rfl
  obtain ⟨sg, e_sg⟩ : ∃ v_ : Int, g.num.sign = v_ := ⟨_, rfl⟩
  have s_x : siz x ≤ 536870912 := by omega
  have t_x : siz x ≤ 16777216 := by omega
  have s_g : siz g ≤ 536870912 := by omega
  have t_g : siz g ≤ 16777216 := by omega
  have h9 := hid (show 64 < n from h3)
  have d1 : decide (((sa.size : Nat) : Int) > 60) = false := decide_eq_false (by omega)
  have d1' : ¬ (((sa.size : Nat) : Int) > 60) := by omega
  have d2 : decide (((sb.size : Nat) : Int) > 60) = false := decide_eq_false (by omega)
  have d2' : ¬ (((sb.size : Nat) : Int) > 60) := by omega
  have d3 : decide (n > 12) = true := decide_eq_true (by omega)
  have d4 : decide (n ≤ 64) = false := decide_eq_false (by omega)
  have l0 : decide (n < 0) = false := decide_eq_false (by omega)
  have l1 : decide (n > 64) = true := decide_eq_true (by omega)
  rcases Decidable.em (0 < g.num) with hg | hg
  · obtain ⟨z, e_z⟩ : ∃ v_ : Rat, flr (x / g + mkRat 1 2) * g = v_ := ⟨_, rfl⟩
    have z_z : siz z ≤ 4100 := by
      rw [← e_z]
      have i1 := Vx.siz_mul (flr (x / g + mkRat 1 2)) g
      have i2 := siz_flr (x / g + mkRat 1 2)
      have i3 := Vx.siz_add (x / g) (mkRat 1 2)
      have i4 := Vx.siz_div x g
      have i5 : siz (mkRat 1 2) ≤ 3 := by decide +kernel
      omega
    have l9 : decide (sg ≤ 0) = false := decide_eq_false (by rw [← e_sg]; have := Int.sign_eq_one_of_pos hg; omega)
    have g0 : g ≠ 0 := by intro e; rw [e] at hg; exact absurd hg (by decide)
    replace z_z := hid z_z
    replace e_z := hid e_z
    replace g0 := hid g0
    replace hg := hid hg
    replace s_x := hid s_x
    replace s_g := hid s_g
    replace t_x := hid t_x
    replace t_g := hid t_g
    replace hla := hid hla
    replace hlb := hid hlb
    replace e_x := hid e_x
    replace e_g := hid e_g
    replace e_y := hid e_y
    replace e_sg := hid e_sg
    replace y_s := hid y_s
    clear z_x z_g h1 h2 h3
    skip
    replace hM := hid hM
    replace hT := hid hT
    go_enter Tryz.func5, Tryz.ntmps5
    have HX := hid (both_any e_x.out hla.out (cell_keep hM.out (Below.refl _ w)))
    go_wp2_with fail
    refine (HX.out).mono ?_
    rintro e w1 ⟨va1, vb1, rfl, ha1, hb1, b1⟩
    obtain ⟨C1, j1, C2, j2, rfl, -, -⟩ := id ha1.opened
    replace ha1 := hid ha1
    obtain ⟨C3, j3, C4, j4, rfl, -, -⟩ := id hb1.opened
    replace hb1 := hid hb1
    replace b1 := hid b1
    clear HX
    go_upto_region 4 with fail
    obtain ⟨w2, hw2⟩ : ∃ u, u = (w1.alloc (.cells #[.bool (decide (x.num < 0)), .slice C1 (Vx.len x.num.natAbs) j1, .slice C2 (Vx.len (below x.den)) j2] 25)).alloc (.cells #[.bool (decide (x.num < 0)), .slice C3 (len x.num.natAbs) j3, .slice C4 (len x.den) j4] 33) := ⟨_, rfl⟩
    obtain ⟨b2, L2, M2⟩ := news2 w1 (.cells #[.bool (decide (x.num < 0)), .slice C1 (Vx.len x.num.natAbs) j1, .slice C2 (Vx.len (below x.den)) j2] 25) (.cells #[.bool (decide (x.num < 0)), .slice C3 (len x.num.natAbs) j3, .slice C4 (len x.den) j4] 33)
    rw [← hw2] at b2 L2 M2 ⊢
    clear hw2
    replace b2 := hid b2
    replace L2 := hid L2
    replace M2 := hid M2
    have HX := hid (both_any e_g.out hlb.out (cell_keep hM.out (Below.step b1.out b2.out)))
    go_wp2_with fail
    refine (HX.out).mono ?_
    rintro e w3 ⟨va3, vb3, rfl, ha3, hb3, b3⟩
    obtain ⟨C5, j5, C6, j6, rfl, -, -⟩ := id ha3.opened
    replace ha3 := hid ha3
    obtain ⟨C7, j7, C8, j8, rfl, -, -⟩ := id hb3.opened
    replace hb3 := hid hb3
    replace b3 := hid b3
    clear HX
    go_upto_region 5 with fail
    obtain ⟨w4, hw4⟩ : ∃ u, u = (w3.alloc (.cells #[.bool (decide (g.num < 0)), .slice C5 (Vx.len g.num.natAbs) j5, .slice C6 (Vx.len (below g.den)) j6] 25)).alloc (.cells #[.bool (decide (g.num < 0)), .slice C7 (len g.num.natAbs) j7, .slice C8 (len g.den) j8] 33) := ⟨_, rfl⟩
    obtain ⟨b4, L4, M4⟩ := news2 w3 (.cells #[.bool (decide (g.num < 0)), .slice C5 (Vx.len g.num.natAbs) j5, .slice C6 (Vx.len (below g.den)) j6] 25) (.cells #[.bool (decide (g.num < 0)), .slice C7 (len g.num.natAbs) j7, .slice C8 (len g.den) j8] 33)
    rw [← hw4] at b4 L4 M4 ⊢
    clear hw4
    replace b4 := hid b4
    replace L4 := hid L4
    replace M4 := hid M4
    have hRx4 := hid (ha1.out.keep (Below.step (Below.step b2.out b3.out) b4.out))
    have hRp4 := hid (hb1.out.keep (Below.step (Below.step b2.out b3.out) b4.out))
    have hRg4 := hid (ha3.out.keep b4.out)
    have hRq4 := hid (hb3.out.keep b4.out)
    have LRx4 : Hid (w4.heap[w1.heap.size]? = some (.cells #[.bool (decide (x.num < 0)), .slice C1 (Vx.len x.num.natAbs) j1, .slice C2 (Vx.len (below x.den)) j2] 25 (0, 0))) := ((Below.step b3.out b4.out).block _ (Array.getElem?_eq_some_iff.1 L2.out).1).trans L2.out
    have LRp4 : Hid (w4.heap[w1.heap.size + 1]? = some (.cells #[.bool (decide (x.num < 0)), .slice C3 (len x.num.natAbs) j3, .slice C4 (len x.den) j4] 33 (0, 0))) := ((Below.step b3.out b4.out).block _ (Array.getElem?_eq_some_iff.1 M2.out).1).trans M2.out
    have HMB4 := hid (cell_keep hM.out (Below.step (Below.step (Below.step b1.out b2.out) b3.out) b4.out))
    have HTB4 := hid (tab_keep hT.out (Below.step (Below.step (Below.step b1.out b2.out) b3.out) b4.out))
    have HBB4 := hid (Below.step (Below.step (Below.step b1.out b2.out) b3.out) b4.out)
    clear ha1 hb1 ha3 hb3 L2 M2 hM hT b1 b2 b3 b4
    have hg : w4.heap[w1.heap.size]? = some (.cells #[.bool (decide (x.num < 0)), .slice C1 (Vx.len x.num.natAbs) j1, .slice C2 (Vx.len (below x.den)) j2] 25 (0, 0)) := ((Below.refl _ w4).block _ (Array.getElem?_eq_some_iff.1 LRx4.out).1).trans LRx4.out
    obtain ⟨z_x_0, z_x_1, z_x_2⟩ := cells3 hg
    clear hg
    have HX := hid (pow_no2 e_y.out hRx4.out h9.out)
    go_wp2_with fail
    refine (HX.out).mono ?_
    rintro e w5 ⟨v5, rfl, hv5, b5⟩
    obtain ⟨C9, j9, C10, j10, rfl, -, -⟩ := id hv5.opened
    replace hv5 := hid hv5
    replace b5 := hid b5
    clear HX
    clear z_x_0 z_x_1 z_x_2
    go_upto_region 6 with fail
    obtain ⟨w6, hw6⟩ : ∃ u, u = w5.alloc (.cells #[.bool (decide (y.num < 0)), .slice C9 (Vx.len y.num.natAbs) j9, .slice C10 (Vx.len (below y.den)) j10] 25) := ⟨_, rfl⟩
    have b6 : Hid (Below w5.heap.size w5 w6) := by rw [hw6]; exact (Below.refl _ _).alloc (Nat.le_refl _) _
    have L6 : Hid (w6.heap[w5.heap.size]? = some (.cells #[.bool (decide (y.num < 0)), .slice C9 (Vx.len y.num.natAbs) j9, .slice C10 (Vx.len (below y.den)) j10] 25 (0, 0))) := by rw [hw6]; exact heap_alloc_new w5 _
    rw [← hw6]
    clear hw6
    have hg : w6.heap[w1.heap.size]? = some (.cells #[.bool (decide (x.num < 0)), .slice C1 (Vx.len x.num.natAbs) j1, .slice C2 (Vx.len (below x.den)) j2] 25 (0, 0)) := ((Below.step b5.out b6.out).block _ (Array.getElem?_eq_some_iff.1 LRx4.out).1).trans LRx4.out
    obtain ⟨z_x_0, z_x_1, z_x_2⟩ := cells3 hg
    clear hg
    have hg : w6.heap[w3.heap.size]? = some (.cells #[.bool (decide (g.num < 0)), .slice C5 (Vx.len g.num.natAbs) j5, .slice C6 (Vx.len (below g.den)) j6] 25 (0, 0)) := ((Below.step b5.out b6.out).block _ (Array.getElem?_eq_some_iff.1 L4.out).1).trans L4.out
    obtain ⟨z_g_0, z_g_1, z_g_2⟩ := cells3 hg
    clear hg
    have HX := hid (round_val e_z.out hg.out (hRx4.out.keep (Below.step b5.out b6.out)) (hRg4.out.keep (Below.step b5.out b6.out)) s_x.out s_g.out)
    go_wp2_with fail
    refine (HX.out).mono ?_
    rintro e w7 ⟨v7, rfl, hv7, b7⟩
    obtain ⟨C11, j11, C12, j12, rfl, -, -⟩ := id hv7.opened
    replace hv7 := hid hv7
    replace b7 := hid b7
    clear HX
    clear z_x_0 z_x_1 z_x_2 z_g_0 z_g_1 z_g_2
    go_upto_region 7 with fail
    obtain ⟨w8, hw8⟩ : ∃ u, u = w7.alloc (.cells #[.bool (decide (z.num < 0)), .slice C11 (Vx.len z.num.natAbs) j11, .slice C12 (Vx.len (below z.den)) j12] 25) := ⟨_, rfl⟩
    have b8 : Hid (Below w7.heap.size w7 w8) := by rw [hw8]; exact (Below.refl _ _).alloc (Nat.le_refl _) _
    have L8 : Hid (w8.heap[w7.heap.size]? = some (.cells #[.bool (decide (z.num < 0)), .slice C11 (Vx.len z.num.natAbs) j11, .slice C12 (Vx.len (below z.den)) j12] 25 (0, 0))) := by rw [hw8]; exact heap_alloc_new w7 _
    rw [← hw8]
    clear hw8
    have hRx8 := hid (hRx4.out.keep (Below.step (Below.step (Below.step b5.out b6.out) b7.out) b8.out))
    have hRp8 := hid (hRp4.out.keep (Below.step (Below.step (Below.step b5.out b6.out) b7.out) b8.out))
    have hRg8 := hid (hRg4.out.keep (Below.step (Below.step (Below.step b5.out b6.out) b7.out) b8.out))
    have hRq8 := hid (hRq4.out.keep (Below.step (Below.step (Below.step b5.out b6.out) b7.out) b8.out))
    have hRy8 := hid (hv5.out.keep (Below.step (Below.step b6.out b7.out) b8.out))
    have hRz8 := hid (hv7.out.keep b8.out)
    have LRx8 : Hid (w8.heap[w1.heap.size]? = some (.cells #[.bool (decide (x.num < 0)), .slice C1 (Vx.len x.num.natAbs) j1, .slice C2 (Vx.len (below x.den)) j2] 25 (0, 0))) := ((Below.step (Below.step (Below.step b5.out b6.out) b7.out) b8.out).block _ (Array.getElem?_eq_some_iff.1 LRx4.out).1).trans LRx4.out
    have LRp8 : Hid (w8.heap[w1.heap.size + 1]? = some (.cells #[.bool (decide (x.num < 0)), .slice C3 (len x.num.natAbs) j3, .slice C4 (len x.den) j4] 33 (0, 0))) := ((Below.step (Below.step (Below.step b5.out b6.out) b7.out) b8.out).block _ (Array.getElem?_eq_some_iff.1 LRp4.out).1).trans LRp4.out
    have LRg8 : Hid (w8.heap[w3.heap.size]? = some (.cells #[.bool (decide (g.num < 0)), .slice C5 (Vx.len g.num.natAbs) j5, .slice C6 (Vx.len (below g.den)) j6] 25 (0, 0))) := ((Below.step (Below.step (Below.step b5.out b6.out) b7.out) b8.out).block _ (Array.getElem?_eq_some_iff.1 L4.out).1).trans L4.out
    have LRq8 : Hid (w8.heap[w3.heap.size + 1]? = some (.cells #[.bool (decide (g.num < 0)), .slice C7 (len g.num.natAbs) j7, .slice C8 (len g.den) j8] 33 (0, 0))) := ((Below.step (Below.step (Below.step b5.out b6.out) b7.out) b8.out).block _ (Array.getElem?_eq_some_iff.1 M4.out).1).trans M4.out
    have LRy8 : Hid (w8.heap[w5.heap.size]? = some (.cells #[.bool (decide (y.num < 0)), .slice C9 (Vx.len y.num.natAbs) j9, .slice C10 (Vx.len (below y.den)) j10] 25 (0, 0))) := ((Below.step b7.out b8.out).block _ (Array.getElem?_eq_some_iff.1 L6.out).1).trans L6.out
    have HMB8 := hid (cell_keep HMB4.out (Below.step (Below.step (Below.step b5.out b6.out) b7.out) b8.out))
    have HTB8 := hid (tab_keep HTB4.out (Below.step (Below.step (Below.step b5.out b6.out) b7.out) b8.out))
    have HBB8 := hid (Below.step HBB4.out (Below.step (Below.step (Below.step b5.out b6.out) b7.out) b8.out))
    clear hRx4 hRp4 hRg4 hRq4 hv5 hv7 LRx4 LRp4 L4 M4 L6 HMB4 HTB4 HBB4 b5 b6 b7 b8
    have hg : w8.heap[w5.heap.size]? = some (.cells #[.bool (decide (y.num < 0)), .slice C9 (Vx.len y.num.natAbs) j9, .slice C10 (Vx.len (below y.den)) j10] 25 (0, 0)) := ((Below.refl _ w8).block _ (Array.getElem?_eq_some_iff.1 LRy8.out).1).trans LRy8.out
    obtain ⟨z_y_0, z_y_1, z_y_2⟩ := cells3 hg
    clear hg
    have HX := hid (sign_val y_s.out hRy8.out)
    go_wp2_with fail
    refine (HX.out).mono ?_
    rintro e w9 ⟨rfl, b9⟩
    replace b9 := hid b9
    clear HX
    clear z_y_0 z_y_1 z_y_2
    have hRx9 := hid (hRx8.out.keep b9.out)
    have hRp9 := hid (hRp8.out.keep b9.out)
    have hRg9 := hid (hRg8.out.keep b9.out)
    have hRq9 := hid (hRq8.out.keep b9.out)
    have hRz9 := hid (hRz8.out.keep b9.out)
    have LRx9 : Hid (w9.heap[w1.heap.size]? = some (.cells #[.bool (decide (x.num < 0)), .slice C1 (Vx.len x.num.natAbs) j1, .slice C2 (Vx.len (below x.den)) j2] 25 (0, 0))) := (b9.out.block _ (Array.getElem?_eq_some_iff.1 LRx8.out).1).trans LRx8.out
    have LRp9 : Hid (w9.heap[w1.heap.size + 1]? = some (.cells #[.bool (decide (x.num < 0)), .slice C3 (len x.num.natAbs) j3, .slice C4 (len x.den) j4] 33 (0, 0))) := (b9.out.block _ (Array.getElem?_eq_some_iff.1 LRp8.out).1).trans LRp8.out
    have LRg9 : Hid (w9.heap[w3.heap.size]? = some (.cells #[.bool (decide (g.num < 0)), .slice C5 (Vx.len g.num.natAbs) j5, .slice C6 (Vx.len (below g.den)) j6] 25 (0, 0))) := (b9.out.block _ (Array.getElem?_eq_some_iff.1 LRg8.out).1).trans LRg8.out
    have LRq9 : Hid (w9.heap[w3.heap.size + 1]? = some (.cells #[.bool (decide (g.num < 0)), .slice C7 (len g.num.natAbs) j7, .slice C8 (len g.den) j8] 33 (0, 0))) := (b9.out.block _ (Array.getElem?_eq_some_iff.1 LRq8.out).1).trans LRq8.out
    have LRz9 : Hid (w9.heap[w7.heap.size]? = some (.cells #[.bool (decide (z.num < 0)), .slice C11 (Vx.len z.num.natAbs) j11, .slice C12 (Vx.len (below z.den)) j12] 25 (0, 0))) := (b9.out.block _ (Array.getElem?_eq_some_iff.1 L8.out).1).trans L8.out
    have HMB9 := hid (cell_keep HMB8.out b9.out)
    have HTB9 := hid (tab_keep HTB8.out b9.out)
    have HBB9 := hid (Below.step HBB8.out b9.out)
    clear hRx8 hRp8 hRg8 hRq8 hRz8 LRx8 LRp8 LRg8 LRq8 L8 HMB8 HTB8 HBB8 b9
    go_upto_region 12 with fail
    have hg : w9.heap[w3.heap.size + 1]? = some (.cells #[.bool (decide (g.num < 0)), .slice C7 (len g.num.natAbs) j7, .slice C8 (len g.den) j8] 33 (0, 0)) := ((Below.refl _ w9).block _ (Array.getElem?_eq_some_iff.1 LRq9.out).1).trans LRq9.out
    obtain ⟨z_q_0, z_q_1, z_q_2⟩ := cells3 hg
    clear hg
    have HX := hid (signR_any e_sg.out hRq9.out)
    go_wp2_with fail
    refine (HX.out).mono ?_
    rintro e w10 ⟨rfl, b10⟩
    replace b10 := hid b10
    clear HX
    clear z_q_0 z_q_1 z_q_2
    have hRp10 := hid (hRp9.out.keep b10.out)
    have hRq10 := hid (hRq9.out.keep b10.out)
    have hRz10 := hid (hRz9.out.keep b10.out)
    have LRp10 : Hid (w10.heap[w1.heap.size + 1]? = some (.cells #[.bool (decide (x.num < 0)), .slice C3 (len x.num.natAbs) j3, .slice C4 (len x.den) j4] 33 (0, 0))) := (b10.out.block _ (Array.getElem?_eq_some_iff.1 LRp9.out).1).trans LRp9.out
    have LRq10 : Hid (w10.heap[w3.heap.size + 1]? = some (.cells #[.bool (decide (g.num < 0)), .slice C7 (len g.num.natAbs) j7, .slice C8 (len g.den) j8] 33 (0, 0))) := (b10.out.block _ (Array.getElem?_eq_some_iff.1 LRq9.out).1).trans LRq9.out
    have LRz10 : Hid (w10.heap[w7.heap.size]? = some (.cells #[.bool (decide (z.num < 0)), .slice C11 (Vx.len z.num.natAbs) j11, .slice C12 (Vx.len (below z.den)) j12] 25 (0, 0))) := (b10.out.block _ (Array.getElem?_eq_some_iff.1 LRz9.out).1).trans LRz9.out
    have HMB10 := hid (cell_keep HMB9.out b10.out)
    have HTB10 := hid (tab_keep HTB9.out b10.out)
    have HBB10 := hid (Below.step HBB9.out b10.out)
    clear hRp9 hRq9 hRz9 LRp9 LRq9 LRz9 HMB9 HTB9 HBB9 b10
    go_upto_region 14 with fail
    go_wp2_with fail
    obtain ⟨NNb, hNN⟩ : ∃ n : Nat, w10.heap.size = n := ⟨_, rfl⟩
    have HSZb : Hid (w10.heap.size = NNb) := hNN
    have hg : w10.heap[w1.heap.size + 1]? = some (.cells #[.bool (decide (x.num < 0)), .slice C3 (len x.num.natAbs) j3, .slice C4 (len x.den) j4] 33 (0, 0)) := ((Below.refl _ w10).block _ (Array.getElem?_eq_some_iff.1 LRp10.out).1).trans LRp10.out
    obtain ⟨z_p_0, z_p_1, z_p_2⟩ := cells3 hg
    clear hg
    have hltb_p : w1.heap.size + 1 < NNb := Nat.lt_of_lt_of_eq (World.block_lt_of_cell? _ _ z_p_0) hNN
    have hg : w10.heap[w3.heap.size + 1]? = some (.cells #[.bool (decide (g.num < 0)), .slice C7 (len g.num.natAbs) j7, .slice C8 (len g.den) j8] 33 (0, 0)) := ((Below.refl _ w10).block _ (Array.getElem?_eq_some_iff.1 LRq10.out).1).trans LRq10.out
    obtain ⟨z_q_0, z_q_1, z_q_2⟩ := cells3 hg
    clear hg
    have hltb_q : w3.heap.size + 1 < NNb := Nat.lt_of_lt_of_eq (World.block_lt_of_cell? _ _ z_q_0) hNN
    have hg : w10.heap[w7.heap.size]? = some (.cells #[.bool (decide (z.num < 0)), .slice C11 (Vx.len z.num.natAbs) j11, .slice C12 (Vx.len (below z.den)) j12] 25 (0, 0)) := ((Below.refl _ w10).block _ (Array.getElem?_eq_some_iff.1 LRz10.out).1).trans LRz10.out
    obtain ⟨z_z_0, z_z_1, z_z_2⟩ := cells3 hg
    clear hg
    have hltb_z : w7.heap.size < NNb := Nat.lt_of_lt_of_eq (World.block_lt_of_cell? _ _ z_z_0) hNN
    have H0 := Held0.start w10 NNb
    have H0' := H0
    unfold Held0 at H0'
    refine wp_region_held_drew (S := (fun w' => (∀ b o, b < NNb → w'.cell? ⟨b, o, none⟩ = w10.cell? ⟨b, o, none⟩) ∧ Below (NNb) w10 w' ∧ Stay w10 w')) (by kernel_rfl) ?_ (fun hHeld => ?_)
    · (try dsimp only)
      exact H0'
    obtain ⟨w11, hw11⟩ : ∃ u, u = w10.drew := ⟨_, rfl⟩
    have b11 : Hid (Below w10.heap.size w10 w11) := by rw [hw11]; exact ⟨rfl, rfl, rfl, Nat.le_refl _, fun _ _ => rfl⟩
    rw [← hw11] at hHeld H0 ⊢
    clear hw11 H0' hNN
    as_aux_lemma =>
     refine tk (i := 0) (h := ?_)
     try simp only [Act.put, lt, ly, lu]
     refine tk (i := 1) (h := ?_)
     try simp only [Act.put, lt, ly, lu]
     refine tk (i := 2) (h := ?_)
     try simp only [Act.put, lt, ly, lu]
     refine tk (i := 3) (h := ?_)
     try simp only [Act.put, lt, ly, lu]
     refine tk (i := 4) (h := ?_)
     try simp only [Act.put, lt, ly, lu]
     refine tk (i := 5) (h := ?_)
     try simp only [Act.put, lt, ly, lu]
     refine wpAnyH_ready (rs := [6]) (by kernel_rfl) (by simp) (AllReadyH.cons (o := ?oq20) ?eq20 ?kq20 AllReadyH.nil)
     case eq20 => simp only [lg, lz, ls]; rfl
     intro K hK; go_simp; go_at_call 44
     refine (roundR_any g0.out e_z.out (hRp10.out.keep b11.out) (hRq10.out.keep b11.out) t_x.out t_g.out).mono ?_
     rintro e w12 ⟨v12, rfl, hv12, b12⟩
     obtain ⟨C13, j13, C14, j14, rfl, -, -⟩ := id hv12.opened
     replace hv12 := hid hv12
     replace b12 := hid b12
     have hk12 := hcall H0 HSZb b12.out; have hk12' := hk12; unfold Held0 at hk12'; clear hHeld H0
     refine hK.out _ _ ?_ (fun hHeld => ?_)
     · (try dsimp only); with_reducible exact hk12'
     clear hK K hk12'; try simp only [Act.put, lt, ly, lu]
     refine wpAnyH_ready (rs := [7]) (by kernel_rfl) (by simp) (AllReadyH.cons (o := ?oq21) ?eq21 ?kq21 AllReadyH.nil)
     case eq21 => simp only [lg, lz, ls]; rfl
     intro K hK; go_simp; go_at_call 13
     refine (same_any (hRz10.out.keep (Below.step b11.out b12.out)) hv12.out z_z.out (tab_keep HTB10.out (Below.step b11.out b12.out))).mono ?_
     rintro e w13 ⟨rfl, b13⟩
     replace b13 := hid b13
     have hk13 := hcall hk12 HSZb b13.out; have hk13' := hk13; unfold Held0 at hk13'; clear hHeld hk12
     refine hK.out _ _ ?_ (fun hHeld => ?_)
     · (try dsimp only); with_reducible exact hk13'
     clear hK K hk13'; try simp only [Act.put, lt, ly, lu]
     refine tk (i := 8) (h := ?_)
     try simp only [Act.put, lt, ly, lu]
     refine tk (i := 9) (h := ?_)
     try simp only [Act.put, lt, ly, lu]
     refine wpAnyH_ready (rs := [10]) (by kernel_rfl) (by simp) (AllReadyH.cons (o := ?oq24) ?eq24 ?kq24 AllReadyH.nil)
     case eq24 => simp only [lg, lz, ls]; rfl
     intro K hK; go_simp; go_at_call 17
     refine (known_any (cell_keep HMB10.out (Below.step (Below.step b11.out b12.out) b13.out)) (tab_keep HTB10.out (Below.step (Below.step b11.out b12.out) b13.out))).mono ?_
     rintro e w14 ⟨rfl, b14⟩
     replace b14 := hid b14
     have hk14 := hcall hk13 HSZb b14.out; have hk14' := hk14; unfold Held0 at hk14'; clear hHeld hk13
     refine hK.out _ _ ?_ (fun hHeld => ?_)
     · (try dsimp only); with_reducible exact hk14'
     clear hK K hk14'; try simp only [Act.put, lt, ly, lu]
     refine tk (i := 11) (h := ?_)
     try simp only [Act.put, lt, ly, lu]
     as_aux_lemma =>
      refine tk (i := 12) (h := ?_)
      try simp only [Act.put, lt, ly, lu]
      have HE := hid (Below.step HBB10.out (Below.step (Below.step (Below.step b11.out b12.out) b13.out) b14.out))
      refine wpAnyH_done (by kernel_rfl) ?_ _
      clear hHeld
      go_wp2_with fail
      go_ret
      exact ⟨rfl, HE.out⟩
  · obtain ⟨z, e_z⟩ : ∃ v_ : Rat, 0 = v_ := ⟨_, rfl⟩
    have z_s : z.num.sign = 0 := by rw [← e_z]; rfl
    have l9 : decide (sg ≤ 0) = true := decide_eq_true (by rw [← e_sg]; exact Int.sign_nonpos_iff.2 (by omega))
    replace hg := hid (show g.num ≤ 0 by omega)
    replace z_s := hid z_s
    replace e_z := hid e_z
    replace s_x := hid s_x
    replace s_g := hid s_g
    replace t_x := hid t_x
    replace t_g := hid t_g
    replace hla := hid hla
    replace hlb := hid hlb
    replace e_x := hid e_x
    replace e_g := hid e_g
    replace e_y := hid e_y
    replace e_sg := hid e_sg
    replace y_s := hid y_s
    clear z_x z_g h1 h2 h3
    skip
    replace hM := hid hM
    replace hT := hid hT
    go_enter Tryz.func5, Tryz.ntmps5
    have HX := hid (both_any e_x.out hla.out (cell_keep hM.out (Below.refl _ w)))
    go_wp2_with fail
    refine (HX.out).mono ?_
    rintro e w1 ⟨va1, vb1, rfl, ha1, hb1, b1⟩
    obtain ⟨C15, j15, C16, j16, rfl, -, -⟩ := id ha1.opened
    replace ha1 := hid ha1
    obtain ⟨C17, j17, C18, j18, rfl, -, -⟩ := id hb1.opened
    replace hb1 := hid hb1
    replace b1 := hid b1
    clear HX
    go_upto_region 4 with fail
    obtain ⟨w2, hw2⟩ : ∃ u, u = (w1.alloc (.cells #[.bool (decide (x.num < 0)), .slice C15 (Vx.len x.num.natAbs) j15, .slice C16 (Vx.len (below x.den)) j16] 25)).alloc (.cells #[.bool (decide (x.num < 0)), .slice C17 (len x.num.natAbs) j17, .slice C18 (len x.den) j18] 33) := ⟨_, rfl⟩
    obtain ⟨b2, L2, M2⟩ := news2 w1 (.cells #[.bool (decide (x.num < 0)), .slice C15 (Vx.len x.num.natAbs) j15, .slice C16 (Vx.len (below x.den)) j16] 25) (.cells #[.bool (decide (x.num < 0)), .slice C17 (len x.num.natAbs) j17, .slice C18 (len x.den) j18] 33)
    rw [← hw2] at b2 L2 M2 ⊢
    clear hw2
    replace b2 := hid b2
    replace L2 := hid L2
    replace M2 := hid M2
    have HX := hid (both_any e_g.out hlb.out (cell_keep hM.out (Below.step b1.out b2.out)))
    go_wp2_with fail
    refine (HX.out).mono ?_
    rintro e w3 ⟨va3, vb3, rfl, ha3, hb3, b3⟩
    obtain ⟨C19, j19, C20, j20, rfl, -, -⟩ := id ha3.opened
    replace ha3 := hid ha3
    obtain ⟨C21, j21, C22, j22, rfl, -, -⟩ := id hb3.opened
    replace hb3 := hid hb3
    replace b3 := hid b3
    clear HX
    go_upto_region 5 with fail
    obtain ⟨w4, hw4⟩ : ∃ u, u = (w3.alloc (.cells #[.bool (decide (g.num < 0)), .slice C19 (Vx.len g.num.natAbs) j19, .slice C20 (Vx.len (below g.den)) j20] 25)).alloc (.cells #[.bool (decide (g.num < 0)), .slice C21 (len g.num.natAbs) j21, .slice C22 (len g.den) j22] 33) := ⟨_, rfl⟩
    obtain ⟨b4, L4, M4⟩ := news2 w3 (.cells #[.bool (decide (g.num < 0)), .slice C19 (Vx.len g.num.natAbs) j19, .slice C20 (Vx.len (below g.den)) j20] 25) (.cells #[.bool (decide (g.num < 0)), .slice C21 (len g.num.natAbs) j21, .slice C22 (len g.den) j22] 33)
    rw [← hw4] at b4 L4 M4 ⊢
    clear hw4
    replace b4 := hid b4
    replace L4 := hid L4
    replace M4 := hid M4
    have hRx4 := hid (ha1.out.keep (Below.step (Below.step b2.out b3.out) b4.out))
    have hRp4 := hid (hb1.out.keep (Below.step (Below.step b2.out b3.out) b4.out))
    have hRg4 := hid (ha3.out.keep b4.out)
    have hRq4 := hid (hb3.out.keep b4.out)
    have LRx4 : Hid (w4.heap[w1.heap.size]? = some (.cells #[.bool (decide (x.num < 0)), .slice C15 (Vx.len x.num.natAbs) j15, .slice C16 (Vx.len (below x.den)) j16] 25 (0, 0))) := ((Below.step b3.out b4.out).block _ (Array.getElem?_eq_some_iff.1 L2.out).1).trans L2.out
    have LRp4 : Hid (w4.heap[w1.heap.size + 1]? = some (.cells #[.bool (decide (x.num < 0)), .slice C17 (len x.num.natAbs) j17, .slice C18 (len x.den) j18] 33 (0, 0))) := ((Below.step b3.out b4.out).block _ (Array.getElem?_eq_some_iff.1 M2.out).1).trans M2.out
    have HMB4 := hid (cell_keep hM.out (Below.step (Below.step (Below.step b1.out b2.out) b3.out) b4.out))
    have HTB4 := hid (tab_keep hT.out (Below.step (Below.step (Below.step b1.out b2.out) b3.out) b4.out))
    have HBB4 := hid (Below.step (Below.step (Below.step b1.out b2.out) b3.out) b4.out)
    clear ha1 hb1 ha3 hb3 L2 M2 hM hT b1 b2 b3 b4
    have hg : w4.heap[w1.heap.size]? = some (.cells #[.bool (decide (x.num < 0)), .slice C15 (Vx.len x.num.natAbs) j15, .slice C16 (Vx.len (below x.den)) j16] 25 (0, 0)) := ((Below.refl _ w4).block _ (Array.getElem?_eq_some_iff.1 LRx4.out).1).trans LRx4.out
    obtain ⟨z_x_0, z_x_1, z_x_2⟩ := cells3 hg
    clear hg
    have HX := hid (pow_no2 e_y.out hRx4.out h9.out)
    go_wp2_with fail
    refine (HX.out).mono ?_
    rintro e w5 ⟨v5, rfl, hv5, b5⟩
    obtain ⟨C23, j23, C24, j24, rfl, -, -⟩ := id hv5.opened
    replace hv5 := hid hv5
    replace b5 := hid b5
    clear HX
    clear z_x_0 z_x_1 z_x_2
    go_upto_region 6 with fail
    obtain ⟨w6, hw6⟩ : ∃ u, u = w5.alloc (.cells #[.bool (decide (y.num < 0)), .slice C23 (Vx.len y.num.natAbs) j23, .slice C24 (Vx.len (below y.den)) j24] 25) := ⟨_, rfl⟩
    have b6 : Hid (Below w5.heap.size w5 w6) := by rw [hw6]; exact (Below.refl _ _).alloc (Nat.le_refl _) _
    have L6 : Hid (w6.heap[w5.heap.size]? = some (.cells #[.bool (decide (y.num < 0)), .slice C23 (Vx.len y.num.natAbs) j23, .slice C24 (Vx.len (below y.den)) j24] 25 (0, 0))) := by rw [hw6]; exact heap_alloc_new w5 _
    rw [← hw6]
    clear hw6
    have hg : w6.heap[w1.heap.size]? = some (.cells #[.bool (decide (x.num < 0)), .slice C15 (Vx.len x.num.natAbs) j15, .slice C16 (Vx.len (below x.den)) j16] 25 (0, 0)) := ((Below.step b5.out b6.out).block _ (Array.getElem?_eq_some_iff.1 LRx4.out).1).trans LRx4.out
    obtain ⟨z_x_0, z_x_1, z_x_2⟩ := cells3 hg
    clear hg
    have hg : w6.heap[w3.heap.size]? = some (.cells #[.bool (decide (g.num < 0)), .slice C19 (Vx.len g.num.natAbs) j19, .slice C20 (Vx.len (below g.den)) j20] 25 (0, 0)) := ((Below.step b5.out b6.out).block _ (Array.getElem?_eq_some_iff.1 L4.out).1).trans L4.out
    obtain ⟨z_g_0, z_g_1, z_g_2⟩ := cells3 hg
    clear hg
    have HX := hid (round_no e_z.out hg.out (hRx4.out.keep (Below.step b5.out b6.out)) (hRg4.out.keep (Below.step b5.out b6.out)))
    go_wp2_with fail
    refine (HX.out).mono ?_
    rintro e w7 ⟨v7, rfl, hv7, b7⟩
    obtain ⟨C25, j25, C26, j26, rfl, -, -⟩ := id hv7.opened
    replace hv7 := hid hv7
    replace b7 := hid b7
    clear HX
    clear z_x_0 z_x_1 z_x_2 z_g_0 z_g_1 z_g_2
    go_upto_region 7 with fail
    obtain ⟨w8, hw8⟩ : ∃ u, u = w7.alloc (.cells #[.bool (decide (z.num < 0)), .slice C25 (Vx.len z.num.natAbs) j25, .slice C26 (Vx.len (below z.den)) j26] 25) := ⟨_, rfl⟩
    have b8 : Hid (Below w7.heap.size w7 w8) := by rw [hw8]; exact (Below.refl _ _).alloc (Nat.le_refl _) _
    have L8 : Hid (w8.heap[w7.heap.size]? = some (.cells #[.bool (decide (z.num < 0)), .slice C25 (Vx.len z.num.natAbs) j25, .slice C26 (Vx.len (below z.den)) j26] 25 (0, 0))) := by rw [hw8]; exact heap_alloc_new w7 _
    rw [← hw8]
    clear hw8
    have hRx8 := hid (hRx4.out.keep (Below.step (Below.step (Below.step b5.out b6.out) b7.out) b8.out))
    have hRp8 := hid (hRp4.out.keep (Below.step (Below.step (Below.step b5.out b6.out) b7.out) b8.out))
    have hRg8 := hid (hRg4.out.keep (Below.step (Below.step (Below.step b5.out b6.out) b7.out) b8.out))
    have hRq8 := hid (hRq4.out.keep (Below.step (Below.step (Below.step b5.out b6.out) b7.out) b8.out))
    have hRy8 := hid (hv5.out.keep (Below.step (Below.step b6.out b7.out) b8.out))
    have hRz8 := hid (hv7.out.keep b8.out)
    have LRx8 : Hid (w8.heap[w1.heap.size]? = some (.cells #[.bool (decide (x.num < 0)), .slice C15 (Vx.len x.num.natAbs) j15, .slice C16 (Vx.len (below x.den)) j16] 25 (0, 0))) := ((Below.step (Below.step (Below.step b5.out b6.out) b7.out) b8.out).block _ (Array.getElem?_eq_some_iff.1 LRx4.out).1).trans LRx4.out
    have LRp8 : Hid (w8.heap[w1.heap.size + 1]? = some (.cells #[.bool (decide (x.num < 0)), .slice C17 (len x.num.natAbs) j17, .slice C18 (len x.den) j18] 33 (0, 0))) := ((Below.step (Below.step (Below.step b5.out b6.out) b7.out) b8.out).block _ (Array.getElem?_eq_some_iff.1 LRp4.out).1).trans LRp4.out
    have LRg8 : Hid (w8.heap[w3.heap.size]? = some (.cells #[.bool (decide (g.num < 0)), .slice C19 (Vx.len g.num.natAbs) j19, .slice C20 (Vx.len (below g.den)) j20] 25 (0, 0))) := ((Below.step (Below.step (Below.step b5.out b6.out) b7.out) b8.out).block _ (Array.getElem?_eq_some_iff.1 L4.out).1).trans L4.out
    have LRq8 : Hid (w8.heap[w3.heap.size + 1]? = some (.cells #[.bool (decide (g.num < 0)), .slice C21 (len g.num.natAbs) j21, .slice C22 (len g.den) j22] 33 (0, 0))) := ((Below.step (Below.step (Below.step b5.out b6.out) b7.out) b8.out).block _ (Array.getElem?_eq_some_iff.1 M4.out).1).trans M4.out
    have LRy8 : Hid (w8.heap[w5.heap.size]? = some (.cells #[.bool (decide (y.num < 0)), .slice C23 (Vx.len y.num.natAbs) j23, .slice C24 (Vx.len (below y.den)) j24] 25 (0, 0))) := ((Below.step b7.out b8.out).block _ (Array.getElem?_eq_some_iff.1 L6.out).1).trans L6.out
    have HMB8 := hid (cell_keep HMB4.out (Below.step (Below.step (Below.step b5.out b6.out) b7.out) b8.out))
    have HTB8 := hid (tab_keep HTB4.out (Below.step (Below.step (Below.step b5.out b6.out) b7.out) b8.out))
    have HBB8 := hid (Below.step HBB4.out (Below.step (Below.step (Below.step b5.out b6.out) b7.out) b8.out))
    clear hRx4 hRp4 hRg4 hRq4 hv5 hv7 LRx4 LRp4 L4 M4 L6 HMB4 HTB4 HBB4 b5 b6 b7 b8
    have hg : w8.heap[w5.heap.size]? = some (.cells #[.bool (decide (y.num < 0)), .slice C23 (Vx.len y.num.natAbs) j23, .slice C24 (Vx.len (below y.den)) j24] 25 (0, 0)) := ((Below.refl _ w8).block _ (Array.getElem?_eq_some_iff.1 LRy8.out).1).trans LRy8.out
    obtain ⟨z_y_0, z_y_1, z_y_2⟩ := cells3 hg
    clear hg
    have HX := hid (sign_val y_s.out hRy8.out)
    go_wp2_with fail
    refine (HX.out).mono ?_
    rintro e w9 ⟨rfl, b9⟩
    replace b9 := hid b9
    clear HX
    clear z_y_0 z_y_1 z_y_2
    have hRx9 := hid (hRx8.out.keep b9.out)
    have hRp9 := hid (hRp8.out.keep b9.out)
    have hRg9 := hid (hRg8.out.keep b9.out)
    have hRq9 := hid (hRq8.out.keep b9.out)
    have hRz9 := hid (hRz8.out.keep b9.out)
    have LRx9 : Hid (w9.heap[w1.heap.size]? = some (.cells #[.bool (decide (x.num < 0)), .slice C15 (Vx.len x.num.natAbs) j15, .slice C16 (Vx.len (below x.den)) j16] 25 (0, 0))) := (b9.out.block _ (Array.getElem?_eq_some_iff.1 LRx8.out).1).trans LRx8.out
    have LRp9 : Hid (w9.heap[w1.heap.size + 1]? = some (.cells #[.bool (decide (x.num < 0)), .slice C17 (len x.num.natAbs) j17, .slice C18 (len x.den) j18] 33 (0, 0))) := (b9.out.block _ (Array.getElem?_eq_some_iff.1 LRp8.out).1).trans LRp8.out
    have LRg9 : Hid (w9.heap[w3.heap.size]? = some (.cells #[.bool (decide (g.num < 0)), .slice C19 (Vx.len g.num.natAbs) j19, .slice C20 (Vx.len (below g.den)) j20] 25 (0, 0))) := (b9.out.block _ (Array.getElem?_eq_some_iff.1 LRg8.out).1).trans LRg8.out
    have LRq9 : Hid (w9.heap[w3.heap.size + 1]? = some (.cells #[.bool (decide (g.num < 0)), .slice C21 (len g.num.natAbs) j21, .slice C22 (len g.den) j22] 33 (0, 0))) := (b9.out.block _ (Array.getElem?_eq_some_iff.1 LRq8.out).1).trans LRq8.out
    have LRz9 : Hid (w9.heap[w7.heap.size]? = some (.cells #[.bool (decide (z.num < 0)), .slice C25 (Vx.len z.num.natAbs) j25, .slice C26 (Vx.len (below z.den)) j26] 25 (0, 0))) := (b9.out.block _ (Array.getElem?_eq_some_iff.1 L8.out).1).trans L8.out
    have HMB9 := hid (cell_keep HMB8.out b9.out)
    have HTB9 := hid (tab_keep HTB8.out b9.out)
    have HBB9 := hid (Below.step HBB8.out b9.out)
    clear hRx8 hRp8 hRg8 hRq8 hRz8 LRx8 LRp8 LRg8 LRq8 L8 HMB8 HTB8 HBB8 b9
    go_upto_region 12 with fail
    have hg : w9.heap[w3.heap.size + 1]? = some (.cells #[.bool (decide (g.num < 0)), .slice C21 (len g.num.natAbs) j21, .slice C22 (len g.den) j22] 33 (0, 0)) := ((Below.refl _ w9).block _ (Array.getElem?_eq_some_iff.1 LRq9.out).1).trans LRq9.out
    obtain ⟨z_q_0, z_q_1, z_q_2⟩ := cells3 hg
    clear hg
    have HX := hid (signR_any e_sg.out hRq9.out)
    go_wp2_with fail
    refine (HX.out).mono ?_
    rintro e w10 ⟨rfl, b10⟩
    replace b10 := hid b10
    clear HX
    clear z_q_0 z_q_1 z_q_2
    have hg : w10.heap[w7.heap.size]? = some (.cells #[.bool (decide (z.num < 0)), .slice C25 (Vx.len z.num.natAbs) j25, .slice C26 (Vx.len (below z.den)) j26] 25 (0, 0)) := (b10.out.block _ (Array.getElem?_eq_some_iff.1 LRz9.out).1).trans LRz9.out
    obtain ⟨z_z_0, z_z_1, z_z_2⟩ := cells3 hg
    clear hg
    have HX := hid (sign_val z_s.out (hRz9.out.keep b10.out))
    go_wp2_with fail
    refine (HX.out).mono ?_
    rintro e w11 ⟨rfl, b11⟩
    replace b11 := hid b11
    clear HX
    clear z_z_0 z_z_1 z_z_2
    have HX := hid (known_any (cell_keep HMB9.out (Below.step b10.out b11.out)) (tab_keep HTB9.out (Below.step b10.out b11.out)))
    go_wp2_with fail
    refine (HX.out).mono ?_
    rintro e w12 ⟨rfl, b12⟩
    replace b12 := hid b12
    clear HX
    have HE := hid (Below.step HBB9.out (Below.step (Below.step b10.out b11.out) b12.out))
    go_wp2_with fail
    go_ret
    exact ⟨rfl, HE.out⟩

set_option maxRecDepth 100000 in
set_option maxHeartbeats 40000000 in
theorem powers_ok {w : World} {sa sb : ByteArray} {n : Int} {mx : Int} (h1 : ¬ 60 < sa.size) (h2 : ¬ 60 < sb.size) (h3 : 0 ≤ n) (h4 : n ≤ 12) (hM : w.cell? ⟨3, 0, none⟩ = some (.int .i64 mx)) (hT : TabAt 0 Lib.deBruijn64tab w) :
    Calls Tryz.prog 5 #[.string sa, .string sb, .int .i64 n] w (BoolRet w true) := by
  obtain ⟨x, e_x⟩ : ∃ v_ : Rat, (parseV sa).1 = v_ := ⟨_, rfl⟩
  obtain ⟨g, e_g⟩ : ∃ v_ : Rat, (parseV sb).1 = v_ := ⟨_, rfl⟩
  have z_x : siz x ≤ 130 := by rw [← e_x]; have := parse_siz_le sa; omega
  have z_g : siz g ≤ 130 := by rw [← e_g]; have := parse_siz_le sb; omega
  have hla : sa.size ≤ 1048576 := by omega
  have hlb : sb.size ≤ 1048576 := by omega
  obtain ⟨m, rfl⟩ : ∃ m : Nat, n = (m : Int) := ⟨n.toNat, by omega⟩
  obtain ⟨y, e_y⟩ : ∃ v_ : Rat, x ^ m = v_ := ⟨_, rfl⟩
  have z_y : siz y ≤ 4100 := by
    rw [← e_y]
    have k1 := siz_pow x m
    have k2 : siz x * m ≤ 130 * 12 := Nat.mul_le_mul z_x (by omega)
    omega
  have hm : m ≤ 64 := by omega
  have s5_x : siz x ≤ 100000 := by omega
  obtain ⟨sg, e_sg⟩ : ∃ v_ : Int, g.num.sign = v_ := ⟨_, rfl⟩
  have s_x : siz x ≤ 536870912 := by omega
  have t_x : siz x ≤ 16777216 := by omega
  have s_g : siz g ≤ 536870912 := by omega
  have t_g : siz g ≤ 16777216 := by omega
  have d1 : decide (((sa.size : Nat) : Int) > 60) = false := decide_eq_false (by omega)
  have d1' : ¬ (((sa.size : Nat) : Int) > 60) := by omega
  have d2 : decide (((sb.size : Nat) : Int) > 60) = false := decide_eq_false (by omega)
  have d2' : ¬ (((sb.size : Nat) : Int) > 60) := by omega
  have d3 : decide (((m : Nat) : Int) > 12) = false := decide_eq_false (by omega)
  have l0 : decide (((m : Nat) : Int) < 0) = false := decide_eq_false (by omega)
  have l1 : decide (((m : Nat) : Int) > 64) = false := decide_eq_false (by omega)
  rcases Decidable.em (0 < g.num) with hg | hg
  · obtain ⟨z, e_z⟩ : ∃ v_ : Rat, flr (x / g + mkRat 1 2) * g = v_ := ⟨_, rfl⟩
    have z_z : siz z ≤ 4100 := by
      rw [← e_z]
      have i1 := Vx.siz_mul (flr (x / g + mkRat 1 2)) g
      have i2 := siz_flr (x / g + mkRat 1 2)
      have i3 := Vx.siz_add (x / g) (mkRat 1 2)
      have i4 := Vx.siz_div x g
      have i5 : siz (mkRat 1 2) ≤ 3 := by decide +kernel
      omega
    have l9 : decide (sg ≤ 0) = false := decide_eq_false (by rw [← e_sg]; have := Int.sign_eq_one_of_pos hg; omega)
    have g0 : g ≠ 0 := by intro e; rw [e] at hg; exact absurd hg (by decide)
    replace z_z := hid z_z
    replace e_z := hid e_z
    replace g0 := hid g0
    replace hg := hid hg
    replace s_x := hid s_x
    replace s_g := hid s_g
    replace t_x := hid t_x
    replace t_g := hid t_g
    replace hla := hid hla
    replace hlb := hid hlb
    replace e_x := hid e_x
    replace e_g := hid e_g
    replace e_y := hid e_y
    replace e_sg := hid e_sg
    replace z_y := hid z_y
    replace hm := hid hm
    replace s5_x := hid s5_x
    clear z_x z_g h1 h2 h3 h4
    skip
    replace hM := hid hM
    replace hT := hid hT
    go_enter Tryz.func5, Tryz.ntmps5
    have HX := hid (both_any e_x.out hla.out (cell_keep hM.out (Below.refl _ w)))
    go_wp2_with fail
    refine (HX.out).mono ?_
    rintro e w1 ⟨va1, vb1, rfl, ha1, hb1, b1⟩
    obtain ⟨C1, j1, C2, j2, rfl, -, -⟩ := id ha1.opened
    replace ha1 := hid ha1
    obtain ⟨C3, j3, C4, j4, rfl, -, -⟩ := id hb1.opened
    replace hb1 := hid hb1
    replace b1 := hid b1
    clear HX
    go_upto_region 4 with fail
    obtain ⟨w2, hw2⟩ : ∃ u, u = (w1.alloc (.cells #[.bool (decide (x.num < 0)), .slice C1 (Vx.len x.num.natAbs) j1, .slice C2 (Vx.len (below x.den)) j2] 25)).alloc (.cells #[.bool (decide (x.num < 0)), .slice C3 (len x.num.natAbs) j3, .slice C4 (len x.den) j4] 33) := ⟨_, rfl⟩
    obtain ⟨b2, L2, M2⟩ := news2 w1 (.cells #[.bool (decide (x.num < 0)), .slice C1 (Vx.len x.num.natAbs) j1, .slice C2 (Vx.len (below x.den)) j2] 25) (.cells #[.bool (decide (x.num < 0)), .slice C3 (len x.num.natAbs) j3, .slice C4 (len x.den) j4] 33)
    rw [← hw2] at b2 L2 M2 ⊢
    clear hw2
    replace b2 := hid b2
    replace L2 := hid L2
    replace M2 := hid M2
    have HX := hid (both_any e_g.out hlb.out (cell_keep hM.out (Below.step b1.out b2.out)))
    go_wp2_with fail
    refine (HX.out).mono ?_
    rintro e w3 ⟨va3, vb3, rfl, ha3, hb3, b3⟩
    obtain ⟨C5, j5, C6, j6, rfl, -, -⟩ := id ha3.opened
    replace ha3 := hid ha3
    obtain ⟨C7, j7, C8, j8, rfl, -, -⟩ := id hb3.opened
    replace hb3 := hid hb3
    replace b3 := hid b3
    clear HX
    go_upto_region 5 with fail
    obtain ⟨w4, hw4⟩ : ∃ u, u = (w3.alloc (.cells #[.bool (decide (g.num < 0)), .slice C5 (Vx.len g.num.natAbs) j5, .slice C6 (Vx.len (below g.den)) j6] 25)).alloc (.cells #[.bool (decide (g.num < 0)), .slice C7 (len g.num.natAbs) j7, .slice C8 (len g.den) j8] 33) := ⟨_, rfl⟩
    obtain ⟨b4, L4, M4⟩ := news2 w3 (.cells #[.bool (decide (g.num < 0)), .slice C5 (Vx.len g.num.natAbs) j5, .slice C6 (Vx.len (below g.den)) j6] 25) (.cells #[.bool (decide (g.num < 0)), .slice C7 (len g.num.natAbs) j7, .slice C8 (len g.den) j8] 33)
    rw [← hw4] at b4 L4 M4 ⊢
    clear hw4
    replace b4 := hid b4
    replace L4 := hid L4
    replace M4 := hid M4
    have hRx4 := hid (ha1.out.keep (Below.step (Below.step b2.out b3.out) b4.out))
    have hRp4 := hid (hb1.out.keep (Below.step (Below.step b2.out b3.out) b4.out))
    have hRg4 := hid (ha3.out.keep b4.out)
    have hRq4 := hid (hb3.out.keep b4.out)
    have LRx4 : Hid (w4.heap[w1.heap.size]? = some (.cells #[.bool (decide (x.num < 0)), .slice C1 (Vx.len x.num.natAbs) j1, .slice C2 (Vx.len (below x.den)) j2] 25 (0, 0))) := ((Below.step b3.out b4.out).block _ (Array.getElem?_eq_some_iff.1 L2.out).1).trans L2.out
    have LRp4 : Hid (w4.heap[w1.heap.size + 1]? = some (.cells #[.bool (decide (x.num < 0)), .slice C3 (len x.num.natAbs) j3, .slice C4 (len x.den) j4] 33 (0, 0))) := ((Below.step b3.out b4.out).block _ (Array.getElem?_eq_some_iff.1 M2.out).1).trans M2.out
    have HMB4 := hid (cell_keep hM.out (Below.step (Below.step (Below.step b1.out b2.out) b3.out) b4.out))
    have HTB4 := hid (tab_keep hT.out (Below.step (Below.step (Below.step b1.out b2.out) b3.out) b4.out))
    have HBB4 := hid (Below.step (Below.step (Below.step b1.out b2.out) b3.out) b4.out)
    clear ha1 hb1 ha3 hb3 L2 M2 hM hT b1 b2 b3 b4
    have hg : w4.heap[w1.heap.size]? = some (.cells #[.bool (decide (x.num < 0)), .slice C1 (Vx.len x.num.natAbs) j1, .slice C2 (Vx.len (below x.den)) j2] 25 (0, 0)) := ((Below.refl _ w4).block _ (Array.getElem?_eq_some_iff.1 LRx4.out).1).trans LRx4.out
    obtain ⟨z_x_0, z_x_1, z_x_2⟩ := cells3 hg
    clear hg
    have HX := hid (pow_ok hRx4.out e_y.out.symm (Nat.le_trans s_x.out (by omega)) hm.out)
    go_wp2_with fail
    refine (HX.out).mono ?_
    rintro e w5 ⟨v5, rfl, hv5, b5⟩
    obtain ⟨C9, j9, C10, j10, rfl, -, -⟩ := id hv5.opened
    replace hv5 := hid hv5
    replace b5 := hid b5
    clear HX
    clear z_x_0 z_x_1 z_x_2
    go_upto_region 6 with fail
    obtain ⟨w6, hw6⟩ : ∃ u, u = w5.alloc (.cells #[.bool (decide (y.num < 0)), .slice C9 (Vx.len y.num.natAbs) j9, .slice C10 (Vx.len (below y.den)) j10] 25) := ⟨_, rfl⟩
    have b6 : Hid (Below w5.heap.size w5 w6) := by rw [hw6]; exact (Below.refl _ _).alloc (Nat.le_refl _) _
    have L6 : Hid (w6.heap[w5.heap.size]? = some (.cells #[.bool (decide (y.num < 0)), .slice C9 (Vx.len y.num.natAbs) j9, .slice C10 (Vx.len (below y.den)) j10] 25 (0, 0))) := by rw [hw6]; exact heap_alloc_new w5 _
    rw [← hw6]
    clear hw6
    have hg : w6.heap[w1.heap.size]? = some (.cells #[.bool (decide (x.num < 0)), .slice C1 (Vx.len x.num.natAbs) j1, .slice C2 (Vx.len (below x.den)) j2] 25 (0, 0)) := ((Below.step b5.out b6.out).block _ (Array.getElem?_eq_some_iff.1 LRx4.out).1).trans LRx4.out
    obtain ⟨z_x_0, z_x_1, z_x_2⟩ := cells3 hg
    clear hg
    have hg : w6.heap[w3.heap.size]? = some (.cells #[.bool (decide (g.num < 0)), .slice C5 (Vx.len g.num.natAbs) j5, .slice C6 (Vx.len (below g.den)) j6] 25 (0, 0)) := ((Below.step b5.out b6.out).block _ (Array.getElem?_eq_some_iff.1 L4.out).1).trans L4.out
    obtain ⟨z_g_0, z_g_1, z_g_2⟩ := cells3 hg
    clear hg
    have HX := hid (round_val e_z.out hg.out (hRx4.out.keep (Below.step b5.out b6.out)) (hRg4.out.keep (Below.step b5.out b6.out)) s_x.out s_g.out)
    go_wp2_with fail
    refine (HX.out).mono ?_
    rintro e w7 ⟨v7, rfl, hv7, b7⟩
    obtain ⟨C11, j11, C12, j12, rfl, -, -⟩ := id hv7.opened
    replace hv7 := hid hv7
    replace b7 := hid b7
    clear HX
    clear z_x_0 z_x_1 z_x_2 z_g_0 z_g_1 z_g_2
    go_upto_region 7 with fail
    obtain ⟨w8, hw8⟩ : ∃ u, u = w7.alloc (.cells #[.bool (decide (z.num < 0)), .slice C11 (Vx.len z.num.natAbs) j11, .slice C12 (Vx.len (below z.den)) j12] 25) := ⟨_, rfl⟩
    have b8 : Hid (Below w7.heap.size w7 w8) := by rw [hw8]; exact (Below.refl _ _).alloc (Nat.le_refl _) _
    have L8 : Hid (w8.heap[w7.heap.size]? = some (.cells #[.bool (decide (z.num < 0)), .slice C11 (Vx.len z.num.natAbs) j11, .slice C12 (Vx.len (below z.den)) j12] 25 (0, 0))) := by rw [hw8]; exact heap_alloc_new w7 _
    rw [← hw8]
    clear hw8
    have hRx8 := hid (hRx4.out.keep (Below.step (Below.step (Below.step b5.out b6.out) b7.out) b8.out))
    have hRp8 := hid (hRp4.out.keep (Below.step (Below.step (Below.step b5.out b6.out) b7.out) b8.out))
    have hRg8 := hid (hRg4.out.keep (Below.step (Below.step (Below.step b5.out b6.out) b7.out) b8.out))
    have hRq8 := hid (hRq4.out.keep (Below.step (Below.step (Below.step b5.out b6.out) b7.out) b8.out))
    have hRy8 := hid (hv5.out.keep (Below.step (Below.step b6.out b7.out) b8.out))
    have hRz8 := hid (hv7.out.keep b8.out)
    have LRx8 : Hid (w8.heap[w1.heap.size]? = some (.cells #[.bool (decide (x.num < 0)), .slice C1 (Vx.len x.num.natAbs) j1, .slice C2 (Vx.len (below x.den)) j2] 25 (0, 0))) := ((Below.step (Below.step (Below.step b5.out b6.out) b7.out) b8.out).block _ (Array.getElem?_eq_some_iff.1 LRx4.out).1).trans LRx4.out
    have LRp8 : Hid (w8.heap[w1.heap.size + 1]? = some (.cells #[.bool (decide (x.num < 0)), .slice C3 (len x.num.natAbs) j3, .slice C4 (len x.den) j4] 33 (0, 0))) := ((Below.step (Below.step (Below.step b5.out b6.out) b7.out) b8.out).block _ (Array.getElem?_eq_some_iff.1 LRp4.out).1).trans LRp4.out
    have LRg8 : Hid (w8.heap[w3.heap.size]? = some (.cells #[.bool (decide (g.num < 0)), .slice C5 (Vx.len g.num.natAbs) j5, .slice C6 (Vx.len (below g.den)) j6] 25 (0, 0))) := ((Below.step (Below.step (Below.step b5.out b6.out) b7.out) b8.out).block _ (Array.getElem?_eq_some_iff.1 L4.out).1).trans L4.out
    have LRq8 : Hid (w8.heap[w3.heap.size + 1]? = some (.cells #[.bool (decide (g.num < 0)), .slice C7 (len g.num.natAbs) j7, .slice C8 (len g.den) j8] 33 (0, 0))) := ((Below.step (Below.step (Below.step b5.out b6.out) b7.out) b8.out).block _ (Array.getElem?_eq_some_iff.1 M4.out).1).trans M4.out
    have LRy8 : Hid (w8.heap[w5.heap.size]? = some (.cells #[.bool (decide (y.num < 0)), .slice C9 (Vx.len y.num.natAbs) j9, .slice C10 (Vx.len (below y.den)) j10] 25 (0, 0))) := ((Below.step b7.out b8.out).block _ (Array.getElem?_eq_some_iff.1 L6.out).1).trans L6.out
    have HMB8 := hid (cell_keep HMB4.out (Below.step (Below.step (Below.step b5.out b6.out) b7.out) b8.out))
    have HTB8 := hid (tab_keep HTB4.out (Below.step (Below.step (Below.step b5.out b6.out) b7.out) b8.out))
    have HBB8 := hid (Below.step HBB4.out (Below.step (Below.step (Below.step b5.out b6.out) b7.out) b8.out))
    clear hRx4 hRp4 hRg4 hRq4 hv5 hv7 LRx4 LRp4 L4 M4 L6 HMB4 HTB4 HBB4 b5 b6 b7 b8
    go_upto_region 10 with fail
    go_wp2_with fail
    obtain ⟨NNa, hNN⟩ : ∃ n : Nat, w8.heap.size = n := ⟨_, rfl⟩
    have HSZa : Hid (w8.heap.size = NNa) := hNN
    have hg : w8.heap[w1.heap.size + 1]? = some (.cells #[.bool (decide (x.num < 0)), .slice C3 (len x.num.natAbs) j3, .slice C4 (len x.den) j4] 33 (0, 0)) := ((Below.refl _ w8).block _ (Array.getElem?_eq_some_iff.1 LRp8.out).1).trans LRp8.out
    obtain ⟨z_p_0, z_p_1, z_p_2⟩ := cells3 hg
    clear hg
    have hlta_p : w1.heap.size + 1 < NNa := Nat.lt_of_lt_of_eq (World.block_lt_of_cell? _ _ z_p_0) hNN
    have hg : w8.heap[w5.heap.size]? = some (.cells #[.bool (decide (y.num < 0)), .slice C9 (Vx.len y.num.natAbs) j9, .slice C10 (Vx.len (below y.den)) j10] 25 (0, 0)) := ((Below.refl _ w8).block _ (Array.getElem?_eq_some_iff.1 LRy8.out).1).trans LRy8.out
    obtain ⟨z_y_0, z_y_1, z_y_2⟩ := cells3 hg
    clear hg
    have hlta_y : w5.heap.size < NNa := Nat.lt_of_lt_of_eq (World.block_lt_of_cell? _ _ z_y_0) hNN
    have H0 := Held0.start w8 NNa
    have H0' := H0
    unfold Held0 at H0'
    refine wp_region_held_drew (S := (fun w' => (∀ b o, b < NNa → w'.cell? ⟨b, o, none⟩ = w8.cell? ⟨b, o, none⟩) ∧ Below (NNa) w8 w' ∧ Stay w8 w')) (by kernel_rfl) ?_ (fun hHeld => ?_)
    · (try dsimp only)
      exact H0'
    obtain ⟨w9, hw9⟩ : ∃ u, u = w8.drew := ⟨_, rfl⟩
    have b9 : Hid (Below w8.heap.size w8 w9) := by rw [hw9]; exact ⟨rfl, rfl, rfl, Nat.le_refl _, fun _ _ => rfl⟩
    rw [← hw9] at hHeld H0 ⊢
    clear hw9 H0' hNN
    as_aux_lemma =>
     refine tk (i := 0) (h := ?_)
     try simp only [Act.put, lt, ly, lu]
     refine tk (i := 1) (h := ?_)
     try simp only [Act.put, lt, ly, lu]
     refine tk (i := 2) (h := ?_)
     try simp only [Act.put, lt, ly, lu]
     refine tk (i := 3) (h := ?_)
     try simp only [Act.put, lt, ly, lu]
     refine tk (i := 4) (h := ?_)
     try simp only [Act.put, lt, ly, lu]
     refine tk (i := 5) (h := ?_)
     try simp only [Act.put, lt, ly, lu]
     refine wpAnyH_ready (rs := [6]) (by kernel_rfl) (by simp) (AllReadyH.cons (o := ?oq33) ?eq33 ?kq33 AllReadyH.nil)
     case eq33 => simp only [lg, lz, ls]; rfl
     intro K hK; go_simp; go_at_call 43
     refine (powR_any e_y.out (hRp8.out.keep b9.out) s5_x.out hm.out).mono ?_
     rintro e w10 ⟨v10, rfl, hv10, b10⟩
     obtain ⟨C13, j13, C14, j14, rfl, -, -⟩ := id hv10.opened
     replace hv10 := hid hv10
     replace b10 := hid b10
     have hk10 := hcall H0 HSZa b10.out; have hk10' := hk10; unfold Held0 at hk10'; clear hHeld H0
     refine hK.out _ _ ?_ (fun hHeld => ?_)
     · (try dsimp only); with_reducible exact hk10'
     clear hK K hk10'; try simp only [Act.put, lt, ly, lu]
     refine wpAnyH_ready (rs := [7]) (by kernel_rfl) (by simp) (AllReadyH.cons (o := ?oq34) ?eq34 ?kq34 AllReadyH.nil)
     case eq34 => simp only [lg, lz, ls]; rfl
     intro K hK; go_simp; go_at_call 13
     refine (same_any (hRy8.out.keep (Below.step b9.out b10.out)) hv10.out z_y.out (tab_keep HTB8.out (Below.step b9.out b10.out))).mono ?_
     rintro e w11 ⟨rfl, b11⟩
     replace b11 := hid b11
     have hk11 := hcall hk10 HSZa b11.out; have hk11' := hk11; unfold Held0 at hk11'; clear hHeld hk10
     refine hK.out _ _ ?_ (fun hHeld => ?_)
     · (try dsimp only); with_reducible exact hk11'
     clear hK K hk11'; try simp only [Act.put, lt, ly, lu]
     refine tk (i := 8) (h := ?_)
     try simp only [Act.put, lt, ly, lu]
     refine tk (i := 9) (h := ?_)
     try simp only [Act.put, lt, ly, lu]
     refine wpAnyH_done (by kernel_rfl) ?_ _
     clear hHeld
     clear z_p_0 z_p_1 z_p_2 z_y_0 z_y_1 z_y_2 hlta_p hlta_y
     clear hk11 HSZa
     have hRx11 := hid (hRx8.out.keep (Below.step (Below.step b9.out b10.out) b11.out))
     have hRp11 := hid (hRp8.out.keep (Below.step (Below.step b9.out b10.out) b11.out))
     have hRg11 := hid (hRg8.out.keep (Below.step (Below.step b9.out b10.out) b11.out))
     have hRq11 := hid (hRq8.out.keep (Below.step (Below.step b9.out b10.out) b11.out))
     have hRz11 := hid (hRz8.out.keep (Below.step (Below.step b9.out b10.out) b11.out))
     have LRx11 : Hid (w11.heap[w1.heap.size]? = some (.cells #[.bool (decide (x.num < 0)), .slice C1 (Vx.len x.num.natAbs) j1, .slice C2 (Vx.len (below x.den)) j2] 25 (0, 0))) := ((Below.step (Below.step b9.out b10.out) b11.out).block _ (Array.getElem?_eq_some_iff.1 LRx8.out).1).trans LRx8.out
     have LRp11 : Hid (w11.heap[w1.heap.size + 1]? = some (.cells #[.bool (decide (x.num < 0)), .slice C3 (len x.num.natAbs) j3, .slice C4 (len x.den) j4] 33 (0, 0))) := ((Below.step (Below.step b9.out b10.out) b11.out).block _ (Array.getElem?_eq_some_iff.1 LRp8.out).1).trans LRp8.out
     have LRg11 : Hid (w11.heap[w3.heap.size]? = some (.cells #[.bool (decide (g.num < 0)), .slice C5 (Vx.len g.num.natAbs) j5, .slice C6 (Vx.len (below g.den)) j6] 25 (0, 0))) := ((Below.step (Below.step b9.out b10.out) b11.out).block _ (Array.getElem?_eq_some_iff.1 LRg8.out).1).trans LRg8.out
     have LRq11 : Hid (w11.heap[w3.heap.size + 1]? = some (.cells #[.bool (decide (g.num < 0)), .slice C7 (len g.num.natAbs) j7, .slice C8 (len g.den) j8] 33 (0, 0))) := ((Below.step (Below.step b9.out b10.out) b11.out).block _ (Array.getElem?_eq_some_iff.1 LRq8.out).1).trans LRq8.out
     have LRz11 : Hid (w11.heap[w7.heap.size]? = some (.cells #[.bool (decide (z.num < 0)), .slice C11 (Vx.len z.num.natAbs) j11, .slice C12 (Vx.len (below z.den)) j12] 25 (0, 0))) := ((Below.step (Below.step b9.out b10.out) b11.out).block _ (Array.getElem?_eq_some_iff.1 L8.out).1).trans L8.out
     have HMB11 := hid (cell_keep HMB8.out (Below.step (Below.step b9.out b10.out) b11.out))
     have HTB11 := hid (tab_keep HTB8.out (Below.step (Below.step b9.out b10.out) b11.out))
     have HBB11 := hid (Below.step HBB8.out (Below.step (Below.step b9.out b10.out) b11.out))
     clear hRx8 hRp8 hRg8 hRq8 hRz8 LRx8 LRp8 LRg8 LRq8 L8 HMB8 HTB8 HBB8 b9 b10 b11
     go_upto_region 12 with fail
     have hg : w11.heap[w3.heap.size + 1]? = some (.cells #[.bool (decide (g.num < 0)), .slice C7 (len g.num.natAbs) j7, .slice C8 (len g.den) j8] 33 (0, 0)) := ((Below.refl _ w11).block _ (Array.getElem?_eq_some_iff.1 LRq11.out).1).trans LRq11.out
     obtain ⟨z_q_0, z_q_1, z_q_2⟩ := cells3 hg
     clear hg
     have HX := hid (signR_any e_sg.out hRq11.out)
     go_wp2_with fail
     refine (HX.out).mono ?_
     rintro e w12 ⟨rfl, b12⟩
     replace b12 := hid b12
     clear HX
     clear z_q_0 z_q_1 z_q_2
     have hRp12 := hid (hRp11.out.keep b12.out)
     have hRq12 := hid (hRq11.out.keep b12.out)
     have hRz12 := hid (hRz11.out.keep b12.out)
     have LRp12 : Hid (w12.heap[w1.heap.size + 1]? = some (.cells #[.bool (decide (x.num < 0)), .slice C3 (len x.num.natAbs) j3, .slice C4 (len x.den) j4] 33 (0, 0))) := (b12.out.block _ (Array.getElem?_eq_some_iff.1 LRp11.out).1).trans LRp11.out
     have LRq12 : Hid (w12.heap[w3.heap.size + 1]? = some (.cells #[.bool (decide (g.num < 0)), .slice C7 (len g.num.natAbs) j7, .slice C8 (len g.den) j8] 33 (0, 0))) := (b12.out.block _ (Array.getElem?_eq_some_iff.1 LRq11.out).1).trans LRq11.out
     have LRz12 : Hid (w12.heap[w7.heap.size]? = some (.cells #[.bool (decide (z.num < 0)), .slice C11 (Vx.len z.num.natAbs) j11, .slice C12 (Vx.len (below z.den)) j12] 25 (0, 0))) := (b12.out.block _ (Array.getElem?_eq_some_iff.1 LRz11.out).1).trans LRz11.out
     have HMB12 := hid (cell_keep HMB11.out b12.out)
     have HTB12 := hid (tab_keep HTB11.out b12.out)
     have HBB12 := hid (Below.step HBB11.out b12.out)
     clear hRp11 hRq11 hRz11 LRp11 LRq11 LRz11 HMB11 HTB11 HBB11 b12
     go_upto_region 14 with fail
     go_wp2_with fail
     obtain ⟨NNb, hNN⟩ : ∃ n : Nat, w12.heap.size = n := ⟨_, rfl⟩
     have HSZb : Hid (w12.heap.size = NNb) := hNN
     have hg : w12.heap[w1.heap.size + 1]? = some (.cells #[.bool (decide (x.num < 0)), .slice C3 (len x.num.natAbs) j3, .slice C4 (len x.den) j4] 33 (0, 0)) := ((Below.refl _ w12).block _ (Array.getElem?_eq_some_iff.1 LRp12.out).1).trans LRp12.out
     obtain ⟨z_p_0, z_p_1, z_p_2⟩ := cells3 hg
     clear hg
     have hltb_p : w1.heap.size + 1 < NNb := Nat.lt_of_lt_of_eq (World.block_lt_of_cell? _ _ z_p_0) hNN
     have hg : w12.heap[w3.heap.size + 1]? = some (.cells #[.bool (decide (g.num < 0)), .slice C7 (len g.num.natAbs) j7, .slice C8 (len g.den) j8] 33 (0, 0)) := ((Below.refl _ w12).block _ (Array.getElem?_eq_some_iff.1 LRq12.out).1).trans LRq12.out
     obtain ⟨z_q_0, z_q_1, z_q_2⟩ := cells3 hg
     clear hg
     have hltb_q : w3.heap.size + 1 < NNb := Nat.lt_of_lt_of_eq (World.block_lt_of_cell? _ _ z_q_0) hNN
     have hg : w12.heap[w7.heap.size]? = some (.cells #[.bool (decide (z.num < 0)), .slice C11 (Vx.len z.num.natAbs) j11, .slice C12 (Vx.len (below z.den)) j12] 25 (0, 0)) := ((Below.refl _ w12).block _ (Array.getElem?_eq_some_iff.1 LRz12.out).1).trans LRz12.out
     obtain ⟨z_z_0, z_z_1, z_z_2⟩ := cells3 hg
     clear hg
     have hltb_z : w7.heap.size < NNb := Nat.lt_of_lt_of_eq (World.block_lt_of_cell? _ _ z_z_0) hNN
     have H0 := Held0.start w12 NNb
     have H0' := H0
     unfold Held0 at H0'
     refine wp_region_held_drew (S := (fun w' => (∀ b o, b < NNb → w'.cell? ⟨b, o, none⟩ = w12.cell? ⟨b, o, none⟩) ∧ Below (NNb) w12 w' ∧ Stay w12 w')) (by kernel_rfl) ?_ (fun hHeld => ?_)
     · (try dsimp only)
       exact H0'
     obtain ⟨w13, hw13⟩ : ∃ u, u = w12.drew := ⟨_, rfl⟩
     have b13 : Hid (Below w12.heap.size w12 w13) := by rw [hw13]; exact ⟨rfl, rfl, rfl, Nat.le_refl _, fun _ _ => rfl⟩
     rw [← hw13] at hHeld H0 ⊢
     clear hw13 H0' hNN
     as_aux_lemma =>
      refine tk (i := 0) (h := ?_)
      try simp only [Act.put, lt, ly, lu]
      refine tk (i := 1) (h := ?_)
      try simp only [Act.put, lt, ly, lu]
      refine tk (i := 2) (h := ?_)
      try simp only [Act.put, lt, ly, lu]
      refine tk (i := 3) (h := ?_)
      try simp only [Act.put, lt, ly, lu]
      refine tk (i := 4) (h := ?_)
      try simp only [Act.put, lt, ly, lu]
      refine tk (i := 5) (h := ?_)
      try simp only [Act.put, lt, ly, lu]
      refine wpAnyH_ready (rs := [6]) (by kernel_rfl) (by simp) (AllReadyH.cons (o := ?oq43) ?eq43 ?kq43 AllReadyH.nil)
      case eq43 => simp only [lg, lz, ls]; rfl
      intro K hK; go_simp; go_at_call 44
      refine (roundR_any g0.out e_z.out (hRp12.out.keep b13.out) (hRq12.out.keep b13.out) t_x.out t_g.out).mono ?_
      rintro e w14 ⟨v14, rfl, hv14, b14⟩
      obtain ⟨C15, j15, C16, j16, rfl, -, -⟩ := id hv14.opened
      replace hv14 := hid hv14
      replace b14 := hid b14
      have hk14 := hcall H0 HSZb b14.out; have hk14' := hk14; unfold Held0 at hk14'; clear hHeld H0
      refine hK.out _ _ ?_ (fun hHeld => ?_)
      · (try dsimp only); with_reducible exact hk14'
      clear hK K hk14'; try simp only [Act.put, lt, ly, lu]
      refine wpAnyH_ready (rs := [7]) (by kernel_rfl) (by simp) (AllReadyH.cons (o := ?oq44) ?eq44 ?kq44 AllReadyH.nil)
      case eq44 => simp only [lg, lz, ls]; rfl
      intro K hK; go_simp; go_at_call 13
      refine (same_any (hRz12.out.keep (Below.step b13.out b14.out)) hv14.out z_z.out (tab_keep HTB12.out (Below.step b13.out b14.out))).mono ?_
      rintro e w15 ⟨rfl, b15⟩
      replace b15 := hid b15
      have hk15 := hcall hk14 HSZb b15.out; have hk15' := hk15; unfold Held0 at hk15'; clear hHeld hk14
      refine hK.out _ _ ?_ (fun hHeld => ?_)
      · (try dsimp only); with_reducible exact hk15'
      clear hK K hk15'; try simp only [Act.put, lt, ly, lu]
      refine tk (i := 8) (h := ?_)
      try simp only [Act.put, lt, ly, lu]
      refine tk (i := 9) (h := ?_)
      try simp only [Act.put, lt, ly, lu]
      refine wpAnyH_ready (rs := [10]) (by kernel_rfl) (by simp) (AllReadyH.cons (o := ?oq47) ?eq47 ?kq47 AllReadyH.nil)
      case eq47 => simp only [lg, lz, ls]; rfl
      intro K hK; go_simp; go_at_call 17
      refine (known_any (cell_keep HMB12.out (Below.step (Below.step b13.out b14.out) b15.out)) (tab_keep HTB12.out (Below.step (Below.step b13.out b14.out) b15.out))).mono ?_
      rintro e w16 ⟨rfl, b16⟩
      replace b16 := hid b16
      have hk16 := hcall hk15 HSZb b16.out; have hk16' := hk16; unfold Held0 at hk16'; clear hHeld hk15
      refine hK.out _ _ ?_ (fun hHeld => ?_)
      · (try dsimp only); with_reducible exact hk16'
      clear hK K hk16'; try simp only [Act.put, lt, ly, lu]
      refine tk (i := 11) (h := ?_)
      try simp only [Act.put, lt, ly, lu]
      as_aux_lemma =>
       refine tk (i := 12) (h := ?_)
       try simp only [Act.put, lt, ly, lu]
       have HE := hid (Below.step HBB12.out (Below.step (Below.step (Below.step b13.out b14.out) b15.out) b16.out))
       refine wpAnyH_done (by kernel_rfl) ?_ _
       clear hHeld
       go_wp2_with fail
       go_ret
       exact ⟨rfl, HE.out⟩
  · obtain ⟨z, e_z⟩ : ∃ v_ : Rat, 0 = v_ := ⟨_, rfl⟩
    have z_s : z.num.sign = 0 := by rw [← e_z]; rfl
    have l9 : decide (sg ≤ 0) = true := decide_eq_true (by rw [← e_sg]; exact Int.sign_nonpos_iff.2 (by omega))
    replace hg := hid (show g.num ≤ 0 by omega)
    replace z_s := hid z_s
    replace e_z := hid e_z
    replace s_x := hid s_x
    replace s_g := hid s_g
    replace t_x := hid t_x
    replace t_g := hid t_g
    replace hla := hid hla
    replace hlb := hid hlb
    replace e_x := hid e_x
    replace e_g := hid e_g
    replace e_y := hid e_y
    replace e_sg := hid e_sg
    replace z_y := hid z_y
    replace hm := hid hm
    replace s5_x := hid s5_x
    clear z_x z_g h1 h2 h3 h4
    skip
    replace hM := hid hM
    replace hT := hid hT
    go_enter Tryz.func5, Tryz.ntmps5
    have HX := hid (both_any e_x.out hla.out (cell_keep hM.out (Below.refl _ w)))
    go_wp2_with fail
    refine (HX.out).mono ?_
    rintro e w1 ⟨va1, vb1, rfl, ha1, hb1, b1⟩
    obtain ⟨C17, j17, C18, j18, rfl, -, -⟩ := id ha1.opened
    replace ha1 := hid ha1
    obtain ⟨C19, j19, C20, j20, rfl, -, -⟩ := id hb1.opened
    replace hb1 := hid hb1
    replace b1 := hid b1
    clear HX
    go_upto_region 4 with fail
    obtain ⟨w2, hw2⟩ : ∃ u, u = (w1.alloc (.cells #[.bool (decide (x.num < 0)), .slice C17 (Vx.len x.num.natAbs) j17, .slice C18 (Vx.len (below x.den)) j18] 25)).alloc (.cells #[.bool (decide (x.num < 0)), .slice C19 (len x.num.natAbs) j19, .slice C20 (len x.den) j20] 33) := ⟨_, rfl⟩
    obtain ⟨b2, L2, M2⟩ := news2 w1 (.cells #[.bool (decide (x.num < 0)), .slice C17 (Vx.len x.num.natAbs) j17, .slice C18 (Vx.len (below x.den)) j18] 25) (.cells #[.bool (decide (x.num < 0)), .slice C19 (len x.num.natAbs) j19, .slice C20 (len x.den) j20] 33)
    rw [← hw2] at b2 L2 M2 ⊢
    clear hw2
    replace b2 := hid b2
    replace L2 := hid L2
    replace M2 := hid M2
    have HX := hid (both_any e_g.out hlb.out (cell_keep hM.out (Below.step b1.out b2.out)))
    go_wp2_with fail
    refine (HX.out).mono ?_
    rintro e w3 ⟨va3, vb3, rfl, ha3, hb3, b3⟩
    obtain ⟨C21, j21, C22, j22, rfl, -, -⟩ := id ha3.opened
    replace ha3 := hid ha3
    obtain ⟨C23, j23, C24, j24, rfl, -, -⟩ := id hb3.opened
    replace hb3 := hid hb3
    replace b3 := hid b3
    clear HX
    go_upto_region 5 with fail
    obtain ⟨w4, hw4⟩ : ∃ u, u = (w3.alloc (.cells #[.bool (decide (g.num < 0)), .slice C21 (Vx.len g.num.natAbs) j21, .slice C22 (Vx.len (below g.den)) j22] 25)).alloc (.cells #[.bool (decide (g.num < 0)), .slice C23 (len g.num.natAbs) j23, .slice C24 (len g.den) j24] 33) := ⟨_, rfl⟩
    obtain ⟨b4, L4, M4⟩ := news2 w3 (.cells #[.bool (decide (g.num < 0)), .slice C21 (Vx.len g.num.natAbs) j21, .slice C22 (Vx.len (below g.den)) j22] 25) (.cells #[.bool (decide (g.num < 0)), .slice C23 (len g.num.natAbs) j23, .slice C24 (len g.den) j24] 33)
    rw [← hw4] at b4 L4 M4 ⊢
    clear hw4
    replace b4 := hid b4
    replace L4 := hid L4
    replace M4 := hid M4
    have hRx4 := hid (ha1.out.keep (Below.step (Below.step b2.out b3.out) b4.out))
    have hRp4 := hid (hb1.out.keep (Below.step (Below.step b2.out b3.out) b4.out))
    have hRg4 := hid (ha3.out.keep b4.out)
    have hRq4 := hid (hb3.out.keep b4.out)
    have LRx4 : Hid (w4.heap[w1.heap.size]? = some (.cells #[.bool (decide (x.num < 0)), .slice C17 (Vx.len x.num.natAbs) j17, .slice C18 (Vx.len (below x.den)) j18] 25 (0, 0))) := ((Below.step b3.out b4.out).block _ (Array.getElem?_eq_some_iff.1 L2.out).1).trans L2.out
    have LRp4 : Hid (w4.heap[w1.heap.size + 1]? = some (.cells #[.bool (decide (x.num < 0)), .slice C19 (len x.num.natAbs) j19, .slice C20 (len x.den) j20] 33 (0, 0))) := ((Below.step b3.out b4.out).block _ (Array.getElem?_eq_some_iff.1 M2.out).1).trans M2.out
    have HMB4 := hid (cell_keep hM.out (Below.step (Below.step (Below.step b1.out b2.out) b3.out) b4.out))
    have HTB4 := hid (tab_keep hT.out (Below.step (Below.step (Below.step b1.out b2.out) b3.out) b4.out))
    have HBB4 := hid (Below.step (Below.step (Below.step b1.out b2.out) b3.out) b4.out)
    clear ha1 hb1 ha3 hb3 L2 M2 hM hT b1 b2 b3 b4
    have hg : w4.heap[w1.heap.size]? = some (.cells #[.bool (decide (x.num < 0)), .slice C17 (Vx.len x.num.natAbs) j17, .slice C18 (Vx.len (below x.den)) j18] 25 (0, 0)) := ((Below.refl _ w4).block _ (Array.getElem?_eq_some_iff.1 LRx4.out).1).trans LRx4.out
    obtain ⟨z_x_0, z_x_1, z_x_2⟩ := cells3 hg
    clear hg
    have HX := hid (pow_ok hRx4.out e_y.out.symm (Nat.le_trans s_x.out (by omega)) hm.out)
    go_wp2_with fail
    refine (HX.out).mono ?_
    rintro e w5 ⟨v5, rfl, hv5, b5⟩
    obtain ⟨C25, j25, C26, j26, rfl, -, -⟩ := id hv5.opened
    replace hv5 := hid hv5
    replace b5 := hid b5
    clear HX
    clear z_x_0 z_x_1 z_x_2
    go_upto_region 6 with fail
    obtain ⟨w6, hw6⟩ : ∃ u, u = w5.alloc (.cells #[.bool (decide (y.num < 0)), .slice C25 (Vx.len y.num.natAbs) j25, .slice C26 (Vx.len (below y.den)) j26] 25) := ⟨_, rfl⟩
    have b6 : Hid (Below w5.heap.size w5 w6) := by rw [hw6]; exact (Below.refl _ _).alloc (Nat.le_refl _) _
    have L6 : Hid (w6.heap[w5.heap.size]? = some (.cells #[.bool (decide (y.num < 0)), .slice C25 (Vx.len y.num.natAbs) j25, .slice C26 (Vx.len (below y.den)) j26] 25 (0, 0))) := by rw [hw6]; exact heap_alloc_new w5 _
    rw [← hw6]
    clear hw6
    have hg : w6.heap[w1.heap.size]? = some (.cells #[.bool (decide (x.num < 0)), .slice C17 (Vx.len x.num.natAbs) j17, .slice C18 (Vx.len (below x.den)) j18] 25 (0, 0)) := ((Below.step b5.out b6.out).block _ (Array.getElem?_eq_some_iff.1 LRx4.out).1).trans LRx4.out
    obtain ⟨z_x_0, z_x_1, z_x_2⟩ := cells3 hg
    clear hg
    have hg : w6.heap[w3.heap.size]? = some (.cells #[.bool (decide (g.num < 0)), .slice C21 (Vx.len g.num.natAbs) j21, .slice C22 (Vx.len (below g.den)) j22] 25 (0, 0)) := ((Below.step b5.out b6.out).block _ (Array.getElem?_eq_some_iff.1 L4.out).1).trans L4.out
    obtain ⟨z_g_0, z_g_1, z_g_2⟩ := cells3 hg
    clear hg
    have HX := hid (round_no e_z.out hg.out (hRx4.out.keep (Below.step b5.out b6.out)) (hRg4.out.keep (Below.step b5.out b6.out)))
    go_wp2_with fail
    refine (HX.out).mono ?_
    rintro e w7 ⟨v7, rfl, hv7, b7⟩
    obtain ⟨C27, j27, C28, j28, rfl, -, -⟩ := id hv7.opened
    replace hv7 := hid hv7
    replace b7 := hid b7
    clear HX
    clear z_x_0 z_x_1 z_x_2 z_g_0 z_g_1 z_g_2
    go_upto_region 7 with fail
    obtain ⟨w8, hw8⟩ : ∃ u, u = w7.alloc (.cells #[.bool (decide (z.num < 0)), .slice C27 (Vx.len z.num.natAbs) j27, .slice C28 (Vx.len (below z.den)) j28] 25) := ⟨_, rfl⟩
    have b8 : Hid (Below w7.heap.size w7 w8) := by rw [hw8]; exact (Below.refl _ _).alloc (Nat.le_refl _) _
    have L8 : Hid (w8.heap[w7.heap.size]? = some (.cells #[.bool (decide (z.num < 0)), .slice C27 (Vx.len z.num.natAbs) j27, .slice C28 (Vx.len (below z.den)) j28] 25 (0, 0))) := by rw [hw8]; exact heap_alloc_new w7 _
    rw [← hw8]
    clear hw8
    have hRx8 := hid (hRx4.out.keep (Below.step (Below.step (Below.step b5.out b6.out) b7.out) b8.out))
    have hRp8 := hid (hRp4.out.keep (Below.step (Below.step (Below.step b5.out b6.out) b7.out) b8.out))
    have hRg8 := hid (hRg4.out.keep (Below.step (Below.step (Below.step b5.out b6.out) b7.out) b8.out))
    have hRq8 := hid (hRq4.out.keep (Below.step (Below.step (Below.step b5.out b6.out) b7.out) b8.out))
    have hRy8 := hid (hv5.out.keep (Below.step (Below.step b6.out b7.out) b8.out))
    have hRz8 := hid (hv7.out.keep b8.out)
    have LRx8 : Hid (w8.heap[w1.heap.size]? = some (.cells #[.bool (decide (x.num < 0)), .slice C17 (Vx.len x.num.natAbs) j17, .slice C18 (Vx.len (below x.den)) j18] 25 (0, 0))) := ((Below.step (Below.step (Below.step b5.out b6.out) b7.out) b8.out).block _ (Array.getElem?_eq_some_iff.1 LRx4.out).1).trans LRx4.out
    have LRp8 : Hid (w8.heap[w1.heap.size + 1]? = some (.cells #[.bool (decide (x.num < 0)), .slice C19 (len x.num.natAbs) j19, .slice C20 (len x.den) j20] 33 (0, 0))) := ((Below.step (Below.step (Below.step b5.out b6.out) b7.out) b8.out).block _ (Array.getElem?_eq_some_iff.1 LRp4.out).1).trans LRp4.out
    have LRg8 : Hid (w8.heap[w3.heap.size]? = some (.cells #[.bool (decide (g.num < 0)), .slice C21 (Vx.len g.num.natAbs) j21, .slice C22 (Vx.len (below g.den)) j22] 25 (0, 0))) := ((Below.step (Below.step (Below.step b5.out b6.out) b7.out) b8.out).block _ (Array.getElem?_eq_some_iff.1 L4.out).1).trans L4.out
    have LRq8 : Hid (w8.heap[w3.heap.size + 1]? = some (.cells #[.bool (decide (g.num < 0)), .slice C23 (len g.num.natAbs) j23, .slice C24 (len g.den) j24] 33 (0, 0))) := ((Below.step (Below.step (Below.step b5.out b6.out) b7.out) b8.out).block _ (Array.getElem?_eq_some_iff.1 M4.out).1).trans M4.out
    have LRy8 : Hid (w8.heap[w5.heap.size]? = some (.cells #[.bool (decide (y.num < 0)), .slice C25 (Vx.len y.num.natAbs) j25, .slice C26 (Vx.len (below y.den)) j26] 25 (0, 0))) := ((Below.step b7.out b8.out).block _ (Array.getElem?_eq_some_iff.1 L6.out).1).trans L6.out
    have HMB8 := hid (cell_keep HMB4.out (Below.step (Below.step (Below.step b5.out b6.out) b7.out) b8.out))
    have HTB8 := hid (tab_keep HTB4.out (Below.step (Below.step (Below.step b5.out b6.out) b7.out) b8.out))
    have HBB8 := hid (Below.step HBB4.out (Below.step (Below.step (Below.step b5.out b6.out) b7.out) b8.out))
    clear hRx4 hRp4 hRg4 hRq4 hv5 hv7 LRx4 LRp4 L4 M4 L6 HMB4 HTB4 HBB4 b5 b6 b7 b8
    go_upto_region 10 with fail
    go_wp2_with fail
    obtain ⟨NNa, hNN⟩ : ∃ n : Nat, w8.heap.size = n := ⟨_, rfl⟩
    have HSZa : Hid (w8.heap.size = NNa) := hNN
    have hg : w8.heap[w1.heap.size + 1]? = some (.cells #[.bool (decide (x.num < 0)), .slice C19 (len x.num.natAbs) j19, .slice C20 (len x.den) j20] 33 (0, 0)) := ((Below.refl _ w8).block _ (Array.getElem?_eq_some_iff.1 LRp8.out).1).trans LRp8.out
    obtain ⟨z_p_0, z_p_1, z_p_2⟩ := cells3 hg
    clear hg
    have hlta_p : w1.heap.size + 1 < NNa := Nat.lt_of_lt_of_eq (World.block_lt_of_cell? _ _ z_p_0) hNN
    have hg : w8.heap[w5.heap.size]? = some (.cells #[.bool (decide (y.num < 0)), .slice C25 (Vx.len y.num.natAbs) j25, .slice C26 (Vx.len (below y.den)) j26] 25 (0, 0)) := ((Below.refl _ w8).block _ (Array.getElem?_eq_some_iff.1 LRy8.out).1).trans LRy8.out
    obtain ⟨z_y_0, z_y_1, z_y_2⟩ := cells3 hg
    clear hg
    have hlta_y : w5.heap.size < NNa := Nat.lt_of_lt_of_eq (World.block_lt_of_cell? _ _ z_y_0) hNN
    have H0 := Held0.start w8 NNa
    have H0' := H0
    unfold Held0 at H0'
    refine wp_region_held_drew (S := (fun w' => (∀ b o, b < NNa → w'.cell? ⟨b, o, none⟩ = w8.cell? ⟨b, o, none⟩) ∧ Below (NNa) w8 w' ∧ Stay w8 w')) (by kernel_rfl) ?_ (fun hHeld => ?_)
    · (try dsimp only)
      exact H0'
    obtain ⟨w9, hw9⟩ : ∃ u, u = w8.drew := ⟨_, rfl⟩
    have b9 : Hid (Below w8.heap.size w8 w9) := by rw [hw9]; exact ⟨rfl, rfl, rfl, Nat.le_refl _, fun _ _ => rfl⟩
    rw [← hw9] at hHeld H0 ⊢
    clear hw9 H0' hNN
    as_aux_lemma =>
     refine tk (i := 0) (h := ?_)
     try simp only [Act.put, lt, ly, lu]
     refine tk (i := 1) (h := ?_)
     try simp only [Act.put, lt, ly, lu]
     refine tk (i := 2) (h := ?_)
     try simp only [Act.put, lt, ly, lu]
     refine tk (i := 3) (h := ?_)
     try simp only [Act.put, lt, ly, lu]
     refine tk (i := 4) (h := ?_)
     try simp only [Act.put, lt, ly, lu]
     refine tk (i := 5) (h := ?_)
     try simp only [Act.put, lt, ly, lu]
     refine wpAnyH_ready (rs := [6]) (by kernel_rfl) (by simp) (AllReadyH.cons (o := ?oq56) ?eq56 ?kq56 AllReadyH.nil)
     case eq56 => simp only [lg, lz, ls]; rfl
     intro K hK; go_simp; go_at_call 43
     refine (powR_any e_y.out (hRp8.out.keep b9.out) s5_x.out hm.out).mono ?_
     rintro e w10 ⟨v10, rfl, hv10, b10⟩
     obtain ⟨C29, j29, C30, j30, rfl, -, -⟩ := id hv10.opened
     replace hv10 := hid hv10
     replace b10 := hid b10
     have hk10 := hcall H0 HSZa b10.out; have hk10' := hk10; unfold Held0 at hk10'; clear hHeld H0
     refine hK.out _ _ ?_ (fun hHeld => ?_)
     · (try dsimp only); with_reducible exact hk10'
     clear hK K hk10'; try simp only [Act.put, lt, ly, lu]
     refine wpAnyH_ready (rs := [7]) (by kernel_rfl) (by simp) (AllReadyH.cons (o := ?oq57) ?eq57 ?kq57 AllReadyH.nil)
     case eq57 => simp only [lg, lz, ls]; rfl
     intro K hK; go_simp; go_at_call 13
     refine (same_any (hRy8.out.keep (Below.step b9.out b10.out)) hv10.out z_y.out (tab_keep HTB8.out (Below.step b9.out b10.out))).mono ?_
     rintro e w11 ⟨rfl, b11⟩
     replace b11 := hid b11
     have hk11 := hcall hk10 HSZa b11.out; have hk11' := hk11; unfold Held0 at hk11'; clear hHeld hk10
     refine hK.out _ _ ?_ (fun hHeld => ?_)
     · (try dsimp only); with_reducible exact hk11'
     clear hK K hk11'; try simp only [Act.put, lt, ly, lu]
     refine tk (i := 8) (h := ?_)
     try simp only [Act.put, lt, ly, lu]
     refine tk (i := 9) (h := ?_)
     try simp only [Act.put, lt, ly, lu]
     refine wpAnyH_done (by kernel_rfl) ?_ _
     clear hHeld
     clear z_p_0 z_p_1 z_p_2 z_y_0 z_y_1 z_y_2 hlta_p hlta_y
     clear hk11 HSZa
     have hRx11 := hid (hRx8.out.keep (Below.step (Below.step b9.out b10.out) b11.out))
     have hRp11 := hid (hRp8.out.keep (Below.step (Below.step b9.out b10.out) b11.out))
     have hRg11 := hid (hRg8.out.keep (Below.step (Below.step b9.out b10.out) b11.out))
     have hRq11 := hid (hRq8.out.keep (Below.step (Below.step b9.out b10.out) b11.out))
     have hRz11 := hid (hRz8.out.keep (Below.step (Below.step b9.out b10.out) b11.out))
     have LRx11 : Hid (w11.heap[w1.heap.size]? = some (.cells #[.bool (decide (x.num < 0)), .slice C17 (Vx.len x.num.natAbs) j17, .slice C18 (Vx.len (below x.den)) j18] 25 (0, 0))) := ((Below.step (Below.step b9.out b10.out) b11.out).block _ (Array.getElem?_eq_some_iff.1 LRx8.out).1).trans LRx8.out
     have LRp11 : Hid (w11.heap[w1.heap.size + 1]? = some (.cells #[.bool (decide (x.num < 0)), .slice C19 (len x.num.natAbs) j19, .slice C20 (len x.den) j20] 33 (0, 0))) := ((Below.step (Below.step b9.out b10.out) b11.out).block _ (Array.getElem?_eq_some_iff.1 LRp8.out).1).trans LRp8.out
     have LRg11 : Hid (w11.heap[w3.heap.size]? = some (.cells #[.bool (decide (g.num < 0)), .slice C21 (Vx.len g.num.natAbs) j21, .slice C22 (Vx.len (below g.den)) j22] 25 (0, 0))) := ((Below.step (Below.step b9.out b10.out) b11.out).block _ (Array.getElem?_eq_some_iff.1 LRg8.out).1).trans LRg8.out
     have LRq11 : Hid (w11.heap[w3.heap.size + 1]? = some (.cells #[.bool (decide (g.num < 0)), .slice C23 (len g.num.natAbs) j23, .slice C24 (len g.den) j24] 33 (0, 0))) := ((Below.step (Below.step b9.out b10.out) b11.out).block _ (Array.getElem?_eq_some_iff.1 LRq8.out).1).trans LRq8.out
     have LRz11 : Hid (w11.heap[w7.heap.size]? = some (.cells #[.bool (decide (z.num < 0)), .slice C27 (Vx.len z.num.natAbs) j27, .slice C28 (Vx.len (below z.den)) j28] 25 (0, 0))) := ((Below.step (Below.step b9.out b10.out) b11.out).block _ (Array.getElem?_eq_some_iff.1 L8.out).1).trans L8.out
     have HMB11 := hid (cell_keep HMB8.out (Below.step (Below.step b9.out b10.out) b11.out))
     have HTB11 := hid (tab_keep HTB8.out (Below.step (Below.step b9.out b10.out) b11.out))
     have HBB11 := hid (Below.step HBB8.out (Below.step (Below.step b9.out b10.out) b11.out))
     clear hRx8 hRp8 hRg8 hRq8 hRz8 LRx8 LRp8 LRg8 LRq8 L8 HMB8 HTB8 HBB8 b9 b10 b11
     go_upto_region 12 with fail
     have hg : w11.heap[w3.heap.size + 1]? = some (.cells #[.bool (decide (g.num < 0)), .slice C23 (len g.num.natAbs) j23, .slice C24 (len g.den) j24] 33 (0, 0)) := ((Below.refl _ w11).block _ (Array.getElem?_eq_some_iff.1 LRq11.out).1).trans LRq11.out
     obtain ⟨z_q_0, z_q_1, z_q_2⟩ := cells3 hg
     clear hg
     have HX := hid (signR_any e_sg.out hRq11.out)
     go_wp2_with fail
     refine (HX.out).mono ?_
     rintro e w12 ⟨rfl, b12⟩
     replace b12 := hid b12
     clear HX
     clear z_q_0 z_q_1 z_q_2
     have hg : w12.heap[w7.heap.size]? = some (.cells #[.bool (decide (z.num < 0)), .slice C27 (Vx.len z.num.natAbs) j27, .slice C28 (Vx.len (below z.den)) j28] 25 (0, 0)) := (b12.out.block _ (Array.getElem?_eq_some_iff.1 LRz11.out).1).trans LRz11.out
     obtain ⟨z_z_0, z_z_1, z_z_2⟩ := cells3 hg
     clear hg
     have HX := hid (sign_val z_s.out (hRz11.out.keep b12.out))
     go_wp2_with fail
     refine (HX.out).mono ?_
     rintro e w13 ⟨rfl, b13⟩
     replace b13 := hid b13
     clear HX
     clear z_z_0 z_z_1 z_z_2
     have HX := hid (known_any (cell_keep HMB11.out (Below.step b12.out b13.out)) (tab_keep HTB11.out (Below.step b12.out b13.out)))
     go_wp2_with fail
     refine (HX.out).mono ?_
     rintro e w14 ⟨rfl, b14⟩
     replace b14 := hid b14
     clear HX
     have HE := hid (Below.step HBB11.out (Below.step (Below.step b12.out b13.out) b14.out))
     go_wp2_with fail
     go_ret
     exact ⟨rfl, HE.out⟩

theorem powers_any {w : World} {sa sb : ByteArray} {n : Int} {mx : Int} (hM : w.cell? ⟨3, 0, none⟩ = some (.int .i64 mx)) (hT : TabAt 0 Lib.deBruijn64tab w) :
    Calls Tryz.prog 5 #[.string sa, .string sb, .int .i64 n] w (BoolRet w true) := by
  rcases Decidable.em (60 < sa.size) with h1 | h1
  · exact powers_long1 h1 hM hT
  · rcases Decidable.em (60 < sb.size) with h2 | h2
    · exact powers_long2 h1 h2 hM hT
    · rcases Decidable.em (n < 0) with h3 | h3
      · exact powers_lo h1 h2 h3 hM hT
      · rcases Decidable.em (64 < n) with h4 | h4
        · exact powers_hi h1 h2 h4 hM hT
        · rcases Decidable.em (12 < n) with h5 | h5
          · exact powers_long3 h1 h2 h5 (by omega) hM hT
          · exact powers_ok h1 h2 (by omega) (by omega) hM hT
end Go.Proofs.YtfppimacnhcflaaGreatDoor.Rf
