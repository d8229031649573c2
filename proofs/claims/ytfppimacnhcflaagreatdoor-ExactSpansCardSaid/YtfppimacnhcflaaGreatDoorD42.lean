/-
  Contracts of the functions that the law calls, for every input (Sp).
-/
import Derived.Test.YtfppimacnhcflaaGreatDoorD00
import Derived.Test.YtfppimacnhcflaaGreatDoorD41
set_option linter.all false
set_option maxRecDepth 100000
set_option maxHeartbeats 40000000
namespace Go.Proofs.YtfppimacnhcflaaGreatDoor.Rf
open Lib (hid)
open Go.RowKit
open Rx
open Vx (siz siz_num siz_den)
open List renaming getElem?_toArray → lg, getElem?_cons_zero → lz, getElem?_cons_succ → ls, setIfInBounds_toArray → lt, set_cons_zero → ly, set_cons_succ → lu
theorem span_no {w : World} {vx vy : Value} {p q o : Rat} (ho : 0 = o) (h : q < p) (hx : IsNum w vx p) (hy : IsNum w vy q) (sp : siz p ≤ 536870912) (sq : siz q ≤ 536870912) :
    Calls Tryz.prog 49 #[vx, vy] w (BoxErrRet w o o 12) := by
  obtain ⟨c, ec⟩ : ∃ n : Int, cmpQ p q = n := ⟨_, rfl⟩
  have d1 : decide (c > 0) = true := decide_eq_true (by rw [← ec]; exact cmpQ_gt0.2 h)
  replace ec := hid ec
  replace sp := hid sp
  replace sq := hid sq
  replace ho := hid ho
  clear h
  obtain ⟨C1, j1, C2, j2, rfl, -, -⟩ := id hx.opened
  replace hx := hid hx
  obtain ⟨C3, j3, C4, j4, rfl, -, -⟩ := id hy.opened
  replace hy := hid hy
  obtain ⟨w1, hw1⟩ : ∃ u, u = (((w.alloc (.cells #[.bool (decide (p.num < 0)), .slice C1 (Vx.len p.num.natAbs) j1, .slice C2 (Vx.len (below p.den)) j2] 25)).alloc (.cells #[.bool (decide (q.num < 0)), .slice C3 (Vx.len q.num.natAbs) j3, .slice C4 (Vx.len (below q.den)) j4] 25)).alloc (.cells #[.bool false, .slice none 0 0, .slice none 0 0, .bool false, .slice none 0 0, .slice none 0 0] 71)) := ⟨_, rfl⟩
  obtain ⟨b1, g1, g2, g3⟩ := news3' hw1
  replace g1 := hid g1
  replace g2 := hid g2
  replace g3 := hid g3
  replace b1 := hid b1
  go_enter Tryz.func49, Tryz.ntmps49
  go_upto_region 1 with fail
  rw [← hw1]
  clear hw1
  have hg : w1.heap[w.heap.size]? = some (.cells #[.bool (decide (p.num < 0)), .slice C1 (Vx.len p.num.natAbs) j1, .slice C2 (Vx.len (below p.den)) j2] 25 (0, 0)) := ((Below.refl _ w1).block _ (Array.getElem?_eq_some_iff.1 g1.out).1).trans g1.out
  obtain ⟨z_x_0, z_x_1, z_x_2⟩ := cells3 hg
  clear hg
  have hg : w1.heap[w.heap.size + 1]? = some (.cells #[.bool (decide (q.num < 0)), .slice C3 (Vx.len q.num.natAbs) j3, .slice C4 (Vx.len (below q.den)) j4] 25 (0, 0)) := ((Below.refl _ w1).block _ (Array.getElem?_eq_some_iff.1 g2.out).1).trans g2.out
  obtain ⟨z_y_0, z_y_1, z_y_2⟩ := cells3 hg
  clear hg
  have HX := hid (cmp_val ec.out (hx.out.keep b1.out) (hy.out.keep b1.out) sp.out sq.out)
  go_wp2_with fail
  refine (HX.out).mono ?_
  rintro e w2 ⟨rfl, b2⟩
  replace b2 := hid b2
  clear HX
  clear z_x_0 z_x_1 z_x_2 z_y_0 z_y_1 z_y_2
  have DR := (at_keep g3.out b2.out)
  have q0 : w2.cell? ⟨w.heap.size + 2, 0, none⟩ = some (.bool false) := cell_of_row _ _ _ _ _ _ DR
  have F0 : w2.frozen? ⟨w.heap.size + 2, 0, none⟩ = false := frozen_of_row w2 (w.heap.size + 2) 0 _ _ DR
  have q1 : w2.cell? ⟨w.heap.size + 2, 1, none⟩ = some (.slice none 0 0) := cell_of_row _ _ _ _ _ _ DR
  have F1 : w2.frozen? ⟨w.heap.size + 2, 1, none⟩ = false := frozen_of_row w2 (w.heap.size + 2) 1 _ _ DR
  have q2 : w2.cell? ⟨w.heap.size + 2, 2, none⟩ = some (.slice none 0 0) := cell_of_row _ _ _ _ _ _ DR
  have F2 : w2.frozen? ⟨w.heap.size + 2, 2, none⟩ = false := frozen_of_row w2 (w.heap.size + 2) 2 _ _ DR
  have q3 : w2.cell? ⟨w.heap.size + 2, 3, none⟩ = some (.bool false) := cell_of_row _ _ _ _ _ _ DR
  have F3 : w2.frozen? ⟨w.heap.size + 2, 3, none⟩ = false := frozen_of_row w2 (w.heap.size + 2) 3 _ _ DR
  have q4 : w2.cell? ⟨w.heap.size + 2, 4, none⟩ = some (.slice none 0 0) := cell_of_row _ _ _ _ _ _ DR
  have F4 : w2.frozen? ⟨w.heap.size + 2, 4, none⟩ = false := frozen_of_row w2 (w.heap.size + 2) 4 _ _ DR
  have q5 : w2.cell? ⟨w.heap.size + 2, 5, none⟩ = some (.slice none 0 0) := cell_of_row _ _ _ _ _ _ DR
  have F5 : w2.frozen? ⟨w.heap.size + 2, 5, none⟩ = false := frozen_of_row w2 (w.heap.size + 2) 5 _ _ DR
  have FB := (Below.step b1.out b2.out)
  have FV := (show IsBox w2 (.agg #[.bool false, .slice none 0 0, .slice none 0 0, .bool false, .slice none 0 0, .slice none 0 0]) o o by rw [← ho.out]; exact IsNum.pair (zero_num _) (zero_num _))
  obtain ⟨ue, hw⟩ : ∃ z, z = ((((((w2.setCell ⟨w.heap.size + 2, 0, none⟩ (.bool false)).setCell ⟨w.heap.size + 2, 1, none⟩ (.slice none 0 0)).setCell ⟨w.heap.size + 2, 2, none⟩ (.slice none 0 0)).setCell ⟨w.heap.size + 2, 3, none⟩ (.bool false)).setCell ⟨w.heap.size + 2, 4, none⟩ (.slice none 0 0)).setCell ⟨w.heap.size + 2, 5, none⟩ (.slice none 0 0)) := ⟨_, rfl⟩
  obtain ⟨E_ue, -, LV, BL⟩ := stored6 DR hw
  have FE := hid (LV.box FV)
  replace FB := hid (BL _ _ (by omega) FB)
  replace E_ue := hid E_ue
  replace hw := hid hw
  clear DR FV LV BL
  go_wp2_with fail
  rw [← hw.out]
  obtain ⟨r0, r1, r2, r3, r4, r5⟩ := cells6 E_ue.out
  refine bodyPost_ret (v := .tuple #[.agg #[.bool false, .slice none 0 0, .slice none 0 0, .bool false, .slice none 0 0, .slice none 0 0], .int .i64 12]) ?_ rfl ⟨_, rfl, FE.out, FB.out⟩
  simp [results, Tryz.results49, go_sem, r0, r1, r2, r3, r4, r5]
theorem in_both {l h x y : Rat} (hl : l ≤ h) (hx : x ≤ y) : decide ((l ≤ x ∧ x ≤ h) ∧ (l ≤ y ∧ y ≤ h)) = decide (l ≤ x ∧ y ≤ h) := by
  apply decide_eq_decide.2
  exact ⟨fun a => ⟨a.1.1, a.2.2⟩, fun a => ⟨⟨a.1, Rat.le_trans hx a.2⟩, ⟨Rat.le_trans a.1 hx, a.2⟩⟩⟩
theorem eq_both {l h x y : Rat} : (decide (l ≤ x ∧ y ≤ h) && decide (x ≤ l ∧ h ≤ y)) = decide (x = l ∧ y = h) := by
  rw [← Bool.decide_and]
  apply decide_eq_decide.2
  exact ⟨fun a => ⟨Rat.le_antisymm a.2.1 a.1.1, Rat.le_antisymm a.1.2 a.2.2⟩, fun a => by rw [a.1, a.2]; exact ⟨⟨Rat.le_refl, Rat.le_refl⟩, ⟨Rat.le_refl, Rat.le_refl⟩⟩⟩
theorem eq_all (x y : Rat) : decide (x = x ∧ y = y) = true := decide_eq_true ⟨rfl, rfl⟩
theorem boxSelf_any {w : World} {vx : Value} {a b : Rat} (hx : IsBox w vx a b) (sa : siz a ≤ 16777216) (sb : siz b ≤ 16777216) : Calls Tryz.prog 61 #[vx, vx] w (BoolRet w true) :=
  boxEqual_any (a := a) (b := b) (c := a) (d := b) (r := true) (eq_all a b) hx hx sa sb sa sb
theorem ends_le {p q l h : Rat} (el : (if q < p then q else p) = l) (eh : (if q < p then p else q) = h) : l ≤ h := by
  subst el eh
  split
  · rename_i k; exact Rat.le_of_lt k
  · rename_i k; exact Rat.not_lt.1 k
theorem ends_siz {p q l h : Rat} {n : Nat} (el : (if q < p then q else p) = l) (eh : (if q < p then p else q) = h) (hp : siz p ≤ n) (hq : siz q ≤ n) : siz l ≤ n ∧ siz h ≤ n := by
  subst el eh
  split
  · exact ⟨hq, hp⟩
  · exact ⟨hp, hq⟩
theorem bool_to {P : Program} {f : Nat} {ar : Array Value} {w : World} {r s : Bool} (e : r = s) (h : Calls P f ar w (BoolRet w r)) : Calls P f ar w (BoolRet w s) := e ▸ h
theorem spans_long {w : World} {sa sb sc : ByteArray} {mx : Int} (hlong : [sa, sb, sc].any (fun s => decide (120 < s.size)) = true) (hM : w.cell? ⟨3, 0, none⟩ = some (.int .i64 mx)) (hT : TabAt 0 Lib.deBruijn64tab w) :
    Calls Tryz.prog 7 #[.string sa, .string sb, .string sc] w (BoolRet w true) := by
  replace hM := hid hM
  replace hT := hid hT
  have HX := hid (long_three (w := w) hlong)
  clear hlong
  go_enter Tryz.func7, Tryz.ntmps7
  go_wp2_with fail
  obtain ⟨w1, hw1⟩ : ∃ u, u = w.alloc (.cells #[.string sa, .string sb, .string sc] 9) := ⟨_, rfl⟩
  have b1 : Hid (Below w.heap.size w w1) := by rw [hw1]; exact (Below.refl _ _).alloc (Nat.le_refl _) _
  rw [← hw1] at HX ⊢
  clear hw1
  refine (HX.out).mono ?_
  rintro e w9 ⟨rfl, rfl⟩
  clear HX
  have HX := hid (known_any (cell_keep hM.out b1.out) (tab_keep hT.out b1.out))
  go_wp2_with fail
  refine (HX.out).mono ?_
  rintro e w2 ⟨rfl, b2⟩
  replace b2 := hid b2
  clear HX
  have HE := hid (Below.step b1.out b2.out)
  go_wp2_with fail
  go_ret
  exact ⟨rfl, HE.out⟩
theorem spans_short {w : World} {sa sb sc : ByteArray} {mx : Int} (hlong : [sa, sb, sc].any (fun s => decide (120 < s.size)) = false) (hM : w.cell? ⟨3, 0, none⟩ = some (.int .i64 mx)) (hT : TabAt 0 Lib.deBruijn64tab w) :
    Calls Tryz.prog 7 #[.string sa, .string sb, .string sc] w (BoolRet w true) := by
  have hshort := hlong
  simp only [List.any_cons, List.any_nil, Bool.or_false, Bool.or_eq_false_iff, decide_eq_false_iff_not] at hshort
  obtain ⟨hsa, hsb, hsc⟩ := hshort
  obtain ⟨x, e_x⟩ : ∃ v_ : Rat, (parseV sa).1 = v_ := ⟨_, rfl⟩
  have k_x : siz x ≤ 260 := by rw [← e_x]; have := parse_siz_le sa; omega
  have hsa : sa.size ≤ 1048576 := by omega
  have s_x : siz x ≤ 536870912 := by omega
  have t_x : siz x ≤ 268435456 := by omega
  have m_x : siz x ≤ 16777216 := by omega
  have z_x : siz x ≤ 4100 := by omega
  obtain ⟨y, e_y⟩ : ∃ v_ : Rat, (parseV sb).1 = v_ := ⟨_, rfl⟩
  have k_y : siz y ≤ 260 := by rw [← e_y]; have := parse_siz_le sb; omega
  have hsb : sb.size ≤ 1048576 := by omega
  have s_y : siz y ≤ 536870912 := by omega
  have t_y : siz y ≤ 268435456 := by omega
  have m_y : siz y ≤ 16777216 := by omega
  have z_y : siz y ≤ 4100 := by omega
  obtain ⟨z, e_z⟩ : ∃ v_ : Rat, (parseV sc).1 = v_ := ⟨_, rfl⟩
  have k_z : siz z ≤ 260 := by rw [← e_z]; have := parse_siz_le sc; omega
  have hsc : sc.size ≤ 1048576 := by omega
  have s_z : siz z ≤ 536870912 := by omega
  have t_z : siz z ≤ 268435456 := by omega
  have m_z : siz z ≤ 16777216 := by omega
  have z_z : siz z ≤ 4100 := by omega
  obtain ⟨c, ec⟩ : ∃ n : Int, cmpQ x y = n := ⟨_, rfl⟩
  rcases Decidable.em (y < x) with hlt | hlt
  · obtain ⟨o, eo⟩ : ∃ v_ : Rat, 0 = v_ := ⟨_, rfl⟩
    have d1 : decide (c > 0) = true := decide_eq_true (by rw [← ec]; exact cmpQ_gt0.2 hlt)
    clear k_x k_y k_z
    replace hlt := hid hlt
    replace eo := hid eo
    replace hsa := hid hsa
    replace hsb := hid hsb
    replace hsc := hid hsc
    replace ec := hid ec
    replace e_x := hid e_x
    replace e_y := hid e_y
    replace e_z := hid e_z
    replace s_x := hid s_x
    replace s_y := hid s_y
    replace s_z := hid s_z
    replace t_x := hid t_x
    replace t_y := hid t_y
    replace t_z := hid t_z
    replace m_x := hid m_x
    replace m_y := hid m_y
    replace m_z := hid m_z
    replace z_x := hid z_x
    replace z_y := hid z_y
    replace z_z := hid z_z
    replace hM := hid hM
    replace hT := hid hT
    have HX := hid (long_three (w := w) hlong)
    clear hlong
    go_enter Tryz.func7, Tryz.ntmps7
    go_wp2_with fail
    obtain ⟨w1, hw1⟩ : ∃ u, u = w.alloc (.cells #[.string sa, .string sb, .string sc] 9) := ⟨_, rfl⟩
    have b1 : Hid (Below w.heap.size w w1) := by rw [hw1]; exact (Below.refl _ _).alloc (Nat.le_refl _) _
    rw [← hw1] at HX ⊢
    clear hw1
    refine (HX.out).mono ?_
    rintro e w9 ⟨rfl, rfl⟩
    clear HX
    have HX := hid (both_any e_x.out hsa.out (cell_keep hM.out b1.out))
    go_wp2_with fail
    refine (HX.out).mono ?_
    rintro e w2 ⟨va2, vb2, rfl, ha2, hb2, b2⟩
    obtain ⟨C1, j1, C2, j2, rfl, -, -⟩ := id ha2.opened
    replace ha2 := hid ha2
    obtain ⟨C3, j3, C4, j4, rfl, -, -⟩ := id hb2.opened
    replace hb2 := hid hb2
    replace b2 := hid b2
    clear HX
    go_upto_region 4 with fail
    obtain ⟨w3, hw3⟩ : ∃ u, u = (w2.alloc (.cells #[.bool (decide (x.num < 0)), .slice C1 (Vx.len x.num.natAbs) j1, .slice C2 (Vx.len (below x.den)) j2] 25)).alloc (.cells #[.bool (decide (x.num < 0)), .slice C3 (len x.num.natAbs) j3, .slice C4 (len x.den) j4] 33) := ⟨_, rfl⟩
    obtain ⟨b3, L3, M3⟩ := news2 w2 (.cells #[.bool (decide (x.num < 0)), .slice C1 (Vx.len x.num.natAbs) j1, .slice C2 (Vx.len (below x.den)) j2] 25) (.cells #[.bool (decide (x.num < 0)), .slice C3 (len x.num.natAbs) j3, .slice C4 (len x.den) j4] 33)
    rw [← hw3] at b3 L3 M3 ⊢
    clear hw3
    replace b3 := hid b3
    replace L3 := hid L3
    replace M3 := hid M3
    have HX := hid (both_any e_y.out hsb.out (cell_keep hM.out (Below.step (Below.step b1.out b2.out) b3.out)))
    go_wp2_with fail
    refine (HX.out).mono ?_
    rintro e w4 ⟨va4, vb4, rfl, ha4, hb4, b4⟩
    obtain ⟨C5, j5, C6, j6, rfl, -, -⟩ := id ha4.opened
    replace ha4 := hid ha4
    obtain ⟨C7, j7, C8, j8, rfl, -, -⟩ := id hb4.opened
    replace hb4 := hid hb4
    replace b4 := hid b4
    clear HX
    go_upto_region 5 with fail
    obtain ⟨w5, hw5⟩ : ∃ u, u = (w4.alloc (.cells #[.bool (decide (y.num < 0)), .slice C5 (Vx.len y.num.natAbs) j5, .slice C6 (Vx.len (below y.den)) j6] 25)).alloc (.cells #[.bool (decide (y.num < 0)), .slice C7 (len y.num.natAbs) j7, .slice C8 (len y.den) j8] 33) := ⟨_, rfl⟩
    obtain ⟨b5, L5, M5⟩ := news2 w4 (.cells #[.bool (decide (y.num < 0)), .slice C5 (Vx.len y.num.natAbs) j5, .slice C6 (Vx.len (below y.den)) j6] 25) (.cells #[.bool (decide (y.num < 0)), .slice C7 (len y.num.natAbs) j7, .slice C8 (len y.den) j8] 33)
    rw [← hw5] at b5 L5 M5 ⊢
    clear hw5
    replace b5 := hid b5
    replace L5 := hid L5
    replace M5 := hid M5
    have HX := hid (both_any e_z.out hsc.out (cell_keep hM.out (Below.step (Below.step (Below.step (Below.step b1.out b2.out) b3.out) b4.out) b5.out)))
    go_wp2_with fail
    refine (HX.out).mono ?_
    rintro e w6 ⟨va6, vb6, rfl, ha6, hb6, b6⟩
    obtain ⟨C9, j9, C10, j10, rfl, -, -⟩ := id ha6.opened
    replace ha6 := hid ha6
    obtain ⟨C11, j11, C12, j12, rfl, -, -⟩ := id hb6.opened
    replace hb6 := hid hb6
    replace b6 := hid b6
    clear HX
    go_upto_region 6 with fail
    obtain ⟨w7, hw7⟩ : ∃ u, u = (w6.alloc (.cells #[.bool (decide (z.num < 0)), .slice C9 (Vx.len z.num.natAbs) j9, .slice C10 (Vx.len (below z.den)) j10] 25)).alloc (.cells #[.bool (decide (z.num < 0)), .slice C11 (len z.num.natAbs) j11, .slice C12 (len z.den) j12] 33) := ⟨_, rfl⟩
    obtain ⟨b7, L7, M7⟩ := news2 w6 (.cells #[.bool (decide (z.num < 0)), .slice C9 (Vx.len z.num.natAbs) j9, .slice C10 (Vx.len (below z.den)) j10] 25) (.cells #[.bool (decide (z.num < 0)), .slice C11 (len z.num.natAbs) j11, .slice C12 (len z.den) j12] 33)
    rw [← hw7] at b7 L7 M7 ⊢
    clear hw7
    replace b7 := hid b7
    replace L7 := hid L7
    replace M7 := hid M7
    have hRx7 := hid (ha2.out.keep (Below.step (Below.step (Below.step (Below.step b3.out b4.out) b5.out) b6.out) b7.out))
    have hRp7 := hid (hb2.out.keep (Below.step (Below.step (Below.step (Below.step b3.out b4.out) b5.out) b6.out) b7.out))
    have hRy7 := hid (ha4.out.keep (Below.step (Below.step b5.out b6.out) b7.out))
    have hRq7 := hid (hb4.out.keep (Below.step (Below.step b5.out b6.out) b7.out))
    have hRz7 := hid (ha6.out.keep b7.out)
    have hRr7 := hid (hb6.out.keep b7.out)
    have LRx7 : Hid (w7.heap[w2.heap.size]? = some (.cells #[.bool (decide (x.num < 0)), .slice C1 (Vx.len x.num.natAbs) j1, .slice C2 (Vx.len (below x.den)) j2] 25 (0, 0))) := ((Below.step (Below.step (Below.step b4.out b5.out) b6.out) b7.out).block _ (Array.getElem?_eq_some_iff.1 L3.out).1).trans L3.out
    have LRp7 : Hid (w7.heap[w2.heap.size + 1]? = some (.cells #[.bool (decide (x.num < 0)), .slice C3 (len x.num.natAbs) j3, .slice C4 (len x.den) j4] 33 (0, 0))) := ((Below.step (Below.step (Below.step b4.out b5.out) b6.out) b7.out).block _ (Array.getElem?_eq_some_iff.1 M3.out).1).trans M3.out
    have LRy7 : Hid (w7.heap[w4.heap.size]? = some (.cells #[.bool (decide (y.num < 0)), .slice C5 (Vx.len y.num.natAbs) j5, .slice C6 (Vx.len (below y.den)) j6] 25 (0, 0))) := ((Below.step b6.out b7.out).block _ (Array.getElem?_eq_some_iff.1 L5.out).1).trans L5.out
    have LRq7 : Hid (w7.heap[w4.heap.size + 1]? = some (.cells #[.bool (decide (y.num < 0)), .slice C7 (len y.num.natAbs) j7, .slice C8 (len y.den) j8] 33 (0, 0))) := ((Below.step b6.out b7.out).block _ (Array.getElem?_eq_some_iff.1 M5.out).1).trans M5.out
    have HMB7 := hid (cell_keep hM.out (Below.step (Below.step (Below.step (Below.step (Below.step (Below.step b1.out b2.out) b3.out) b4.out) b5.out) b6.out) b7.out))
    have HTB7 := hid (tab_keep hT.out (Below.step (Below.step (Below.step (Below.step (Below.step (Below.step b1.out b2.out) b3.out) b4.out) b5.out) b6.out) b7.out))
    have HBB7 := hid (Below.step (Below.step (Below.step (Below.step (Below.step (Below.step b1.out b2.out) b3.out) b4.out) b5.out) b6.out) b7.out)
    clear ha2 hb2 ha4 hb4 ha6 hb6 L3 M3 L5 M5 hM hT b1 b2 b3 b4 b5 b6 b7
    have hg : w7.heap[w2.heap.size]? = some (.cells #[.bool (decide (x.num < 0)), .slice C1 (Vx.len x.num.natAbs) j1, .slice C2 (Vx.len (below x.den)) j2] 25 (0, 0)) := ((Below.refl _ w7).block _ (Array.getElem?_eq_some_iff.1 LRx7.out).1).trans LRx7.out
    obtain ⟨z_x_0, z_x_1, z_x_2⟩ := cells3 hg
    clear hg
    have hg : w7.heap[w4.heap.size]? = some (.cells #[.bool (decide (y.num < 0)), .slice C5 (Vx.len y.num.natAbs) j5, .slice C6 (Vx.len (below y.den)) j6] 25 (0, 0)) := ((Below.refl _ w7).block _ (Array.getElem?_eq_some_iff.1 LRy7.out).1).trans LRy7.out
    obtain ⟨z_y_0, z_y_1, z_y_2⟩ := cells3 hg
    clear hg
    have HX := hid (span_no eo.out hlt.out hRx7.out hRy7.out s_x.out s_y.out)
    go_wp2_with fail
    refine (HX.out).mono ?_
    rintro e w8 ⟨v8, rfl, hv8, b8⟩
    obtain ⟨C13, j13, C14, j14, C15, j15, C16, j16, rfl, -, -, -, -⟩ := id hv8.opened
    replace hv8 := hid hv8
    replace b8 := hid b8
    clear HX
    clear z_x_0 z_x_1 z_x_2 z_y_0 z_y_1 z_y_2
    go_upto_region 7 with fail
    obtain ⟨w9, hw9⟩ : ∃ u, u = w8.alloc (.cells #[.bool (decide (o.num < 0)), .slice C13 (Vx.len o.num.natAbs) j13, .slice C14 (Vx.len (below o.den)) j14, .bool (decide (o.num < 0)), .slice C15 (Vx.len o.num.natAbs) j15, .slice C16 (Vx.len (below o.den)) j16] 71) := ⟨_, rfl⟩
    have b9 : Hid (Below w8.heap.size w8 w9) := by rw [hw9]; exact (Below.refl _ _).alloc (Nat.le_refl _) _
    have L9 : Hid (w9.heap[w8.heap.size]? = some (.cells #[.bool (decide (o.num < 0)), .slice C13 (Vx.len o.num.natAbs) j13, .slice C14 (Vx.len (below o.den)) j14, .bool (decide (o.num < 0)), .slice C15 (Vx.len o.num.natAbs) j15, .slice C16 (Vx.len (below o.den)) j16] 71 (0, 0))) := by rw [hw9]; exact heap_alloc_new w8 _
    rw [← hw9]
    clear hw9
    have hg : w9.heap[w2.heap.size + 1]? = some (.cells #[.bool (decide (x.num < 0)), .slice C3 (len x.num.natAbs) j3, .slice C4 (len x.den) j4] 33 (0, 0)) := ((Below.step b8.out b9.out).block _ (Array.getElem?_eq_some_iff.1 LRp7.out).1).trans LRp7.out
    obtain ⟨z_p_0, z_p_1, z_p_2⟩ := cells3 hg
    clear hg
    have hg : w9.heap[w4.heap.size + 1]? = some (.cells #[.bool (decide (y.num < 0)), .slice C7 (len y.num.natAbs) j7, .slice C8 (len y.den) j8] 33 (0, 0)) := ((Below.step b8.out b9.out).block _ (Array.getElem?_eq_some_iff.1 LRq7.out).1).trans LRq7.out
    obtain ⟨z_q_0, z_q_1, z_q_2⟩ := cells3 hg
    clear hg
    have HX := hid (cmpR_val ec.out (hRp7.out.keep (Below.step b8.out b9.out)) (hRq7.out.keep (Below.step b8.out b9.out)) t_x.out t_y.out)
    go_wp2_with fail
    refine (HX.out).mono ?_
    rintro e w10 ⟨rfl, b10⟩
    replace b10 := hid b10
    clear HX
    clear z_p_0 z_p_1 z_p_2 z_q_0 z_q_1 z_q_2
    have hg : w10.heap[w8.heap.size]? = some (.cells #[.bool (decide (o.num < 0)), .slice C13 (Vx.len o.num.natAbs) j13, .slice C14 (Vx.len (below o.den)) j14, .bool (decide (o.num < 0)), .slice C15 (Vx.len o.num.natAbs) j15, .slice C16 (Vx.len (below o.den)) j16] 71 (0, 0)) := (b10.out.block _ (Array.getElem?_eq_some_iff.1 L9.out).1).trans L9.out
    obtain ⟨z_s_0, z_s_1, z_s_2, z_s_3, z_s_4, z_s_5⟩ := cells6 hg
    clear hg
    have HX := hid (none_any eo.out.symm eo.out.symm (hv8.out.keep (Below.step b9.out b10.out)))
    go_wp2_with fail
    refine (HX.out).mono ?_
    rintro e w11 ⟨rfl, b11⟩
    replace b11 := hid b11
    clear HX
    clear z_s_0 z_s_1 z_s_2 z_s_3 z_s_4 z_s_5
    have HX := hid (known_any (cell_keep HMB7.out (Below.step (Below.step (Below.step b8.out b9.out) b10.out) b11.out)) (tab_keep HTB7.out (Below.step (Below.step (Below.step b8.out b9.out) b10.out) b11.out)))
    go_wp2_with fail
    refine (HX.out).mono ?_
    rintro e w12 ⟨rfl, b12⟩
    replace b12 := hid b12
    clear HX
    have HE := hid (Below.step HBB7.out (Below.step (Below.step (Below.step (Below.step b8.out b9.out) b10.out) b11.out) b12.out))
    go_wp2_with fail
    go_ret
    exact ⟨rfl, HE.out⟩
  · have d1 : decide (c > 0) = false := decide_eq_false (by rw [← ec]; exact fun k => hlt (cmpQ_gt0.1 k))
    have hle : x ≤ y := Rat.not_lt.1 hlt
    clear hlt
    obtain ⟨l, e_l⟩ : ∃ v_ : Rat, (if z < y then z else y) = v_ := ⟨_, rfl⟩
    obtain ⟨h, e_h⟩ : ∃ v_ : Rat, (if z < y then y else z) = v_ := ⟨_, rfl⟩
    have hlh := ends_le e_l e_h
    obtain ⟨k_l, k_h⟩ := ends_siz e_l e_h k_y k_z
    have m_l : siz l ≤ 16777216 := by omega
    have n_l : siz l ≤ 34359738368 := by omega
    have m_h : siz h ≤ 16777216 := by omega
    have n_h : siz h ≤ 34359738368 := by omega
    have n_x : siz x ≤ 34359738368 := by omega
    have n_y : siz y ≤ 34359738368 := by omega
    have n_z : siz z ≤ 34359738368 := by omega
    obtain ⟨su, e_su⟩ : ∃ v_ : Rat, x + y = v_ := ⟨_, rfl⟩
    obtain ⟨tw, e_tw⟩ : ∃ v_ : Rat, ((2 : Int) : Rat) = v_ := ⟨_, rfl⟩
    obtain ⟨mi, e_mi⟩ : ∃ v_ : Rat, su / tw = v_ := ⟨_, rfl⟩
    obtain ⟨wi, e_wi⟩ : ∃ v_ : Rat, y - x = v_ := ⟨_, rfl⟩
    have e_m2 : (x + y) / ((2 : Int) : Rat) = mi := by rw [e_su, e_tw]; exact e_mi
    have tw0 : tw ≠ 0 := by rw [← e_tw]; decide +kernel
    have k_su : siz su ≤ 600 := by rw [← e_su]; have := Vx.siz_add x y; omega
    have k_tw : siz tw ≤ 3 := by rw [← e_tw]; decide +kernel
    have t_su : siz su ≤ 268435456 := by omega
    have t_tw : siz tw ≤ 268435456 := by omega
    have z_mi : siz mi ≤ 4100 := by rw [← e_mi]; have := Vx.siz_div su tw; omega
    have z_wi : siz wi ≤ 4100 := by rw [← e_wi]; have := Vx.siz_sub y x; omega
    obtain ⟨r1, e_r1⟩ : ∃ v_ : Bool, decide (x ≤ z ∧ z ≤ y) = v_ := ⟨_, rfl⟩
    obtain ⟨r2, e_r2⟩ : ∃ v_ : Bool, decide (l ≤ x ∧ y ≤ h) = v_ := ⟨_, rfl⟩
    obtain ⟨r3, e_r3⟩ : ∃ v_ : Bool, decide (x ≤ l ∧ h ≤ y) = v_ := ⟨_, rfl⟩
    obtain ⟨r4, e_r4⟩ : ∃ v_ : Bool, decide (x = l ∧ y = h) = v_ := ⟨_, rfl⟩
    have f2 : decide ((l ≤ x ∧ x ≤ h) ∧ (l ≤ y ∧ y ≤ h)) = r2 := (in_both hlh hle).trans e_r2
    have f3 : decide ((x ≤ l ∧ l ≤ y) ∧ (x ≤ h ∧ h ≤ y)) = r3 := (in_both hle hlh).trans e_r3
    have f4 : (r2 && r3) = r4 := by rw [← e_r2, ← e_r3, ← e_r4]; exact eq_both
    clear k_x k_y k_z k_l k_h k_su k_tw
    replace hle := hid hle
    replace hlh := hid hlh
    replace hsa := hid hsa
    replace hsb := hid hsb
    replace hsc := hid hsc
    replace ec := hid ec
    replace e_x := hid e_x
    replace e_y := hid e_y
    replace e_z := hid e_z
    replace s_x := hid s_x
    replace s_y := hid s_y
    replace s_z := hid s_z
    replace t_x := hid t_x
    replace t_y := hid t_y
    replace t_z := hid t_z
    replace m_x := hid m_x
    replace m_y := hid m_y
    replace m_z := hid m_z
    replace z_x := hid z_x
    replace z_y := hid z_y
    replace z_z := hid z_z
    replace e_l := hid e_l
    replace e_h := hid e_h
    replace e_su := hid e_su
    replace e_tw := hid e_tw
    replace e_mi := hid e_mi
    replace e_wi := hid e_wi
    replace e_m2 := hid e_m2
    replace e_r1 := hid e_r1
    replace e_r2 := hid e_r2
    replace e_r3 := hid e_r3
    replace e_r4 := hid e_r4
    replace tw0 := hid tw0
    replace t_su := hid t_su
    replace t_tw := hid t_tw
    replace z_mi := hid z_mi
    replace z_wi := hid z_wi
    replace f2 := hid f2
    replace f3 := hid f3
    replace f4 := hid f4
    replace m_l := hid m_l
    replace m_h := hid m_h
    replace n_l := hid n_l
    replace n_h := hid n_h
    replace n_x := hid n_x
    replace n_y := hid n_y
    replace n_z := hid n_z
    replace hM := hid hM
    replace hT := hid hT
    have HX := hid (long_three (w := w) hlong)
    clear hlong
    go_enter Tryz.func7, Tryz.ntmps7
    go_wp2_with fail
    obtain ⟨w1, hw1⟩ : ∃ u, u = w.alloc (.cells #[.string sa, .string sb, .string sc] 9) := ⟨_, rfl⟩
    have b1 : Hid (Below w.heap.size w w1) := by rw [hw1]; exact (Below.refl _ _).alloc (Nat.le_refl _) _
    rw [← hw1] at HX ⊢
    clear hw1
    refine (HX.out).mono ?_
    rintro e w9 ⟨rfl, rfl⟩
    clear HX
    have HX := hid (both_any e_x.out hsa.out (cell_keep hM.out b1.out))
    go_wp2_with fail
    refine (HX.out).mono ?_
    rintro e w2 ⟨va2, vb2, rfl, ha2, hb2, b2⟩
    obtain ⟨C17, j17, C18, j18, rfl, -, -⟩ := id ha2.opened
    replace ha2 := hid ha2
    obtain ⟨C19, j19, C20, j20, rfl, -, -⟩ := id hb2.opened
    replace hb2 := hid hb2
    replace b2 := hid b2
    clear HX
    go_upto_region 4 with fail
    obtain ⟨w3, hw3⟩ : ∃ u, u = (w2.alloc (.cells #[.bool (decide (x.num < 0)), .slice C17 (Vx.len x.num.natAbs) j17, .slice C18 (Vx.len (below x.den)) j18] 25)).alloc (.cells #[.bool (decide (x.num < 0)), .slice C19 (len x.num.natAbs) j19, .slice C20 (len x.den) j20] 33) := ⟨_, rfl⟩
    obtain ⟨b3, L3, M3⟩ := news2 w2 (.cells #[.bool (decide (x.num < 0)), .slice C17 (Vx.len x.num.natAbs) j17, .slice C18 (Vx.len (below x.den)) j18] 25) (.cells #[.bool (decide (x.num < 0)), .slice C19 (len x.num.natAbs) j19, .slice C20 (len x.den) j20] 33)
    rw [← hw3] at b3 L3 M3 ⊢
    clear hw3
    replace b3 := hid b3
    replace L3 := hid L3
    replace M3 := hid M3
    have HX := hid (both_any e_y.out hsb.out (cell_keep hM.out (Below.step (Below.step b1.out b2.out) b3.out)))
    go_wp2_with fail
    refine (HX.out).mono ?_
    rintro e w4 ⟨va4, vb4, rfl, ha4, hb4, b4⟩
    obtain ⟨C21, j21, C22, j22, rfl, -, -⟩ := id ha4.opened
    replace ha4 := hid ha4
    obtain ⟨C23, j23, C24, j24, rfl, -, -⟩ := id hb4.opened
    replace hb4 := hid hb4
    replace b4 := hid b4
    clear HX
    go_upto_region 5 with fail
    obtain ⟨w5, hw5⟩ : ∃ u, u = (w4.alloc (.cells #[.bool (decide (y.num < 0)), .slice C21 (Vx.len y.num.natAbs) j21, .slice C22 (Vx.len (below y.den)) j22] 25)).alloc (.cells #[.bool (decide (y.num < 0)), .slice C23 (len y.num.natAbs) j23, .slice C24 (len y.den) j24] 33) := ⟨_, rfl⟩
    obtain ⟨b5, L5, M5⟩ := news2 w4 (.cells #[.bool (decide (y.num < 0)), .slice C21 (Vx.len y.num.natAbs) j21, .slice C22 (Vx.len (below y.den)) j22] 25) (.cells #[.bool (decide (y.num < 0)), .slice C23 (len y.num.natAbs) j23, .slice C24 (len y.den) j24] 33)
    rw [← hw5] at b5 L5 M5 ⊢
    clear hw5
    replace b5 := hid b5
    replace L5 := hid L5
    replace M5 := hid M5
    have HX := hid (both_any e_z.out hsc.out (cell_keep hM.out (Below.step (Below.step (Below.step (Below.step b1.out b2.out) b3.out) b4.out) b5.out)))
    go_wp2_with fail
    refine (HX.out).mono ?_
    rintro e w6 ⟨va6, vb6, rfl, ha6, hb6, b6⟩
    obtain ⟨C25, j25, C26, j26, rfl, -, -⟩ := id ha6.opened
    replace ha6 := hid ha6
    obtain ⟨C27, j27, C28, j28, rfl, -, -⟩ := id hb6.opened
    replace hb6 := hid hb6
    replace b6 := hid b6
    clear HX
    go_upto_region 6 with fail
    obtain ⟨w7, hw7⟩ : ∃ u, u = (w6.alloc (.cells #[.bool (decide (z.num < 0)), .slice C25 (Vx.len z.num.natAbs) j25, .slice C26 (Vx.len (below z.den)) j26] 25)).alloc (.cells #[.bool (decide (z.num < 0)), .slice C27 (len z.num.natAbs) j27, .slice C28 (len z.den) j28] 33) := ⟨_, rfl⟩
    obtain ⟨b7, L7, M7⟩ := news2 w6 (.cells #[.bool (decide (z.num < 0)), .slice C25 (Vx.len z.num.natAbs) j25, .slice C26 (Vx.len (below z.den)) j26] 25) (.cells #[.bool (decide (z.num < 0)), .slice C27 (len z.num.natAbs) j27, .slice C28 (len z.den) j28] 33)
    rw [← hw7] at b7 L7 M7 ⊢
    clear hw7
    replace b7 := hid b7
    replace L7 := hid L7
    replace M7 := hid M7
    have hRx7 := hid (ha2.out.keep (Below.step (Below.step (Below.step (Below.step b3.out b4.out) b5.out) b6.out) b7.out))
    have hRp7 := hid (hb2.out.keep (Below.step (Below.step (Below.step (Below.step b3.out b4.out) b5.out) b6.out) b7.out))
    have hRy7 := hid (ha4.out.keep (Below.step (Below.step b5.out b6.out) b7.out))
    have hRq7 := hid (hb4.out.keep (Below.step (Below.step b5.out b6.out) b7.out))
    have hRz7 := hid (ha6.out.keep b7.out)
    have hRr7 := hid (hb6.out.keep b7.out)
    have LRx7 : Hid (w7.heap[w2.heap.size]? = some (.cells #[.bool (decide (x.num < 0)), .slice C17 (Vx.len x.num.natAbs) j17, .slice C18 (Vx.len (below x.den)) j18] 25 (0, 0))) := ((Below.step (Below.step (Below.step b4.out b5.out) b6.out) b7.out).block _ (Array.getElem?_eq_some_iff.1 L3.out).1).trans L3.out
    have LRp7 : Hid (w7.heap[w2.heap.size + 1]? = some (.cells #[.bool (decide (x.num < 0)), .slice C19 (len x.num.natAbs) j19, .slice C20 (len x.den) j20] 33 (0, 0))) := ((Below.step (Below.step (Below.step b4.out b5.out) b6.out) b7.out).block _ (Array.getElem?_eq_some_iff.1 M3.out).1).trans M3.out
    have LRy7 : Hid (w7.heap[w4.heap.size]? = some (.cells #[.bool (decide (y.num < 0)), .slice C21 (Vx.len y.num.natAbs) j21, .slice C22 (Vx.len (below y.den)) j22] 25 (0, 0))) := ((Below.step b6.out b7.out).block _ (Array.getElem?_eq_some_iff.1 L5.out).1).trans L5.out
    have LRq7 : Hid (w7.heap[w4.heap.size + 1]? = some (.cells #[.bool (decide (y.num < 0)), .slice C23 (len y.num.natAbs) j23, .slice C24 (len y.den) j24] 33 (0, 0))) := ((Below.step b6.out b7.out).block _ (Array.getElem?_eq_some_iff.1 M5.out).1).trans M5.out
    have HMB7 := hid (cell_keep hM.out (Below.step (Below.step (Below.step (Below.step (Below.step (Below.step b1.out b2.out) b3.out) b4.out) b5.out) b6.out) b7.out))
    have HTB7 := hid (tab_keep hT.out (Below.step (Below.step (Below.step (Below.step (Below.step (Below.step b1.out b2.out) b3.out) b4.out) b5.out) b6.out) b7.out))
    have HBB7 := hid (Below.step (Below.step (Below.step (Below.step (Below.step (Below.step b1.out b2.out) b3.out) b4.out) b5.out) b6.out) b7.out)
    clear ha2 hb2 ha4 hb4 ha6 hb6 L3 M3 L5 M5 hM hT b1 b2 b3 b4 b5 b6 b7
    have hg : w7.heap[w2.heap.size]? = some (.cells #[.bool (decide (x.num < 0)), .slice C17 (Vx.len x.num.natAbs) j17, .slice C18 (Vx.len (below x.den)) j18] 25 (0, 0)) := ((Below.refl _ w7).block _ (Array.getElem?_eq_some_iff.1 LRx7.out).1).trans LRx7.out
    obtain ⟨z_x_0, z_x_1, z_x_2⟩ := cells3 hg
    clear hg
    have hg : w7.heap[w4.heap.size]? = some (.cells #[.bool (decide (y.num < 0)), .slice C21 (Vx.len y.num.natAbs) j21, .slice C22 (Vx.len (below y.den)) j22] 25 (0, 0)) := ((Below.refl _ w7).block _ (Array.getElem?_eq_some_iff.1 LRy7.out).1).trans LRy7.out
    obtain ⟨z_y_0, z_y_1, z_y_2⟩ := cells3 hg
    clear hg
    have HX := hid (span_yes hRx7.out hRy7.out n_x.out n_y.out hle.out)
    go_wp2_with fail
    refine (HX.out).mono ?_
    rintro e w8 ⟨v8, rfl, hv8, b8⟩
    obtain ⟨C29, j29, C30, j30, C31, j31, C32, j32, rfl, -, -, -, -⟩ := id hv8.opened
    replace hv8 := hid hv8
    replace b8 := hid b8
    clear HX
    clear z_x_0 z_x_1 z_x_2 z_y_0 z_y_1 z_y_2
    go_upto_region 7 with fail
    obtain ⟨w9, hw9⟩ : ∃ u, u = w8.alloc (.cells #[.bool (decide (x.num < 0)), .slice C29 (Vx.len x.num.natAbs) j29, .slice C30 (Vx.len (below x.den)) j30, .bool (decide (y.num < 0)), .slice C31 (Vx.len y.num.natAbs) j31, .slice C32 (Vx.len (below y.den)) j32] 71) := ⟨_, rfl⟩
    have b9 : Hid (Below w8.heap.size w8 w9) := by rw [hw9]; exact (Below.refl _ _).alloc (Nat.le_refl _) _
    have L9 : Hid (w9.heap[w8.heap.size]? = some (.cells #[.bool (decide (x.num < 0)), .slice C29 (Vx.len x.num.natAbs) j29, .slice C30 (Vx.len (below x.den)) j30, .bool (decide (y.num < 0)), .slice C31 (Vx.len y.num.natAbs) j31, .slice C32 (Vx.len (below y.den)) j32] 71 (0, 0))) := by rw [hw9]; exact heap_alloc_new w8 _
    rw [← hw9]
    clear hw9
    have hg : w9.heap[w2.heap.size + 1]? = some (.cells #[.bool (decide (x.num < 0)), .slice C19 (len x.num.natAbs) j19, .slice C20 (len x.den) j20] 33 (0, 0)) := ((Below.step b8.out b9.out).block _ (Array.getElem?_eq_some_iff.1 LRp7.out).1).trans LRp7.out
    obtain ⟨z_p_0, z_p_1, z_p_2⟩ := cells3 hg
    clear hg
    have hg : w9.heap[w4.heap.size + 1]? = some (.cells #[.bool (decide (y.num < 0)), .slice C23 (len y.num.natAbs) j23, .slice C24 (len y.den) j24] 33 (0, 0)) := ((Below.step b8.out b9.out).block _ (Array.getElem?_eq_some_iff.1 LRq7.out).1).trans LRq7.out
    obtain ⟨z_q_0, z_q_1, z_q_2⟩ := cells3 hg
    clear hg
    have HX := hid (cmpR_val ec.out (hRp7.out.keep (Below.step b8.out b9.out)) (hRq7.out.keep (Below.step b8.out b9.out)) t_x.out t_y.out)
    go_wp2_with fail
    refine (HX.out).mono ?_
    rintro e w10 ⟨rfl, b10⟩
    replace b10 := hid b10
    clear HX
    clear z_p_0 z_p_1 z_p_2 z_q_0 z_q_1 z_q_2
    have hRx10 := hid (hRx7.out.keep (Below.step (Below.step b8.out b9.out) b10.out))
    have hRp10 := hid (hRp7.out.keep (Below.step (Below.step b8.out b9.out) b10.out))
    have hRy10 := hid (hRy7.out.keep (Below.step (Below.step b8.out b9.out) b10.out))
    have hRq10 := hid (hRq7.out.keep (Below.step (Below.step b8.out b9.out) b10.out))
    have hRz10 := hid (hRz7.out.keep (Below.step (Below.step b8.out b9.out) b10.out))
    have hRr10 := hid (hRr7.out.keep (Below.step (Below.step b8.out b9.out) b10.out))
    have hRs10 := hid (hv8.out.keep (Below.step b9.out b10.out))
    have LRx10 : Hid (w10.heap[w2.heap.size]? = some (.cells #[.bool (decide (x.num < 0)), .slice C17 (Vx.len x.num.natAbs) j17, .slice C18 (Vx.len (below x.den)) j18] 25 (0, 0))) := ((Below.step (Below.step b8.out b9.out) b10.out).block _ (Array.getElem?_eq_some_iff.1 LRx7.out).1).trans LRx7.out
    have LRp10 : Hid (w10.heap[w2.heap.size + 1]? = some (.cells #[.bool (decide (x.num < 0)), .slice C19 (len x.num.natAbs) j19, .slice C20 (len x.den) j20] 33 (0, 0))) := ((Below.step (Below.step b8.out b9.out) b10.out).block _ (Array.getElem?_eq_some_iff.1 LRp7.out).1).trans LRp7.out
    have LRy10 : Hid (w10.heap[w4.heap.size]? = some (.cells #[.bool (decide (y.num < 0)), .slice C21 (Vx.len y.num.natAbs) j21, .slice C22 (Vx.len (below y.den)) j22] 25 (0, 0))) := ((Below.step (Below.step b8.out b9.out) b10.out).block _ (Array.getElem?_eq_some_iff.1 LRy7.out).1).trans LRy7.out
    have LRq10 : Hid (w10.heap[w4.heap.size + 1]? = some (.cells #[.bool (decide (y.num < 0)), .slice C23 (len y.num.natAbs) j23, .slice C24 (len y.den) j24] 33 (0, 0))) := ((Below.step (Below.step b8.out b9.out) b10.out).block _ (Array.getElem?_eq_some_iff.1 LRq7.out).1).trans LRq7.out
    have LRz10 : Hid (w10.heap[w6.heap.size]? = some (.cells #[.bool (decide (z.num < 0)), .slice C25 (Vx.len z.num.natAbs) j25, .slice C26 (Vx.len (below z.den)) j26] 25 (0, 0))) := ((Below.step (Below.step b8.out b9.out) b10.out).block _ (Array.getElem?_eq_some_iff.1 L7.out).1).trans L7.out
    have LRr10 : Hid (w10.heap[w6.heap.size + 1]? = some (.cells #[.bool (decide (z.num < 0)), .slice C27 (len z.num.natAbs) j27, .slice C28 (len z.den) j28] 33 (0, 0))) := ((Below.step (Below.step b8.out b9.out) b10.out).block _ (Array.getElem?_eq_some_iff.1 M7.out).1).trans M7.out
    have LRs10 : Hid (w10.heap[w8.heap.size]? = some (.cells #[.bool (decide (x.num < 0)), .slice C29 (Vx.len x.num.natAbs) j29, .slice C30 (Vx.len (below x.den)) j30, .bool (decide (y.num < 0)), .slice C31 (Vx.len y.num.natAbs) j31, .slice C32 (Vx.len (below y.den)) j32] 71 (0, 0))) := (b10.out.block _ (Array.getElem?_eq_some_iff.1 L9.out).1).trans L9.out
    have HMB10 := hid (cell_keep HMB7.out (Below.step (Below.step b8.out b9.out) b10.out))
    have HTB10 := hid (tab_keep HTB7.out (Below.step (Below.step b8.out b9.out) b10.out))
    have HBB10 := hid (Below.step HBB7.out (Below.step (Below.step b8.out b9.out) b10.out))
    clear hRx7 hRp7 hRy7 hRq7 hRz7 hRr7 hv8 LRx7 LRp7 LRy7 LRq7 L7 M7 L9 HMB7 HTB7 HBB7 b8 b9 b10
    go_upto_region 9 with fail
    have hg : w10.heap[w2.heap.size + 1]? = some (.cells #[.bool (decide (x.num < 0)), .slice C19 (len x.num.natAbs) j19, .slice C20 (len x.den) j20] 33 (0, 0)) := ((Below.refl _ w10).block _ (Array.getElem?_eq_some_iff.1 LRp10.out).1).trans LRp10.out
    obtain ⟨z_p_0, z_p_1, z_p_2⟩ := cells3 hg
    clear hg
    have hg : w10.heap[w4.heap.size + 1]? = some (.cells #[.bool (decide (y.num < 0)), .slice C23 (len y.num.natAbs) j23, .slice C24 (len y.den) j24] 33 (0, 0)) := ((Below.refl _ w10).block _ (Array.getElem?_eq_some_iff.1 LRq10.out).1).trans LRq10.out
    obtain ⟨z_q_0, z_q_1, z_q_2⟩ := cells3 hg
    clear hg
    have HTT := hid (IsRat.pair hRp10.out hRq10.out)
    go_upto_region 10 with fail
    obtain ⟨w11, hw11⟩ : ∃ u, u = w10.alloc (.cells #[.bool (decide (x.num < 0)), .slice C19 (len x.num.natAbs) j19, .slice C20 (len x.den) j20, .bool (decide (y.num < 0)), .slice C23 (len y.num.natAbs) j23, .slice C24 (len y.den) j24] 76) := ⟨_, rfl⟩
    have b11 : Hid (Below w10.heap.size w10 w11) := by rw [hw11]; exact (Below.refl _ _).alloc (Nat.le_refl _) _
    have L11 : Hid (w11.heap[w10.heap.size]? = some (.cells #[.bool (decide (x.num < 0)), .slice C19 (len x.num.natAbs) j19, .slice C20 (len x.den) j20, .bool (decide (y.num < 0)), .slice C23 (len y.num.natAbs) j23, .slice C24 (len y.den) j24] 76 (0, 0))) := by rw [hw11]; exact heap_alloc_new w10 _
    rw [← hw11]
    clear hw11
    clear z_p_0 z_p_1 z_p_2 z_q_0 z_q_1 z_q_2
    have HX := hid (boxes_any e_y.out e_z.out e_l.out e_h.out hsb.out hsc.out (cell_keep HMB10.out b11.out))
    go_wp2_with fail
    refine (HX.out).mono ?_
    rintro e w12 ⟨va12, vb12, rfl, ha12, hb12, b12⟩
    obtain ⟨C33, j33, C34, j34, C35, j35, C36, j36, rfl, -, -, -, -⟩ := id ha12.opened
    replace ha12 := hid ha12
    obtain ⟨C37, j37, C38, j38, C39, j39, C40, j40, rfl, -, -, -, -⟩ := id hb12.opened
    replace hb12 := hid hb12
    replace b12 := hid b12
    clear HX
    go_upto_region 11 with fail
    obtain ⟨w13, hw13⟩ : ∃ u, u = (w12.alloc (.cells #[.bool (decide (l.num < 0)), .slice C33 (Vx.len l.num.natAbs) j33, .slice C34 (Vx.len (below l.den)) j34, .bool (decide (h.num < 0)), .slice C35 (Vx.len h.num.natAbs) j35, .slice C36 (Vx.len (below h.den)) j36] 71)).alloc (.cells #[.bool (decide (l.num < 0)), .slice C37 (len l.num.natAbs) j37, .slice C38 (len l.den) j38, .bool (decide (h.num < 0)), .slice C39 (len h.num.natAbs) j39, .slice C40 (len h.den) j40] 76) := ⟨_, rfl⟩
    obtain ⟨b13, L13, M13⟩ := news2 w12 (.cells #[.bool (decide (l.num < 0)), .slice C33 (Vx.len l.num.natAbs) j33, .slice C34 (Vx.len (below l.den)) j34, .bool (decide (h.num < 0)), .slice C35 (Vx.len h.num.natAbs) j35, .slice C36 (Vx.len (below h.den)) j36] 71) (.cells #[.bool (decide (l.num < 0)), .slice C37 (len l.num.natAbs) j37, .slice C38 (len l.den) j38, .bool (decide (h.num < 0)), .slice C39 (len h.num.natAbs) j39, .slice C40 (len h.den) j40] 76)
    rw [← hw13] at b13 L13 M13 ⊢
    clear hw13
    replace b13 := hid b13
    replace L13 := hid L13
    replace M13 := hid M13
    have hRx13 := hid (hRx10.out.keep (Below.step (Below.step b11.out b12.out) b13.out))
    have hRp13 := hid (hRp10.out.keep (Below.step (Below.step b11.out b12.out) b13.out))
    have hRy13 := hid (hRy10.out.keep (Below.step (Below.step b11.out b12.out) b13.out))
    have hRq13 := hid (hRq10.out.keep (Below.step (Below.step b11.out b12.out) b13.out))
    have hRz13 := hid (hRz10.out.keep (Below.step (Below.step b11.out b12.out) b13.out))
    have hRr13 := hid (hRr10.out.keep (Below.step (Below.step b11.out b12.out) b13.out))
    have hRs13 := hid (hRs10.out.keep (Below.step (Below.step b11.out b12.out) b13.out))
    have hRt13 := hid (HTT.out.keep (Below.step (Below.step b11.out b12.out) b13.out))
    have hRu13 := hid (ha12.out.keep b13.out)
    have hRv13 := hid (hb12.out.keep b13.out)
    have LRx13 : Hid (w13.heap[w2.heap.size]? = some (.cells #[.bool (decide (x.num < 0)), .slice C17 (Vx.len x.num.natAbs) j17, .slice C18 (Vx.len (below x.den)) j18] 25 (0, 0))) := ((Below.step (Below.step b11.out b12.out) b13.out).block _ (Array.getElem?_eq_some_iff.1 LRx10.out).1).trans LRx10.out
    have LRp13 : Hid (w13.heap[w2.heap.size + 1]? = some (.cells #[.bool (decide (x.num < 0)), .slice C19 (len x.num.natAbs) j19, .slice C20 (len x.den) j20] 33 (0, 0))) := ((Below.step (Below.step b11.out b12.out) b13.out).block _ (Array.getElem?_eq_some_iff.1 LRp10.out).1).trans LRp10.out
    have LRy13 : Hid (w13.heap[w4.heap.size]? = some (.cells #[.bool (decide (y.num < 0)), .slice C21 (Vx.len y.num.natAbs) j21, .slice C22 (Vx.len (below y.den)) j22] 25 (0, 0))) := ((Below.step (Below.step b11.out b12.out) b13.out).block _ (Array.getElem?_eq_some_iff.1 LRy10.out).1).trans LRy10.out
    have LRq13 : Hid (w13.heap[w4.heap.size + 1]? = some (.cells #[.bool (decide (y.num < 0)), .slice C23 (len y.num.natAbs) j23, .slice C24 (len y.den) j24] 33 (0, 0))) := ((Below.step (Below.step b11.out b12.out) b13.out).block _ (Array.getElem?_eq_some_iff.1 LRq10.out).1).trans LRq10.out
    have LRz13 : Hid (w13.heap[w6.heap.size]? = some (.cells #[.bool (decide (z.num < 0)), .slice C25 (Vx.len z.num.natAbs) j25, .slice C26 (Vx.len (below z.den)) j26] 25 (0, 0))) := ((Below.step (Below.step b11.out b12.out) b13.out).block _ (Array.getElem?_eq_some_iff.1 LRz10.out).1).trans LRz10.out
    have LRr13 : Hid (w13.heap[w6.heap.size + 1]? = some (.cells #[.bool (decide (z.num < 0)), .slice C27 (len z.num.natAbs) j27, .slice C28 (len z.den) j28] 33 (0, 0))) := ((Below.step (Below.step b11.out b12.out) b13.out).block _ (Array.getElem?_eq_some_iff.1 LRr10.out).1).trans LRr10.out
    have LRs13 : Hid (w13.heap[w8.heap.size]? = some (.cells #[.bool (decide (x.num < 0)), .slice C29 (Vx.len x.num.natAbs) j29, .slice C30 (Vx.len (below x.den)) j30, .bool (decide (y.num < 0)), .slice C31 (Vx.len y.num.natAbs) j31, .slice C32 (Vx.len (below y.den)) j32] 71 (0, 0))) := ((Below.step (Below.step b11.out b12.out) b13.out).block _ (Array.getElem?_eq_some_iff.1 LRs10.out).1).trans LRs10.out
    have LRt13 : Hid (w13.heap[w10.heap.size]? = some (.cells #[.bool (decide (x.num < 0)), .slice C19 (len x.num.natAbs) j19, .slice C20 (len x.den) j20, .bool (decide (y.num < 0)), .slice C23 (len y.num.natAbs) j23, .slice C24 (len y.den) j24] 76 (0, 0))) := ((Below.step b12.out b13.out).block _ (Array.getElem?_eq_some_iff.1 L11.out).1).trans L11.out
    have HMB13 := hid (cell_keep HMB10.out (Below.step (Below.step b11.out b12.out) b13.out))
    have HTB13 := hid (tab_keep HTB10.out (Below.step (Below.step b11.out b12.out) b13.out))
    have HBB13 := hid (Below.step HBB10.out (Below.step (Below.step b11.out b12.out) b13.out))
    clear hRx10 hRp10 hRy10 hRq10 hRz10 hRr10 hRs10 HTT ha12 hb12 LRx10 LRp10 LRy10 LRq10 LRz10 LRr10 LRs10 L11 HMB10 HTB10 HBB10 b11 b12 b13
    go_wp2_with fail
    obtain ⟨NN11, hNN⟩ : ∃ n : Nat, w13.heap.size = n := ⟨_, rfl⟩
    have HSZ11 : Hid (w13.heap.size = NN11) := hNN
    have hg : w13.heap[w2.heap.size + 1]? = some (.cells #[.bool (decide (x.num < 0)), .slice C19 (len x.num.natAbs) j19, .slice C20 (len x.den) j20] 33 (0, 0)) := ((Below.refl _ w13).block _ (Array.getElem?_eq_some_iff.1 LRp13.out).1).trans LRp13.out
    obtain ⟨z_p_0, z_p_1, z_p_2⟩ := cells3 hg
    clear hg
    have hlt11_p : w2.heap.size + 1 < NN11 := Nat.lt_of_lt_of_eq (World.block_lt_of_cell? _ _ z_p_0) hNN
    have hg : w13.heap[w4.heap.size + 1]? = some (.cells #[.bool (decide (y.num < 0)), .slice C23 (len y.num.natAbs) j23, .slice C24 (len y.den) j24] 33 (0, 0)) := ((Below.refl _ w13).block _ (Array.getElem?_eq_some_iff.1 LRq13.out).1).trans LRq13.out
    obtain ⟨z_q_0, z_q_1, z_q_2⟩ := cells3 hg
    clear hg
    have hlt11_q : w4.heap.size + 1 < NN11 := Nat.lt_of_lt_of_eq (World.block_lt_of_cell? _ _ z_q_0) hNN
    have hg : w13.heap[w6.heap.size]? = some (.cells #[.bool (decide (z.num < 0)), .slice C25 (Vx.len z.num.natAbs) j25, .slice C26 (Vx.len (below z.den)) j26] 25 (0, 0)) := ((Below.refl _ w13).block _ (Array.getElem?_eq_some_iff.1 LRz13.out).1).trans LRz13.out
    obtain ⟨z_z_0, z_z_1, z_z_2⟩ := cells3 hg
    clear hg
    have hlt11_z : w6.heap.size < NN11 := Nat.lt_of_lt_of_eq (World.block_lt_of_cell? _ _ z_z_0) hNN
    have hg : w13.heap[w6.heap.size + 1]? = some (.cells #[.bool (decide (z.num < 0)), .slice C27 (len z.num.natAbs) j27, .slice C28 (len z.den) j28] 33 (0, 0)) := ((Below.refl _ w13).block _ (Array.getElem?_eq_some_iff.1 LRr13.out).1).trans LRr13.out
    obtain ⟨z_r_0, z_r_1, z_r_2⟩ := cells3 hg
    clear hg
    have hlt11_r : w6.heap.size + 1 < NN11 := Nat.lt_of_lt_of_eq (World.block_lt_of_cell? _ _ z_r_0) hNN
    have hg : w13.heap[w8.heap.size]? = some (.cells #[.bool (decide (x.num < 0)), .slice C29 (Vx.len x.num.natAbs) j29, .slice C30 (Vx.len (below x.den)) j30, .bool (decide (y.num < 0)), .slice C31 (Vx.len y.num.natAbs) j31, .slice C32 (Vx.len (below y.den)) j32] 71 (0, 0)) := ((Below.refl _ w13).block _ (Array.getElem?_eq_some_iff.1 LRs13.out).1).trans LRs13.out
    obtain ⟨z_s_0, z_s_1, z_s_2, z_s_3, z_s_4, z_s_5⟩ := cells6 hg
    clear hg
    have hlt11_s : w8.heap.size < NN11 := Nat.lt_of_lt_of_eq (World.block_lt_of_cell? _ _ z_s_0) hNN
    have hg : w13.heap[w10.heap.size]? = some (.cells #[.bool (decide (x.num < 0)), .slice C19 (len x.num.natAbs) j19, .slice C20 (len x.den) j20, .bool (decide (y.num < 0)), .slice C23 (len y.num.natAbs) j23, .slice C24 (len y.den) j24] 76 (0, 0)) := ((Below.refl _ w13).block _ (Array.getElem?_eq_some_iff.1 LRt13.out).1).trans LRt13.out
    obtain ⟨z_t_0, z_t_1, z_t_2, z_t_3, z_t_4, z_t_5⟩ := cells6 hg
    clear hg
    have hlt11_t : w10.heap.size < NN11 := Nat.lt_of_lt_of_eq (World.block_lt_of_cell? _ _ z_t_0) hNN
    have H0 := Held0.start w13 NN11
    have H0' := H0
    unfold Held0 at H0'
    refine wp_region_held_drew (S := (fun w' => (∀ b o, b < NN11 → w'.cell? ⟨b, o, none⟩ = w13.cell? ⟨b, o, none⟩) ∧ Below (NN11) w13 w' ∧ Stay w13 w')) (by kernel_rfl) ?_ (fun hHeld => ?_)
    · (try dsimp only)
      exact H0'
    obtain ⟨w14, hw14⟩ : ∃ u, u = w13.drew := ⟨_, rfl⟩
    have b14 : Hid (Below w13.heap.size w13 w14) := by rw [hw14]; exact ⟨rfl, rfl, rfl, Nat.le_refl _, fun _ _ => rfl⟩
    rw [← hw14] at hHeld H0 ⊢
    clear hw14 H0' hNN
    as_aux_lemma =>
     refine tk (i := 0) (h := ?_)
     try simp only [Act.put, lt, ly, lu]
     refine tk (i := 1) (h := ?_)
     try simp only [Act.put, lt, ly, lu]
     refine tk (i := 2) (h := ?_)
     try simp only [Act.put, lt, ly, lu]
     refine tk (i := 3) (h := ?_)
     try simp only [Act.put, lt, ly, lu]
     refine tk (i := 4) (h := ?_)
     try simp only [Act.put, lt, ly, lu]
     refine wpAnyH_ready (rs := [5]) (by kernel_rfl) (by simp) (AllReadyH.cons (o := ?oq6) ?eq6 ?kq6 AllReadyH.nil)
     case eq6 => simp only [lg, lz, ls]; rfl
     intro K hK; go_simp; go_at_call 52
     refine (sameBox_any (hRs13.out.keep b14.out) (hRt13.out.keep b14.out) z_x.out z_y.out (tab_keep HTB13.out b14.out)).mono ?_
     rintro e w15 ⟨rfl, b15⟩
     replace b15 := hid b15
     have hk15 := hcall H0 HSZ11 b15.out; have hk15' := hk15; unfold Held0 at hk15'; clear hHeld H0
     refine hK.out _ _ ?_ (fun hHeld => ?_)
     · (try dsimp only); with_reducible exact hk15'
     clear hK K hk15'; try simp only [Act.put, lt, ly, lu]
     refine tk (i := 6) (h := ?_)
     try simp only [Act.put, lt, ly, lu]
     refine tk (i := 7) (h := ?_)
     try simp only [Act.put, lt, ly, lu]
     refine tk (i := 8) (h := ?_)
     try simp only [Act.put, lt, ly, lu]
     refine tk (i := 9) (h := ?_)
     try simp only [Act.put, lt, ly, lu]
     refine tk (i := 11) (h := ?_)
     try simp only [Act.put, lt, ly, lu]
     refine tk (i := 12) (h := ?_)
     try simp only [Act.put, lt, ly, lu]
     as_aux_lemma =>
      refine wpAnyH_ready (rs := [10]) (by kernel_rfl) (by simp) (AllReadyH.cons (o := ?oq13) ?eq13 ?kq13 AllReadyH.nil)
      case eq13 => simp only [lg, lz, ls]; rfl
      intro K hK; go_simp; go_at_call 53
      refine (boxMid_any e_m2.out (hRs13.out.keep (Below.step b14.out b15.out)) m_x.out m_y.out).mono ?_
      rintro e w16 ⟨v16, rfl, hv16, b16⟩
      obtain ⟨C41, j41, C42, j42, rfl, -, -⟩ := id hv16.opened
      replace hv16 := hid hv16
      replace b16 := hid b16
      have hk16 := hcall hk15 HSZ11 b16.out; have hk16' := hk16; unfold Held0 at hk16'; clear hHeld hk15
      refine hK.out _ _ ?_ (fun hHeld => ?_)
      · (try dsimp only); with_reducible exact hk16'
      clear hK K hk16'; try simp only [Act.put, lt, ly, lu]
      refine wpAnyH_ready (rs := [13]) (by kernel_rfl) (by simp) (AllReadyH.cons (o := ?oq14) ?eq14 ?kq14 AllReadyH.nil)
      case eq14 => simp only [lg, lz, ls]; rfl
      intro K hK; go_simp; go_at_call 24
      refine (addR_val e_su.out (hRp13.out.keep (Below.step (Below.step b14.out b15.out) b16.out)) (hRq13.out.keep (Below.step (Below.step b14.out b15.out) b16.out)) t_x.out t_y.out).mono ?_
      rintro e w17 ⟨v17, rfl, hv17, b17⟩
      obtain ⟨C43, j43, C44, j44, rfl, -, -⟩ := id hv17.opened
      replace hv17 := hid hv17
      replace b17 := hid b17
      have hk17 := hcall hk16 HSZ11 b17.out; have hk17' := hk17; unfold Held0 at hk17'; clear hHeld hk16
      refine hK.out _ _ ?_ (fun hHeld => ?_)
      · (try dsimp only); with_reducible exact hk17'
      clear hK K hk17'; try simp only [Act.put, lt, ly, lu]
      refine wpAnyH_ready (rs := [14]) (by kernel_rfl) (by simp) (AllReadyH.cons (o := ?oq15) ?eq15 ?kq15 AllReadyH.nil)
      case eq15 => simp only [lg, lz, ls]; rfl
      intro K hK; go_simp; go_at_call 14
      refine (int_any e_tw.out (by omega) (by omega)).mono ?_
      rintro e w18 ⟨v18, rfl, hv18, b18⟩
      obtain ⟨C45, j45, C46, j46, rfl, -, -⟩ := id hv18.opened
      replace hv18 := hid hv18
      replace b18 := hid b18
      have hk18 := hcall hk17 HSZ11 b18.out; have hk18' := hk18; unfold Held0 at hk18'; clear hHeld hk17
      refine hK.out _ _ ?_ (fun hHeld => ?_)
      · (try dsimp only); with_reducible exact hk18'
      clear hK K hk18'; try simp only [Act.put, lt, ly, lu]
      refine wpAnyH_ready (rs := [15]) (by kernel_rfl) (by simp) (AllReadyH.cons (o := ?oq16) ?eq16 ?kq16 AllReadyH.nil)
      case eq16 => simp only [lg, lz, ls]; rfl
      intro K hK; go_simp; go_at_call 34
      refine (divR_val tw0.out e_mi.out (hv17.out.keep b18.out) hv18.out t_su.out t_tw.out).mono ?_
      rintro e w19 ⟨v19, rfl, hv19, b19⟩
      obtain ⟨C47, j47, C48, j48, rfl, -, -⟩ := id hv19.opened
      replace hv19 := hid hv19
      replace b19 := hid b19
      have hk19 := hcall hk18 HSZ11 b19.out; have hk19' := hk19; unfold Held0 at hk19'; clear hHeld hk18
      refine hK.out _ _ ?_ (fun hHeld => ?_)
      · (try dsimp only); with_reducible exact hk19'
      clear hK K hk19'; try simp only [Act.put, lt, ly, lu]
      refine wpAnyH_ready (rs := [16]) (by kernel_rfl) (by simp) (AllReadyH.cons (o := ?oq17) ?eq17 ?kq17 AllReadyH.nil)
      case eq17 => simp only [lg, lz, ls]; rfl
      intro K hK; go_simp; go_at_call 13
      refine (same_any (hv16.out.keep (Below.step (Below.step b17.out b18.out) b19.out)) hv19.out z_mi.out (tab_keep HTB13.out (Below.step (Below.step (Below.step (Below.step (Below.step b14.out b15.out) b16.out) b17.out) b18.out) b19.out))).mono ?_
      rintro e w20 ⟨rfl, b20⟩
      replace b20 := hid b20
      have hk20 := hcall hk19 HSZ11 b20.out; have hk20' := hk20; unfold Held0 at hk20'; clear hHeld hk19
      refine hK.out _ _ ?_ (fun hHeld => ?_)
      · (try dsimp only); with_reducible exact hk20'
      clear hK K hk20'; try simp only [Act.put, lt, ly, lu]
      refine tk (i := 17) (h := ?_)
      try simp only [Act.put, lt, ly, lu]
      refine tk (i := 18) (h := ?_)
      try simp only [Act.put, lt, ly, lu]
      refine tk (i := 19) (h := ?_)
      try simp only [Act.put, lt, ly, lu]
      refine tk (i := 20) (h := ?_)
      try simp only [Act.put, lt, ly, lu]
      refine tk (i := 22) (h := ?_)
      try simp only [Act.put, lt, ly, lu]
      refine tk (i := 23) (h := ?_)
      try simp only [Act.put, lt, ly, lu]
      refine wpAnyH_ready (rs := [21]) (by kernel_rfl) (by simp) (AllReadyH.cons (o := ?oq24) ?eq24 ?kq24 AllReadyH.nil)
      case eq24 => simp only [lg, lz, ls]; rfl
      intro K hK; go_simp; go_at_call 54
      refine (num_to e_wi.out (boxWidth_any (hRs13.out.keep (Below.step (Below.step (Below.step (Below.step (Below.step (Below.step b14.out b15.out) b16.out) b17.out) b18.out) b19.out) b20.out)) n_x.out n_y.out)).mono ?_
      rintro e w21 ⟨v21, rfl, hv21, b21⟩
      obtain ⟨C49, j49, C50, j50, rfl, -, -⟩ := id hv21.opened
      replace hv21 := hid hv21
      replace b21 := hid b21
      have hk21 := hcall hk20 HSZ11 b21.out; have hk21' := hk21; unfold Held0 at hk21'; clear hHeld hk20
      refine hK.out _ _ ?_ (fun hHeld => ?_)
      · (try dsimp only); with_reducible exact hk21'
      clear hK K hk21'; try simp only [Act.put, lt, ly, lu]
      as_aux_lemma =>
       refine wpAnyH_ready (rs := [24]) (by kernel_rfl) (by simp) (AllReadyH.cons (o := ?oq25) ?eq25 ?kq25 AllReadyH.nil)
       case eq25 => simp only [lg, lz, ls]; rfl
       intro K hK; go_simp; go_at_call 26
       refine (subR_val e_wi.out (hRq13.out.keep (Below.step (Below.step (Below.step (Below.step (Below.step (Below.step (Below.step b14.out b15.out) b16.out) b17.out) b18.out) b19.out) b20.out) b21.out)) (hRp13.out.keep (Below.step (Below.step (Below.step (Below.step (Below.step (Below.step (Below.step b14.out b15.out) b16.out) b17.out) b18.out) b19.out) b20.out) b21.out)) t_y.out t_x.out).mono ?_
       rintro e w22 ⟨v22, rfl, hv22, b22⟩
       obtain ⟨C51, j51, C52, j52, rfl, -, -⟩ := id hv22.opened
       replace hv22 := hid hv22
       replace b22 := hid b22
       have hk22 := hcall hk21 HSZ11 b22.out; have hk22' := hk22; unfold Held0 at hk22'; clear hHeld hk21
       refine hK.out _ _ ?_ (fun hHeld => ?_)
       · (try dsimp only); with_reducible exact hk22'
       clear hK K hk22'; try simp only [Act.put, lt, ly, lu]
       refine wpAnyH_ready (rs := [25]) (by kernel_rfl) (by simp) (AllReadyH.cons (o := ?oq26) ?eq26 ?kq26 AllReadyH.nil)
       case eq26 => simp only [lg, lz, ls]; rfl
       intro K hK; go_simp; go_at_call 13
       refine (same_any (hv21.out.keep b22.out) hv22.out z_wi.out (tab_keep HTB13.out (Below.step (Below.step (Below.step (Below.step (Below.step (Below.step (Below.step (Below.step b14.out b15.out) b16.out) b17.out) b18.out) b19.out) b20.out) b21.out) b22.out))).mono ?_
       rintro e w23 ⟨rfl, b23⟩
       replace b23 := hid b23
       have hk23 := hcall hk22 HSZ11 b23.out; have hk23' := hk23; unfold Held0 at hk23'; clear hHeld hk22
       refine hK.out _ _ ?_ (fun hHeld => ?_)
       · (try dsimp only); with_reducible exact hk23'
       clear hK K hk23'; try simp only [Act.put, lt, ly, lu]
       refine tk (i := 26) (h := ?_)
       try simp only [Act.put, lt, ly, lu]
       refine tk (i := 27) (h := ?_)
       try simp only [Act.put, lt, ly, lu]
       refine tk (i := 28) (h := ?_)
       try simp only [Act.put, lt, ly, lu]
       refine tk (i := 29) (h := ?_)
       try simp only [Act.put, lt, ly, lu]
       refine tk (i := 31) (h := ?_)
       try simp only [Act.put, lt, ly, lu]
       refine wpAnyH_ready (rs := [30]) (by kernel_rfl) (by simp) (AllReadyH.cons (o := ?oq32) ?eq32 ?kq32 AllReadyH.nil)
       case eq32 => simp only [lg, lz, ls]; rfl
       intro K hK; go_simp; go_at_call 55
       refine (point_any (hRz13.out.keep (Below.step (Below.step (Below.step (Below.step (Below.step (Below.step (Below.step (Below.step (Below.step b14.out b15.out) b16.out) b17.out) b18.out) b19.out) b20.out) b21.out) b22.out) b23.out)) (Nat.le_trans n_z.out (by omega))).mono ?_
       rintro e w24 ⟨v24, rfl, hv24, b24⟩
       obtain ⟨C53, j53, C54, j54, C55, j55, C56, j56, rfl, -, -, -, -⟩ := id hv24.opened
       replace hv24 := hid hv24
       replace b24 := hid b24
       have hk24 := hcall hk23 HSZ11 b24.out; have hk24' := hk24; unfold Held0 at hk24'; clear hHeld hk23
       refine hK.out _ _ ?_ (fun hHeld => ?_)
       · (try dsimp only); with_reducible exact hk24'
       clear hK K hk24'; try simp only [Act.put, lt, ly, lu]
       refine wpAnyH_ready (rs := [32]) (by kernel_rfl) (by simp) (AllReadyH.cons (o := ?oq33) ?eq33 ?kq33 AllReadyH.nil)
       case eq33 => simp only [lg, lz, ls]; rfl
       intro K hK; go_simp; go_at_call 56
       refine (pointR_any (hRr13.out.keep (Below.step (Below.step (Below.step (Below.step (Below.step (Below.step (Below.step (Below.step (Below.step (Below.step b14.out b15.out) b16.out) b17.out) b18.out) b19.out) b20.out) b21.out) b22.out) b23.out) b24.out))).mono ?_
       rintro e w25 ⟨v25, rfl, hv25, b25⟩
       obtain ⟨C57, j57, C58, j58, C59, j59, C60, j60, rfl, -, -, -, -⟩ := id hv25.opened
       replace hv25 := hid hv25
       replace b25 := hid b25
       have hk25 := hcall hk24 HSZ11 b25.out; have hk25' := hk25; unfold Held0 at hk25'; clear hHeld hk24
       refine hK.out _ _ ?_ (fun hHeld => ?_)
       · (try dsimp only); with_reducible exact hk25'
       clear hK K hk25'; try simp only [Act.put, lt, ly, lu]
       refine wpAnyH_ready (rs := [33]) (by kernel_rfl) (by simp) (AllReadyH.cons (o := ?oq34) ?eq34 ?kq34 AllReadyH.nil)
       case eq34 => simp only [lg, lz, ls]; rfl
       intro K hK; go_simp; go_at_call 52
       refine (sameBox_any (hv24.out.keep b25.out) hv25.out z_z.out z_z.out (tab_keep HTB13.out (Below.step (Below.step (Below.step (Below.step (Below.step (Below.step (Below.step (Below.step (Below.step (Below.step (Below.step b14.out b15.out) b16.out) b17.out) b18.out) b19.out) b20.out) b21.out) b22.out) b23.out) b24.out) b25.out))).mono ?_
       rintro e w26 ⟨rfl, b26⟩
       replace b26 := hid b26
       have hk26 := hcall hk25 HSZ11 b26.out; have hk26' := hk26; unfold Held0 at hk26'; clear hHeld hk25
       refine hK.out _ _ ?_ (fun hHeld => ?_)
       · (try dsimp only); with_reducible exact hk26'
       clear hK K hk26'; try simp only [Act.put, lt, ly, lu]
       refine tk (i := 34) (h := ?_)
       try simp only [Act.put, lt, ly, lu]
       refine tk (i := 35) (h := ?_)
       try simp only [Act.put, lt, ly, lu]
       refine wpAnyH_done (by kernel_rfl) ?_ _
       clear hHeld
       clear z_p_0 z_p_1 z_p_2 z_q_0 z_q_1 z_q_2 z_z_0 z_z_1 z_z_2 z_r_0 z_r_1 z_r_2 z_s_0 z_s_1 z_s_2 z_s_3 z_s_4 z_s_5 z_t_0 z_t_1 z_t_2 z_t_3 z_t_4 z_t_5 hlt11_p hlt11_q hlt11_z hlt11_r hlt11_s hlt11_t
       clear hk26 HSZ11
       have hRz26 := hid (hRz13.out.keep (Below.step (Below.step (Below.step (Below.step (Below.step (Below.step (Below.step (Below.step (Below.step (Below.step (Below.step (Below.step b14.out b15.out) b16.out) b17.out) b18.out) b19.out) b20.out) b21.out) b22.out) b23.out) b24.out) b25.out) b26.out))
       have hRr26 := hid (hRr13.out.keep (Below.step (Below.step (Below.step (Below.step (Below.step (Below.step (Below.step (Below.step (Below.step (Below.step (Below.step (Below.step b14.out b15.out) b16.out) b17.out) b18.out) b19.out) b20.out) b21.out) b22.out) b23.out) b24.out) b25.out) b26.out))
       have hRs26 := hid (hRs13.out.keep (Below.step (Below.step (Below.step (Below.step (Below.step (Below.step (Below.step (Below.step (Below.step (Below.step (Below.step (Below.step b14.out b15.out) b16.out) b17.out) b18.out) b19.out) b20.out) b21.out) b22.out) b23.out) b24.out) b25.out) b26.out))
       have hRt26 := hid (hRt13.out.keep (Below.step (Below.step (Below.step (Below.step (Below.step (Below.step (Below.step (Below.step (Below.step (Below.step (Below.step (Below.step b14.out b15.out) b16.out) b17.out) b18.out) b19.out) b20.out) b21.out) b22.out) b23.out) b24.out) b25.out) b26.out))
       have hRu26 := hid (hRu13.out.keep (Below.step (Below.step (Below.step (Below.step (Below.step (Below.step (Below.step (Below.step (Below.step (Below.step (Below.step (Below.step b14.out b15.out) b16.out) b17.out) b18.out) b19.out) b20.out) b21.out) b22.out) b23.out) b24.out) b25.out) b26.out))
       have hRv26 := hid (hRv13.out.keep (Below.step (Below.step (Below.step (Below.step (Below.step (Below.step (Below.step (Below.step (Below.step (Below.step (Below.step (Below.step b14.out b15.out) b16.out) b17.out) b18.out) b19.out) b20.out) b21.out) b22.out) b23.out) b24.out) b25.out) b26.out))
       have LRz26 : Hid (w26.heap[w6.heap.size]? = some (.cells #[.bool (decide (z.num < 0)), .slice C25 (Vx.len z.num.natAbs) j25, .slice C26 (Vx.len (below z.den)) j26] 25 (0, 0))) := ((Below.step (Below.step (Below.step (Below.step (Below.step (Below.step (Below.step (Below.step (Below.step (Below.step (Below.step (Below.step b14.out b15.out) b16.out) b17.out) b18.out) b19.out) b20.out) b21.out) b22.out) b23.out) b24.out) b25.out) b26.out).block _ (Array.getElem?_eq_some_iff.1 LRz13.out).1).trans LRz13.out
       have LRr26 : Hid (w26.heap[w6.heap.size + 1]? = some (.cells #[.bool (decide (z.num < 0)), .slice C27 (len z.num.natAbs) j27, .slice C28 (len z.den) j28] 33 (0, 0))) := ((Below.step (Below.step (Below.step (Below.step (Below.step (Below.step (Below.step (Below.step (Below.step (Below.step (Below.step (Below.step b14.out b15.out) b16.out) b17.out) b18.out) b19.out) b20.out) b21.out) b22.out) b23.out) b24.out) b25.out) b26.out).block _ (Array.getElem?_eq_some_iff.1 LRr13.out).1).trans LRr13.out
       have LRs26 : Hid (w26.heap[w8.heap.size]? = some (.cells #[.bool (decide (x.num < 0)), .slice C29 (Vx.len x.num.natAbs) j29, .slice C30 (Vx.len (below x.den)) j30, .bool (decide (y.num < 0)), .slice C31 (Vx.len y.num.natAbs) j31, .slice C32 (Vx.len (below y.den)) j32] 71 (0, 0))) := ((Below.step (Below.step (Below.step (Below.step (Below.step (Below.step (Below.step (Below.step (Below.step (Below.step (Below.step (Below.step b14.out b15.out) b16.out) b17.out) b18.out) b19.out) b20.out) b21.out) b22.out) b23.out) b24.out) b25.out) b26.out).block _ (Array.getElem?_eq_some_iff.1 LRs13.out).1).trans LRs13.out
       have LRt26 : Hid (w26.heap[w10.heap.size]? = some (.cells #[.bool (decide (x.num < 0)), .slice C19 (len x.num.natAbs) j19, .slice C20 (len x.den) j20, .bool (decide (y.num < 0)), .slice C23 (len y.num.natAbs) j23, .slice C24 (len y.den) j24] 76 (0, 0))) := ((Below.step (Below.step (Below.step (Below.step (Below.step (Below.step (Below.step (Below.step (Below.step (Below.step (Below.step (Below.step b14.out b15.out) b16.out) b17.out) b18.out) b19.out) b20.out) b21.out) b22.out) b23.out) b24.out) b25.out) b26.out).block _ (Array.getElem?_eq_some_iff.1 LRt13.out).1).trans LRt13.out
       have LRu26 : Hid (w26.heap[w12.heap.size]? = some (.cells #[.bool (decide (l.num < 0)), .slice C33 (Vx.len l.num.natAbs) j33, .slice C34 (Vx.len (below l.den)) j34, .bool (decide (h.num < 0)), .slice C35 (Vx.len h.num.natAbs) j35, .slice C36 (Vx.len (below h.den)) j36] 71 (0, 0))) := ((Below.step (Below.step (Below.step (Below.step (Below.step (Below.step (Below.step (Below.step (Below.step (Below.step (Below.step (Below.step b14.out b15.out) b16.out) b17.out) b18.out) b19.out) b20.out) b21.out) b22.out) b23.out) b24.out) b25.out) b26.out).block _ (Array.getElem?_eq_some_iff.1 L13.out).1).trans L13.out
       have LRv26 : Hid (w26.heap[w12.heap.size + 1]? = some (.cells #[.bool (decide (l.num < 0)), .slice C37 (len l.num.natAbs) j37, .slice C38 (len l.den) j38, .bool (decide (h.num < 0)), .slice C39 (len h.num.natAbs) j39, .slice C40 (len h.den) j40] 76 (0, 0))) := ((Below.step (Below.step (Below.step (Below.step (Below.step (Below.step (Below.step (Below.step (Below.step (Below.step (Below.step (Below.step b14.out b15.out) b16.out) b17.out) b18.out) b19.out) b20.out) b21.out) b22.out) b23.out) b24.out) b25.out) b26.out).block _ (Array.getElem?_eq_some_iff.1 M13.out).1).trans M13.out
       have HMB26 := hid (cell_keep HMB13.out (Below.step (Below.step (Below.step (Below.step (Below.step (Below.step (Below.step (Below.step (Below.step (Below.step (Below.step (Below.step b14.out b15.out) b16.out) b17.out) b18.out) b19.out) b20.out) b21.out) b22.out) b23.out) b24.out) b25.out) b26.out))
       have HTB26 := hid (tab_keep HTB13.out (Below.step (Below.step (Below.step (Below.step (Below.step (Below.step (Below.step (Below.step (Below.step (Below.step (Below.step (Below.step b14.out b15.out) b16.out) b17.out) b18.out) b19.out) b20.out) b21.out) b22.out) b23.out) b24.out) b25.out) b26.out))
       have HBB26 := hid (Below.step HBB13.out (Below.step (Below.step (Below.step (Below.step (Below.step (Below.step (Below.step (Below.step (Below.step (Below.step (Below.step (Below.step b14.out b15.out) b16.out) b17.out) b18.out) b19.out) b20.out) b21.out) b22.out) b23.out) b24.out) b25.out) b26.out))
       clear hRz13 hRr13 hRs13 hRt13 hRu13 hRv13 LRz13 LRr13 LRs13 LRt13 L13 M13 HMB13 HTB13 HBB13 b14 b15 b16 b17 b18 b19 b20 b21 b22 b23 b24 b25 b26
       go_upto_region 13 with fail
       rcases r2 with _ | _
       · obtain rfl : false = r4 := f4.out
         go_wp2_with fail
         obtain ⟨NN13, hNN⟩ : ∃ n : Nat, w26.heap.size = n := ⟨_, rfl⟩
         have HSZ13 : Hid (w26.heap.size = NN13) := hNN
         have hg : w26.heap[w6.heap.size]? = some (.cells #[.bool (decide (z.num < 0)), .slice C25 (Vx.len z.num.natAbs) j25, .slice C26 (Vx.len (below z.den)) j26] 25 (0, 0)) := ((Below.refl _ w26).block _ (Array.getElem?_eq_some_iff.1 LRz26.out).1).trans LRz26.out
         obtain ⟨z_z_0, z_z_1, z_z_2⟩ := cells3 hg
         clear hg
         have hlt13_z : w6.heap.size < NN13 := Nat.lt_of_lt_of_eq (World.block_lt_of_cell? _ _ z_z_0) hNN
         have hg : w26.heap[w6.heap.size + 1]? = some (.cells #[.bool (decide (z.num < 0)), .slice C27 (len z.num.natAbs) j27, .slice C28 (len z.den) j28] 33 (0, 0)) := ((Below.refl _ w26).block _ (Array.getElem?_eq_some_iff.1 LRr26.out).1).trans LRr26.out
         obtain ⟨z_r_0, z_r_1, z_r_2⟩ := cells3 hg
         clear hg
         have hlt13_r : w6.heap.size + 1 < NN13 := Nat.lt_of_lt_of_eq (World.block_lt_of_cell? _ _ z_r_0) hNN
         have hg : w26.heap[w8.heap.size]? = some (.cells #[.bool (decide (x.num < 0)), .slice C29 (Vx.len x.num.natAbs) j29, .slice C30 (Vx.len (below x.den)) j30, .bool (decide (y.num < 0)), .slice C31 (Vx.len y.num.natAbs) j31, .slice C32 (Vx.len (below y.den)) j32] 71 (0, 0)) := ((Below.refl _ w26).block _ (Array.getElem?_eq_some_iff.1 LRs26.out).1).trans LRs26.out
         obtain ⟨z_s_0, z_s_1, z_s_2, z_s_3, z_s_4, z_s_5⟩ := cells6 hg
         clear hg
         have hlt13_s : w8.heap.size < NN13 := Nat.lt_of_lt_of_eq (World.block_lt_of_cell? _ _ z_s_0) hNN
         have hg : w26.heap[w10.heap.size]? = some (.cells #[.bool (decide (x.num < 0)), .slice C19 (len x.num.natAbs) j19, .slice C20 (len x.den) j20, .bool (decide (y.num < 0)), .slice C23 (len y.num.natAbs) j23, .slice C24 (len y.den) j24] 76 (0, 0)) := ((Below.refl _ w26).block _ (Array.getElem?_eq_some_iff.1 LRt26.out).1).trans LRt26.out
         obtain ⟨z_t_0, z_t_1, z_t_2, z_t_3, z_t_4, z_t_5⟩ := cells6 hg
         clear hg
         have hlt13_t : w10.heap.size < NN13 := Nat.lt_of_lt_of_eq (World.block_lt_of_cell? _ _ z_t_0) hNN
         have hg : w26.heap[w12.heap.size]? = some (.cells #[.bool (decide (l.num < 0)), .slice C33 (Vx.len l.num.natAbs) j33, .slice C34 (Vx.len (below l.den)) j34, .bool (decide (h.num < 0)), .slice C35 (Vx.len h.num.natAbs) j35, .slice C36 (Vx.len (below h.den)) j36] 71 (0, 0)) := ((Below.refl _ w26).block _ (Array.getElem?_eq_some_iff.1 LRu26.out).1).trans LRu26.out
         obtain ⟨z_u_0, z_u_1, z_u_2, z_u_3, z_u_4, z_u_5⟩ := cells6 hg
         clear hg
         have hlt13_u : w12.heap.size < NN13 := Nat.lt_of_lt_of_eq (World.block_lt_of_cell? _ _ z_u_0) hNN
         have hg : w26.heap[w12.heap.size + 1]? = some (.cells #[.bool (decide (l.num < 0)), .slice C37 (len l.num.natAbs) j37, .slice C38 (len l.den) j38, .bool (decide (h.num < 0)), .slice C39 (len h.num.natAbs) j39, .slice C40 (len h.den) j40] 76 (0, 0)) := ((Below.refl _ w26).block _ (Array.getElem?_eq_some_iff.1 LRv26.out).1).trans LRv26.out
         obtain ⟨z_v_0, z_v_1, z_v_2, z_v_3, z_v_4, z_v_5⟩ := cells6 hg
         clear hg
         have hlt13_v : w12.heap.size + 1 < NN13 := Nat.lt_of_lt_of_eq (World.block_lt_of_cell? _ _ z_v_0) hNN
         have H0 := Held0.start w26 NN13
         have H0' := H0
         unfold Held0 at H0'
         refine wp_region_held_drew (S := (fun w' => (∀ b o, b < NN13 → w'.cell? ⟨b, o, none⟩ = w26.cell? ⟨b, o, none⟩) ∧ Below (NN13) w26 w' ∧ Stay w26 w')) (by kernel_rfl) ?_ (fun hHeld => ?_)
         · (try dsimp only)
           exact H0'
         obtain ⟨w27, hw27⟩ : ∃ u, u = w26.drew := ⟨_, rfl⟩
         have b27 : Hid (Below w26.heap.size w26 w27) := by rw [hw27]; exact ⟨rfl, rfl, rfl, Nat.le_refl _, fun _ _ => rfl⟩
         rw [← hw27] at hHeld H0 ⊢
         clear hw27 H0' hNN
         as_aux_lemma =>
          refine tk (i := 0) (h := ?_)
          try simp only [Act.put, lt, ly, lu]
          refine tk (i := 1) (h := ?_)
          try simp only [Act.put, lt, ly, lu]
          refine tk (i := 3) (h := ?_)
          try simp only [Act.put, lt, ly, lu]
          refine tk (i := 4) (h := ?_)
          try simp only [Act.put, lt, ly, lu]
          refine wpAnyH_ready (rs := [2]) (by kernel_rfl) (by simp) (AllReadyH.cons (o := ?oq41) ?eq41 ?kq41 AllReadyH.nil)
          case eq41 => simp only [lg, lz, ls]; rfl
          intro K hK; go_simp; go_at_call 57
          refine (bool_to e_r1.out (boxHas_any (hRs26.out.keep b27.out) (hRz26.out.keep b27.out) n_x.out n_y.out n_z.out)).mono ?_
          rintro e w28 ⟨rfl, b28⟩
          replace b28 := hid b28
          have hk28 := hcall H0 HSZ13 b28.out; have hk28' := hk28; unfold Held0 at hk28'; clear hHeld H0
          refine hK.out _ _ ?_ (fun hHeld => ?_)
          · (try dsimp only); with_reducible exact hk28'
          clear hK K hk28'; try simp only [Act.put, lt, ly, lu]
          refine wpAnyH_ready (rs := [5]) (by kernel_rfl) (by simp) (AllReadyH.cons (o := ?oq42) ?eq42 ?kq42 AllReadyH.nil)
          case eq42 => simp only [lg, lz, ls]; rfl
          intro K hK; go_simp; go_at_call 58
          refine (hasR_any e_r1.out (hRt26.out.keep (Below.step b27.out b28.out)) (hRr26.out.keep (Below.step b27.out b28.out)) m_x.out m_y.out m_z.out).mono ?_
          rintro e w29 ⟨rfl, b29⟩
          replace b29 := hid b29
          have hk29 := hcall hk28 HSZ13 b29.out; have hk29' := hk29; unfold Held0 at hk29'; clear hHeld hk28
          refine hK.out _ _ ?_ (fun hHeld => ?_)
          · (try dsimp only); with_reducible exact hk29'
          clear hK K hk29'; try simp only [Act.put, lt, ly, lu]
          refine tk (i := 6) (h := ?_)
          try simp only [Act.put, lt, ly, lu]
          refine tk (i := 7) (h := ?_)
          try simp only [Act.put, lt, ly, lu]
          refine tk (i := 8) (h := ?_)
          try simp only [Act.put, lt, ly, lu]
          refine tk (i := 9) (h := ?_)
          try simp only [Act.put, lt, ly, lu]
          refine tk (i := 11) (h := ?_)
          try simp only [Act.put, lt, ly, lu]
          refine tk (i := 12) (h := ?_)
          try simp only [Act.put, lt, ly, lu]
          as_aux_lemma =>
           refine wpAnyH_ready (rs := [10]) (by kernel_rfl) (by simp) (AllReadyH.cons (o := ?oq49) ?eq49 ?kq49 AllReadyH.nil)
           case eq49 => simp only [lg, lz, ls]; rfl
           intro K hK; go_simp; go_at_call 59
           refine (bool_to e_r2.out (boxInside_any (hRs26.out.keep (Below.step (Below.step b27.out b28.out) b29.out)) (hRu26.out.keep (Below.step (Below.step b27.out b28.out) b29.out)) n_x.out n_y.out n_l.out n_h.out)).mono ?_
           rintro e w30 ⟨rfl, b30⟩
           replace b30 := hid b30
           have hk30 := hcall hk29 HSZ13 b30.out; have hk30' := hk30; unfold Held0 at hk30'; clear hHeld hk29
           refine hK.out _ _ ?_ (fun hHeld => ?_)
           · (try dsimp only); with_reducible exact hk30'
           clear hK K hk30'; try simp only [Act.put, lt, ly, lu]
           refine wpAnyH_ready (rs := [13]) (by kernel_rfl) (by simp) (AllReadyH.cons (o := ?oq50) ?eq50 ?kq50 AllReadyH.nil)
           case eq50 => simp only [lg, lz, ls]; rfl
           intro K hK; go_simp; go_at_call 60
           refine (insideR_any f2.out (hRt26.out.keep (Below.step (Below.step (Below.step b27.out b28.out) b29.out) b30.out)) (hRv26.out.keep (Below.step (Below.step (Below.step b27.out b28.out) b29.out) b30.out)) m_x.out m_y.out m_l.out m_h.out).mono ?_
           rintro e w31 ⟨rfl, b31⟩
           replace b31 := hid b31
           have hk31 := hcall hk30 HSZ13 b31.out; have hk31' := hk31; unfold Held0 at hk31'; clear hHeld hk30
           refine hK.out _ _ ?_ (fun hHeld => ?_)
           · (try dsimp only); with_reducible exact hk31'
           clear hK K hk31'; try simp only [Act.put, lt, ly, lu]
           refine tk (i := 14) (h := ?_)
           try simp only [Act.put, lt, ly, lu]
           refine tk (i := 15) (h := ?_)
           try simp only [Act.put, lt, ly, lu]
           refine tk (i := 16) (h := ?_)
           try simp only [Act.put, lt, ly, lu]
           refine tk (i := 17) (h := ?_)
           try simp only [Act.put, lt, ly, lu]
           refine tk (i := 18) (h := ?_)
           try simp only [Act.put, lt, ly, lu]
           refine tk (i := 20) (h := ?_)
           try simp only [Act.put, lt, ly, lu]
           refine tk (i := 21) (h := ?_)
           try simp only [Act.put, lt, ly, lu]
           refine wpAnyH_ready (rs := [19]) (by kernel_rfl) (by simp) (AllReadyH.cons (o := ?oq58) ?eq58 ?kq58 AllReadyH.nil)
           case eq58 => simp only [lg, lz, ls]; rfl
           intro K hK; go_simp; go_at_call 59
           refine (bool_to e_r3.out (boxInside_any (hRu26.out.keep (Below.step (Below.step (Below.step (Below.step b27.out b28.out) b29.out) b30.out) b31.out)) (hRs26.out.keep (Below.step (Below.step (Below.step (Below.step b27.out b28.out) b29.out) b30.out) b31.out)) n_l.out n_h.out n_x.out n_y.out)).mono ?_
           rintro e w32 ⟨rfl, b32⟩
           replace b32 := hid b32
           have hk32 := hcall hk31 HSZ13 b32.out; have hk32' := hk32; unfold Held0 at hk32'; clear hHeld hk31
           refine hK.out _ _ ?_ (fun hHeld => ?_)
           · (try dsimp only); with_reducible exact hk32'
           clear hK K hk32'; try simp only [Act.put, lt, ly, lu]
           refine wpAnyH_ready (rs := [22]) (by kernel_rfl) (by simp) (AllReadyH.cons (o := ?oq59) ?eq59 ?kq59 AllReadyH.nil)
           case eq59 => simp only [lg, lz, ls]; rfl
           intro K hK; go_simp; go_at_call 60
           refine (insideR_any f3.out (hRv26.out.keep (Below.step (Below.step (Below.step (Below.step (Below.step b27.out b28.out) b29.out) b30.out) b31.out) b32.out)) (hRt26.out.keep (Below.step (Below.step (Below.step (Below.step (Below.step b27.out b28.out) b29.out) b30.out) b31.out) b32.out)) m_l.out m_h.out m_x.out m_y.out).mono ?_
           rintro e w33 ⟨rfl, b33⟩
           replace b33 := hid b33
           have hk33 := hcall hk32 HSZ13 b33.out; have hk33' := hk33; unfold Held0 at hk33'; clear hHeld hk32
           refine hK.out _ _ ?_ (fun hHeld => ?_)
           · (try dsimp only); with_reducible exact hk33'
           clear hK K hk33'; try simp only [Act.put, lt, ly, lu]
           refine tk (i := 23) (h := ?_)
           try simp only [Act.put, lt, ly, lu]
           as_aux_lemma =>
            refine tk (i := 24) (h := ?_)
            try simp only [Act.put, lt, ly, lu]
            refine tk (i := 25) (h := ?_)
            try simp only [Act.put, lt, ly, lu]
            refine tk (i := 26) (h := ?_)
            try simp only [Act.put, lt, ly, lu]
            refine tk (i := 27) (h := ?_)
            try simp only [Act.put, lt, ly, lu]
            refine tk (i := 29) (h := ?_)
            try simp only [Act.put, lt, ly, lu]
            refine tk (i := 30) (h := ?_)
            try simp only [Act.put, lt, ly, lu]
            refine wpAnyH_ready (rs := [28]) (by kernel_rfl) (by simp) (AllReadyH.cons (o := ?oq67) ?eq67 ?kq67 AllReadyH.nil)
            case eq67 => simp only [lg, lz, ls]; rfl
            intro K hK; go_simp; go_at_call 61
            refine (boxEqual_any e_r4.out (hRs26.out.keep (Below.step (Below.step (Below.step (Below.step (Below.step (Below.step b27.out b28.out) b29.out) b30.out) b31.out) b32.out) b33.out)) (hRu26.out.keep (Below.step (Below.step (Below.step (Below.step (Below.step (Below.step b27.out b28.out) b29.out) b30.out) b31.out) b32.out) b33.out)) m_x.out m_y.out m_l.out m_h.out).mono ?_
            rintro e w34 ⟨rfl, b34⟩
            replace b34 := hid b34
            have hk34 := hcall hk33 HSZ13 b34.out; have hk34' := hk34; unfold Held0 at hk34'; clear hHeld hk33
            refine hK.out _ _ ?_ (fun hHeld => ?_)
            · (try dsimp only); with_reducible exact hk34'
            clear hK K hk34'; try simp only [Act.put, lt, ly, lu]
            refine wpAnyH_ready (rs := [31]) (by kernel_rfl) (by simp) (AllReadyH.cons (o := ?oq68) ?eq68 ?kq68 AllReadyH.nil)
            case eq68 => simp only [lg, lz, ls]; rfl
            intro K hK; go_simp; go_at_call 60
            refine (insideR_any f2.out (hRt26.out.keep (Below.step (Below.step (Below.step (Below.step (Below.step (Below.step (Below.step b27.out b28.out) b29.out) b30.out) b31.out) b32.out) b33.out) b34.out)) (hRv26.out.keep (Below.step (Below.step (Below.step (Below.step (Below.step (Below.step (Below.step b27.out b28.out) b29.out) b30.out) b31.out) b32.out) b33.out) b34.out)) m_x.out m_y.out m_l.out m_h.out).mono ?_
            rintro e w35 ⟨rfl, b35⟩
            replace b35 := hid b35
            have hk35 := hcall hk34 HSZ13 b35.out; have hk35' := hk35; unfold Held0 at hk35'; clear hHeld hk34
            refine hK.out _ _ ?_ (fun hHeld => ?_)
            · (try dsimp only); with_reducible exact hk35'
            clear hK K hk35'; try simp only [Act.put, lt, ly, lu]
            refine tk (i := 32) (h := ?_)
            try simp only [Act.put, lt, ly, lu]
            refine tk (i := 33) (v := undef) (hy := by exact Or.inr ⟨by rfl, rfl⟩) (h := ?_)
            try simp only [Act.put, lt, ly, lu]
            refine tk (i := 34) (v := undef) (hy := by exact Or.inr ⟨by rfl, rfl⟩) (h := ?_)
            try simp only [Act.put, lt, ly, lu]
            refine wpAnyH_ready (rs := [35]) (by kernel_rfl) (by simp) (AllReadyH.cons (o := ?oq72) ?eq72 ?kq72 AllReadyH.nil)
            case eq72 => simp only [lg, lz, ls]; rfl
            intro K hK; go_simp
            refine hK.out _ _ ?_ (fun hHeld2 => ?_)
            · (try dsimp only); exact hHeld
            clear hK K hHeld
            try simp only [Act.put, lt, ly, lu]
            have hHeld := hHeld2
            clear hHeld2
            as_aux_lemma =>
             refine tk (i := 36) (h := ?_)
             try simp only [Act.put, lt, ly, lu]
             refine tk (i := 37) (h := ?_)
             try simp only [Act.put, lt, ly, lu]
             refine tk (i := 38) (h := ?_)
             try simp only [Act.put, lt, ly, lu]
             refine tk (i := 39) (h := ?_)
             try simp only [Act.put, lt, ly, lu]
             refine tk (i := 40) (h := ?_)
             try simp only [Act.put, lt, ly, lu]
             refine tk (i := 41) (h := ?_)
             try simp only [Act.put, lt, ly, lu]
             refine wpAnyH_ready (rs := [42]) (by kernel_rfl) (by simp) (AllReadyH.cons (o := ?oq79) ?eq79 ?kq79 AllReadyH.nil)
             case eq79 => simp only [lg, lz, ls]; rfl
             intro K hK; go_simp; go_at_call 61
             refine (boxSelf_any (hRs26.out.keep (Below.step (Below.step (Below.step (Below.step (Below.step (Below.step (Below.step (Below.step b27.out b28.out) b29.out) b30.out) b31.out) b32.out) b33.out) b34.out) b35.out)) m_x.out m_y.out).mono ?_
             rintro e w36 ⟨rfl, b36⟩
             replace b36 := hid b36
             have hk36 := hcall hk35 HSZ13 b36.out; have hk36' := hk36; unfold Held0 at hk36'; clear hHeld hk35
             refine hK.out _ _ ?_ (fun hHeld => ?_)
             · (try dsimp only); with_reducible exact hk36'
             clear hK K hk36'; try simp only [Act.put, lt, ly, lu]
             refine tk (i := 43) (h := ?_)
             try simp only [Act.put, lt, ly, lu]
             refine tk (i := 44) (h := ?_)
             try simp only [Act.put, lt, ly, lu]
             refine wpAnyH_ready (rs := [45]) (by kernel_rfl) (by simp) (AllReadyH.cons (o := ?oq82) ?eq82 ?kq82 AllReadyH.nil)
             case eq82 => simp only [lg, lz, ls]; rfl
             intro K hK; go_simp; go_at_call 17
             refine (known_any (cell_keep HMB26.out (Below.step (Below.step (Below.step (Below.step (Below.step (Below.step (Below.step (Below.step (Below.step b27.out b28.out) b29.out) b30.out) b31.out) b32.out) b33.out) b34.out) b35.out) b36.out)) (tab_keep HTB26.out (Below.step (Below.step (Below.step (Below.step (Below.step (Below.step (Below.step (Below.step (Below.step b27.out b28.out) b29.out) b30.out) b31.out) b32.out) b33.out) b34.out) b35.out) b36.out))).mono ?_
             rintro e w37 ⟨rfl, b37⟩
             replace b37 := hid b37
             have hk37 := hcall hk36 HSZ13 b37.out; have hk37' := hk37; unfold Held0 at hk37'; clear hHeld hk36
             refine hK.out _ _ ?_ (fun hHeld => ?_)
             · (try dsimp only); with_reducible exact hk37'
             clear hK K hk37'; try simp only [Act.put, lt, ly, lu]
             refine tk (i := 46) (h := ?_)
             try simp only [Act.put, lt, ly, lu]
             refine tk (i := 47) (h := ?_)
             try simp only [Act.put, lt, ly, lu]
             have HE := hid (Below.step HBB26.out (Below.step (Below.step (Below.step (Below.step (Below.step (Below.step (Below.step (Below.step (Below.step (Below.step b27.out b28.out) b29.out) b30.out) b31.out) b32.out) b33.out) b34.out) b35.out) b36.out) b37.out))
             refine wpAnyH_done (by kernel_rfl) ?_ _
             clear hHeld
             go_wp2_with fail
             go_ret
             exact ⟨rfl, HE.out⟩
       · obtain rfl : r3 = r4 := f4.out
         go_wp2_with fail
         obtain ⟨NN13, hNN⟩ : ∃ n : Nat, w26.heap.size = n := ⟨_, rfl⟩
         have HSZ13 : Hid (w26.heap.size = NN13) := hNN
         have hg : w26.heap[w6.heap.size]? = some (.cells #[.bool (decide (z.num < 0)), .slice C25 (Vx.len z.num.natAbs) j25, .slice C26 (Vx.len (below z.den)) j26] 25 (0, 0)) := ((Below.refl _ w26).block _ (Array.getElem?_eq_some_iff.1 LRz26.out).1).trans LRz26.out
         obtain ⟨z_z_0, z_z_1, z_z_2⟩ := cells3 hg
         clear hg
         have hlt13_z : w6.heap.size < NN13 := Nat.lt_of_lt_of_eq (World.block_lt_of_cell? _ _ z_z_0) hNN
         have hg : w26.heap[w6.heap.size + 1]? = some (.cells #[.bool (decide (z.num < 0)), .slice C27 (len z.num.natAbs) j27, .slice C28 (len z.den) j28] 33 (0, 0)) := ((Below.refl _ w26).block _ (Array.getElem?_eq_some_iff.1 LRr26.out).1).trans LRr26.out
         obtain ⟨z_r_0, z_r_1, z_r_2⟩ := cells3 hg
         clear hg
         have hlt13_r : w6.heap.size + 1 < NN13 := Nat.lt_of_lt_of_eq (World.block_lt_of_cell? _ _ z_r_0) hNN
         have hg : w26.heap[w8.heap.size]? = some (.cells #[.bool (decide (x.num < 0)), .slice C29 (Vx.len x.num.natAbs) j29, .slice C30 (Vx.len (below x.den)) j30, .bool (decide (y.num < 0)), .slice C31 (Vx.len y.num.natAbs) j31, .slice C32 (Vx.len (below y.den)) j32] 71 (0, 0)) := ((Below.refl _ w26).block _ (Array.getElem?_eq_some_iff.1 LRs26.out).1).trans LRs26.out
         obtain ⟨z_s_0, z_s_1, z_s_2, z_s_3, z_s_4, z_s_5⟩ := cells6 hg
         clear hg
         have hlt13_s : w8.heap.size < NN13 := Nat.lt_of_lt_of_eq (World.block_lt_of_cell? _ _ z_s_0) hNN
         have hg : w26.heap[w10.heap.size]? = some (.cells #[.bool (decide (x.num < 0)), .slice C19 (len x.num.natAbs) j19, .slice C20 (len x.den) j20, .bool (decide (y.num < 0)), .slice C23 (len y.num.natAbs) j23, .slice C24 (len y.den) j24] 76 (0, 0)) := ((Below.refl _ w26).block _ (Array.getElem?_eq_some_iff.1 LRt26.out).1).trans LRt26.out
         obtain ⟨z_t_0, z_t_1, z_t_2, z_t_3, z_t_4, z_t_5⟩ := cells6 hg
         clear hg
         have hlt13_t : w10.heap.size < NN13 := Nat.lt_of_lt_of_eq (World.block_lt_of_cell? _ _ z_t_0) hNN
         have hg : w26.heap[w12.heap.size]? = some (.cells #[.bool (decide (l.num < 0)), .slice C33 (Vx.len l.num.natAbs) j33, .slice C34 (Vx.len (below l.den)) j34, .bool (decide (h.num < 0)), .slice C35 (Vx.len h.num.natAbs) j35, .slice C36 (Vx.len (below h.den)) j36] 71 (0, 0)) := ((Below.refl _ w26).block _ (Array.getElem?_eq_some_iff.1 LRu26.out).1).trans LRu26.out
         obtain ⟨z_u_0, z_u_1, z_u_2, z_u_3, z_u_4, z_u_5⟩ := cells6 hg
         clear hg
         have hlt13_u : w12.heap.size < NN13 := Nat.lt_of_lt_of_eq (World.block_lt_of_cell? _ _ z_u_0) hNN
         have hg : w26.heap[w12.heap.size + 1]? = some (.cells #[.bool (decide (l.num < 0)), .slice C37 (len l.num.natAbs) j37, .slice C38 (len l.den) j38, .bool (decide (h.num < 0)), .slice C39 (len h.num.natAbs) j39, .slice C40 (len h.den) j40] 76 (0, 0)) := ((Below.refl _ w26).block _ (Array.getElem?_eq_some_iff.1 LRv26.out).1).trans LRv26.out
         obtain ⟨z_v_0, z_v_1, z_v_2, z_v_3, z_v_4, z_v_5⟩ := cells6 hg
         clear hg
         have hlt13_v : w12.heap.size + 1 < NN13 := Nat.lt_of_lt_of_eq (World.block_lt_of_cell? _ _ z_v_0) hNN
         have H0 := Held0.start w26 NN13
         have H0' := H0
         unfold Held0 at H0'
         refine wp_region_held_drew (S := (fun w' => (∀ b o, b < NN13 → w'.cell? ⟨b, o, none⟩ = w26.cell? ⟨b, o, none⟩) ∧ Below (NN13) w26 w' ∧ Stay w26 w')) (by kernel_rfl) ?_ (fun hHeld => ?_)
         · (try dsimp only)
           exact H0'
         obtain ⟨w27, hw27⟩ : ∃ u, u = w26.drew := ⟨_, rfl⟩
         have b27 : Hid (Below w26.heap.size w26 w27) := by rw [hw27]; exact ⟨rfl, rfl, rfl, Nat.le_refl _, fun _ _ => rfl⟩
         rw [← hw27] at hHeld H0 ⊢
         clear hw27 H0' hNN
         as_aux_lemma =>
          refine tk (i := 0) (h := ?_)
          try simp only [Act.put, lt, ly, lu]
          refine tk (i := 1) (h := ?_)
          try simp only [Act.put, lt, ly, lu]
          refine tk (i := 3) (h := ?_)
          try simp only [Act.put, lt, ly, lu]
          refine tk (i := 4) (h := ?_)
          try simp only [Act.put, lt, ly, lu]
          refine wpAnyH_ready (rs := [2]) (by kernel_rfl) (by simp) (AllReadyH.cons (o := ?oq89) ?eq89 ?kq89 AllReadyH.nil)
          case eq89 => simp only [lg, lz, ls]; rfl
          intro K hK; go_simp; go_at_call 57
          refine (bool_to e_r1.out (boxHas_any (hRs26.out.keep b27.out) (hRz26.out.keep b27.out) n_x.out n_y.out n_z.out)).mono ?_
          rintro e w28 ⟨rfl, b28⟩
          replace b28 := hid b28
          have hk28 := hcall H0 HSZ13 b28.out; have hk28' := hk28; unfold Held0 at hk28'; clear hHeld H0
          refine hK.out _ _ ?_ (fun hHeld => ?_)
          · (try dsimp only); with_reducible exact hk28'
          clear hK K hk28'; try simp only [Act.put, lt, ly, lu]
          refine wpAnyH_ready (rs := [5]) (by kernel_rfl) (by simp) (AllReadyH.cons (o := ?oq90) ?eq90 ?kq90 AllReadyH.nil)
          case eq90 => simp only [lg, lz, ls]; rfl
          intro K hK; go_simp; go_at_call 58
          refine (hasR_any e_r1.out (hRt26.out.keep (Below.step b27.out b28.out)) (hRr26.out.keep (Below.step b27.out b28.out)) m_x.out m_y.out m_z.out).mono ?_
          rintro e w29 ⟨rfl, b29⟩
          replace b29 := hid b29
          have hk29 := hcall hk28 HSZ13 b29.out; have hk29' := hk29; unfold Held0 at hk29'; clear hHeld hk28
          refine hK.out _ _ ?_ (fun hHeld => ?_)
          · (try dsimp only); with_reducible exact hk29'
          clear hK K hk29'; try simp only [Act.put, lt, ly, lu]
          refine tk (i := 6) (h := ?_)
          try simp only [Act.put, lt, ly, lu]
          refine tk (i := 7) (h := ?_)
          try simp only [Act.put, lt, ly, lu]
          refine tk (i := 8) (h := ?_)
          try simp only [Act.put, lt, ly, lu]
          refine tk (i := 9) (h := ?_)
          try simp only [Act.put, lt, ly, lu]
          refine tk (i := 11) (h := ?_)
          try simp only [Act.put, lt, ly, lu]
          refine tk (i := 12) (h := ?_)
          try simp only [Act.put, lt, ly, lu]
          as_aux_lemma =>
           refine wpAnyH_ready (rs := [10]) (by kernel_rfl) (by simp) (AllReadyH.cons (o := ?oq97) ?eq97 ?kq97 AllReadyH.nil)
           case eq97 => simp only [lg, lz, ls]; rfl
           intro K hK; go_simp; go_at_call 59
           refine (bool_to e_r2.out (boxInside_any (hRs26.out.keep (Below.step (Below.step b27.out b28.out) b29.out)) (hRu26.out.keep (Below.step (Below.step b27.out b28.out) b29.out)) n_x.out n_y.out n_l.out n_h.out)).mono ?_
           rintro e w30 ⟨rfl, b30⟩
           replace b30 := hid b30
           have hk30 := hcall hk29 HSZ13 b30.out; have hk30' := hk30; unfold Held0 at hk30'; clear hHeld hk29
           refine hK.out _ _ ?_ (fun hHeld => ?_)
           · (try dsimp only); with_reducible exact hk30'
           clear hK K hk30'; try simp only [Act.put, lt, ly, lu]
           refine wpAnyH_ready (rs := [13]) (by kernel_rfl) (by simp) (AllReadyH.cons (o := ?oq98) ?eq98 ?kq98 AllReadyH.nil)
           case eq98 => simp only [lg, lz, ls]; rfl
           intro K hK; go_simp; go_at_call 60
           refine (insideR_any f2.out (hRt26.out.keep (Below.step (Below.step (Below.step b27.out b28.out) b29.out) b30.out)) (hRv26.out.keep (Below.step (Below.step (Below.step b27.out b28.out) b29.out) b30.out)) m_x.out m_y.out m_l.out m_h.out).mono ?_
           rintro e w31 ⟨rfl, b31⟩
           replace b31 := hid b31
           have hk31 := hcall hk30 HSZ13 b31.out; have hk31' := hk31; unfold Held0 at hk31'; clear hHeld hk30
           refine hK.out _ _ ?_ (fun hHeld => ?_)
           · (try dsimp only); with_reducible exact hk31'
           clear hK K hk31'; try simp only [Act.put, lt, ly, lu]
           refine tk (i := 14) (h := ?_)
           try simp only [Act.put, lt, ly, lu]
           refine tk (i := 15) (h := ?_)
           try simp only [Act.put, lt, ly, lu]
           refine tk (i := 16) (h := ?_)
           try simp only [Act.put, lt, ly, lu]
           refine tk (i := 17) (h := ?_)
           try simp only [Act.put, lt, ly, lu]
           refine tk (i := 18) (h := ?_)
           try simp only [Act.put, lt, ly, lu]
           refine tk (i := 20) (h := ?_)
           try simp only [Act.put, lt, ly, lu]
           refine tk (i := 21) (h := ?_)
           try simp only [Act.put, lt, ly, lu]
           refine wpAnyH_ready (rs := [19]) (by kernel_rfl) (by simp) (AllReadyH.cons (o := ?oq106) ?eq106 ?kq106 AllReadyH.nil)
           case eq106 => simp only [lg, lz, ls]; rfl
           intro K hK; go_simp; go_at_call 59
           refine (bool_to e_r3.out (boxInside_any (hRu26.out.keep (Below.step (Below.step (Below.step (Below.step b27.out b28.out) b29.out) b30.out) b31.out)) (hRs26.out.keep (Below.step (Below.step (Below.step (Below.step b27.out b28.out) b29.out) b30.out) b31.out)) n_l.out n_h.out n_x.out n_y.out)).mono ?_
           rintro e w32 ⟨rfl, b32⟩
           replace b32 := hid b32
           have hk32 := hcall hk31 HSZ13 b32.out; have hk32' := hk32; unfold Held0 at hk32'; clear hHeld hk31
           refine hK.out _ _ ?_ (fun hHeld => ?_)
           · (try dsimp only); with_reducible exact hk32'
           clear hK K hk32'; try simp only [Act.put, lt, ly, lu]
           refine wpAnyH_ready (rs := [22]) (by kernel_rfl) (by simp) (AllReadyH.cons (o := ?oq107) ?eq107 ?kq107 AllReadyH.nil)
           case eq107 => simp only [lg, lz, ls]; rfl
           intro K hK; go_simp; go_at_call 60
           refine (insideR_any f3.out (hRv26.out.keep (Below.step (Below.step (Below.step (Below.step (Below.step b27.out b28.out) b29.out) b30.out) b31.out) b32.out)) (hRt26.out.keep (Below.step (Below.step (Below.step (Below.step (Below.step b27.out b28.out) b29.out) b30.out) b31.out) b32.out)) m_l.out m_h.out m_x.out m_y.out).mono ?_
           rintro e w33 ⟨rfl, b33⟩
           replace b33 := hid b33
           have hk33 := hcall hk32 HSZ13 b33.out; have hk33' := hk33; unfold Held0 at hk33'; clear hHeld hk32
           refine hK.out _ _ ?_ (fun hHeld => ?_)
           · (try dsimp only); with_reducible exact hk33'
           clear hK K hk33'; try simp only [Act.put, lt, ly, lu]
           refine tk (i := 23) (h := ?_)
           try simp only [Act.put, lt, ly, lu]
           as_aux_lemma =>
            refine tk (i := 24) (h := ?_)
            try simp only [Act.put, lt, ly, lu]
            refine tk (i := 25) (h := ?_)
            try simp only [Act.put, lt, ly, lu]
            refine tk (i := 26) (h := ?_)
            try simp only [Act.put, lt, ly, lu]
            refine tk (i := 27) (h := ?_)
            try simp only [Act.put, lt, ly, lu]
            refine tk (i := 29) (h := ?_)
            try simp only [Act.put, lt, ly, lu]
            refine tk (i := 30) (h := ?_)
            try simp only [Act.put, lt, ly, lu]
            refine wpAnyH_ready (rs := [28]) (by kernel_rfl) (by simp) (AllReadyH.cons (o := ?oq115) ?eq115 ?kq115 AllReadyH.nil)
            case eq115 => simp only [lg, lz, ls]; rfl
            intro K hK; go_simp; go_at_call 61
            refine (boxEqual_any e_r4.out (hRs26.out.keep (Below.step (Below.step (Below.step (Below.step (Below.step (Below.step b27.out b28.out) b29.out) b30.out) b31.out) b32.out) b33.out)) (hRu26.out.keep (Below.step (Below.step (Below.step (Below.step (Below.step (Below.step b27.out b28.out) b29.out) b30.out) b31.out) b32.out) b33.out)) m_x.out m_y.out m_l.out m_h.out).mono ?_
            rintro e w34 ⟨rfl, b34⟩
            replace b34 := hid b34
            have hk34 := hcall hk33 HSZ13 b34.out; have hk34' := hk34; unfold Held0 at hk34'; clear hHeld hk33
            refine hK.out _ _ ?_ (fun hHeld => ?_)
            · (try dsimp only); with_reducible exact hk34'
            clear hK K hk34'; try simp only [Act.put, lt, ly, lu]
            refine wpAnyH_ready (rs := [31]) (by kernel_rfl) (by simp) (AllReadyH.cons (o := ?oq116) ?eq116 ?kq116 AllReadyH.nil)
            case eq116 => simp only [lg, lz, ls]; rfl
            intro K hK; go_simp; go_at_call 60
            refine (insideR_any f2.out (hRt26.out.keep (Below.step (Below.step (Below.step (Below.step (Below.step (Below.step (Below.step b27.out b28.out) b29.out) b30.out) b31.out) b32.out) b33.out) b34.out)) (hRv26.out.keep (Below.step (Below.step (Below.step (Below.step (Below.step (Below.step (Below.step b27.out b28.out) b29.out) b30.out) b31.out) b32.out) b33.out) b34.out)) m_x.out m_y.out m_l.out m_h.out).mono ?_
            rintro e w35 ⟨rfl, b35⟩
            replace b35 := hid b35
            have hk35 := hcall hk34 HSZ13 b35.out; have hk35' := hk35; unfold Held0 at hk35'; clear hHeld hk34
            refine hK.out _ _ ?_ (fun hHeld => ?_)
            · (try dsimp only); with_reducible exact hk35'
            clear hK K hk35'; try simp only [Act.put, lt, ly, lu]
            refine tk (i := 32) (h := ?_)
            try simp only [Act.put, lt, ly, lu]
            refine tk (i := 33) (h := ?_)
            try simp only [Act.put, lt, ly, lu]
            refine tk (i := 34) (h := ?_)
            try simp only [Act.put, lt, ly, lu]
            refine wpAnyH_ready (rs := [35]) (by kernel_rfl) (by simp) (AllReadyH.cons (o := ?oq120) ?eq120 ?kq120 AllReadyH.nil)
            case eq120 => simp only [lg, lz, ls]; rfl
            intro K hK; go_simp; go_at_call 60
            refine (insideR_any f3.out (hRv26.out.keep (Below.step (Below.step (Below.step (Below.step (Below.step (Below.step (Below.step (Below.step b27.out b28.out) b29.out) b30.out) b31.out) b32.out) b33.out) b34.out) b35.out)) (hRt26.out.keep (Below.step (Below.step (Below.step (Below.step (Below.step (Below.step (Below.step (Below.step b27.out b28.out) b29.out) b30.out) b31.out) b32.out) b33.out) b34.out) b35.out)) m_l.out m_h.out m_x.out m_y.out).mono ?_
            rintro e w36 ⟨rfl, b36⟩
            replace b36 := hid b36
            have hk36 := hcall hk35 HSZ13 b36.out; have hk36' := hk36; unfold Held0 at hk36'; clear hHeld hk35
            refine hK.out _ _ ?_ (fun hHeld => ?_)
            · (try dsimp only); with_reducible exact hk36'
            clear hK K hk36'; try simp only [Act.put, lt, ly, lu]
            as_aux_lemma =>
             refine tk (i := 36) (h := ?_)
             try simp only [Act.put, lt, ly, lu]
             refine tk (i := 37) (h := ?_)
             try simp only [Act.put, lt, ly, lu]
             refine tk (i := 38) (h := ?_)
             try simp only [Act.put, lt, ly, lu]
             refine tk (i := 39) (h := ?_)
             try simp only [Act.put, lt, ly, lu]
             refine tk (i := 40) (h := ?_)
             try simp only [Act.put, lt, ly, lu]
             refine tk (i := 41) (h := ?_)
             try simp only [Act.put, lt, ly, lu]
             refine wpAnyH_ready (rs := [42]) (by kernel_rfl) (by simp) (AllReadyH.cons (o := ?oq127) ?eq127 ?kq127 AllReadyH.nil)
             case eq127 => simp only [lg, lz, ls]; rfl
             intro K hK; go_simp; go_at_call 61
             refine (boxSelf_any (hRs26.out.keep (Below.step (Below.step (Below.step (Below.step (Below.step (Below.step (Below.step (Below.step (Below.step b27.out b28.out) b29.out) b30.out) b31.out) b32.out) b33.out) b34.out) b35.out) b36.out)) m_x.out m_y.out).mono ?_
             rintro e w37 ⟨rfl, b37⟩
             replace b37 := hid b37
             have hk37 := hcall hk36 HSZ13 b37.out; have hk37' := hk37; unfold Held0 at hk37'; clear hHeld hk36
             refine hK.out _ _ ?_ (fun hHeld => ?_)
             · (try dsimp only); with_reducible exact hk37'
             clear hK K hk37'; try simp only [Act.put, lt, ly, lu]
             refine tk (i := 43) (h := ?_)
             try simp only [Act.put, lt, ly, lu]
             refine tk (i := 44) (h := ?_)
             try simp only [Act.put, lt, ly, lu]
             refine wpAnyH_ready (rs := [45]) (by kernel_rfl) (by simp) (AllReadyH.cons (o := ?oq130) ?eq130 ?kq130 AllReadyH.nil)
             case eq130 => simp only [lg, lz, ls]; rfl
             intro K hK; go_simp; go_at_call 17
             refine (known_any (cell_keep HMB26.out (Below.step (Below.step (Below.step (Below.step (Below.step (Below.step (Below.step (Below.step (Below.step (Below.step b27.out b28.out) b29.out) b30.out) b31.out) b32.out) b33.out) b34.out) b35.out) b36.out) b37.out)) (tab_keep HTB26.out (Below.step (Below.step (Below.step (Below.step (Below.step (Below.step (Below.step (Below.step (Below.step (Below.step b27.out b28.out) b29.out) b30.out) b31.out) b32.out) b33.out) b34.out) b35.out) b36.out) b37.out))).mono ?_
             rintro e w38 ⟨rfl, b38⟩
             replace b38 := hid b38
             have hk38 := hcall hk37 HSZ13 b38.out; have hk38' := hk38; unfold Held0 at hk38'; clear hHeld hk37
             refine hK.out _ _ ?_ (fun hHeld => ?_)
             · (try dsimp only); with_reducible exact hk38'
             clear hK K hk38'; try simp only [Act.put, lt, ly, lu]
             refine tk (i := 46) (h := ?_)
             try simp only [Act.put, lt, ly, lu]
             refine tk (i := 47) (h := ?_)
             try simp only [Act.put, lt, ly, lu]
             have HE := hid (Below.step HBB26.out (Below.step (Below.step (Below.step (Below.step (Below.step (Below.step (Below.step (Below.step (Below.step (Below.step (Below.step b27.out b28.out) b29.out) b30.out) b31.out) b32.out) b33.out) b34.out) b35.out) b36.out) b37.out) b38.out))
             refine wpAnyH_done (by kernel_rfl) ?_ _
             clear hHeld
             go_wp2_with fail
             go_ret
             exact ⟨rfl, HE.out⟩
theorem spans_any {w : World} {sa sb sc : ByteArray} {mx : Int} (hM : w.cell? ⟨3, 0, none⟩ = some (.int .i64 mx)) (hT : TabAt 0 Lib.deBruijn64tab w) :
    Calls Tryz.prog 7 #[.string sa, .string sb, .string sc] w (BoolRet w true) := by
  rcases h : [sa, sb, sc].any (fun s => decide (120 < s.size)) with _ | _
  · exact spans_short h hM hT
  · exact spans_long h hM hT
end Go.Proofs.YtfppimacnhcflaaGreatDoor.Rf
