/-
  Contracts of the functions that the law calls, for every input (SqB).
-/
import Derived.Test.YtpfnckhfklgoaaaGreatDoorJ31
set_option linter.all false
namespace Go.Proofs.YtpfnckhfklgoaaaGreatDoor
open Go.RowKit
open Vx
open List renaming getElem?_toArray → lg, getElem?_cons_zero → lz, getElem?_cons_succ → ls, setIfInBounds_toArray → lt, set_cons_zero → ly, set_cons_succ → lu

theorem Held0.put6 {wB wS w : World} {N b : Nat} {v : Value} {s1 s2 : Bool} {A1 A2 A3 A4 : Option Addr} {n1 c1 n2 c2 n3 c3 n4 c4 : Nat} {a d : Rat} (h : Held0 wB N wS w) (L : w.heap[b]? = some (.cells #[.bool false, .slice none 0 0, .slice none 0 0, .bool false, .slice none 0 0, .slice none 0 0] 53 (0, 0))) (hle : N ≤ b) (hv : IsBox w v a d) :
    Held0 wB N wS ((((((w.setCell ⟨b, 0, none⟩ (.bool s1)).setCell ⟨b, 1, none⟩ (.slice A1 n1 c1)).setCell ⟨b, 2, none⟩ (.slice A2 n2 c2)).setCell ⟨b, 3, none⟩ (.bool s2)).setCell ⟨b, 4, none⟩ (.slice A3 n3 c3)).setCell ⟨b, 5, none⟩ (.slice A4 n4 c4)) ∧
    ((((((w.setCell ⟨b, 0, none⟩ (.bool s1)).setCell ⟨b, 1, none⟩ (.slice A1 n1 c1)).setCell ⟨b, 2, none⟩ (.slice A2 n2 c2)).setCell ⟨b, 3, none⟩ (.bool s2)).setCell ⟨b, 4, none⟩ (.slice A3 n3 c3)).setCell ⟨b, 5, none⟩ (.slice A4 n4 c4)).heap[b]? = some (.cells #[.bool s1, .slice A1 n1 c1, .slice A2 n2 c2, .bool s2, .slice A3 n3 c3, .slice A4 n4 c4] 53 (0, 0)) ∧
    IsBox ((((((w.setCell ⟨b, 0, none⟩ (.bool s1)).setCell ⟨b, 1, none⟩ (.slice A1 n1 c1)).setCell ⟨b, 2, none⟩ (.slice A2 n2 c2)).setCell ⟨b, 3, none⟩ (.bool s2)).setCell ⟨b, 4, none⟩ (.slice A3 n3 c3)).setCell ⟨b, 5, none⟩ (.slice A4 n4 c4)) v a d := by
  have k0 : Kept 6 53 w b w := Kept.start rfl plain6 L
  have k1 := k0.set (i := 0) (bool_plain s1)
  have k2 := k1.set (i := 1) (slice_plain A1 n1 c1)
  have k3 := k2.set (i := 2) (slice_plain A2 n2 c2)
  have k4 := k3.set (i := 3) (bool_plain s2)
  have k5 := k4.set (i := 4) (slice_plain A3 n3 c3)
  have S : ∀ wX, Stay wX w → Stay wX ((((((w.setCell ⟨b, 0, none⟩ (.bool s1)).setCell ⟨b, 1, none⟩ (.slice A1 n1 c1)).setCell ⟨b, 2, none⟩ (.slice A2 n2 c2)).setCell ⟨b, 3, none⟩ (.bool s2)).setCell ⟨b, 4, none⟩ (.slice A3 n3 c3)).setCell ⟨b, 5, none⟩ (.slice A4 n4 c4)) := fun wX hX => (((((hX.put k0).put k1).put k2).put k3).put k4).put k5
  have hB := (((((h.2.1.setCell (p := ⟨b, 0, none⟩) hle (.bool s1)).setCell (p := ⟨b, 1, none⟩) hle (.slice A1 n1 c1)).setCell (p := ⟨b, 2, none⟩) hle (.slice A2 n2 c2)).setCell (p := ⟨b, 3, none⟩) hle (.bool s2)).setCell (p := ⟨b, 4, none⟩) hle (.slice A3 n3 c3)).setCell (p := ⟨b, 5, none⟩) hle (.slice A4 n4 c4)
  exact ⟨⟨below_cell hB, hB, S _ h.2.2⟩, setcell_heap6 rfl L _ _ _ _ _ _, (S _ (Stay.refl w)).box hv⟩

set_option maxRecDepth 100000 in
set_option maxHeartbeats 40000000 in
theorem squares_main {w : World} {s1 s2 s3 : ByteArray} {p : Nat} {mx : Int} {pa pb l h g : Rat} (ea : (parseV s1).1 = pa) (eb : (parseV s2).1 = pb) (eg : (parseV s3).1 = g) (hl : l = if pb < pa then pb else pa) (hh : h = if pb < pa then pa else pb) (h1 : ¬ 40 < s1.size) (h2 : ¬ 40 < s2.size) (h3 : ¬ 40 < s3.size) (hg : 0 < g.num) (hp : p ≤ 255) (hM : w.cell? ⟨1, 0, none⟩ = some (.int .i64 mx)) (hT : TabAt 0 Lib.deBruijn64tab w) :
    Calls Tryz.prog 8 #[.agg #[.string s1, .string s2], .string s3, .int .u8 (p : Nat)] w (BoolRet w true) := by
  have hd1 : decide (((s1.size : Nat) : Int) > 40) = false := decide_eq_false (by omega)
  have hd2 : decide (((s2.size : Nat) : Int) > 40) = false := decide_eq_false (by omega)
  have hd3 : decide (((s3.size : Nat) : Int) > 40) = false := decide_eq_false (by omega)
  clear h1 h2 h3
  obtain ⟨ng, eng⟩ : ∃ n : Int, g.num.sign = n := ⟨_, rfl⟩
  have dg : decide (ng ≤ 0) = false := decide_eq_false (by rw [← eng, Int.sign_eq_one_of_pos hg]; omega)
  replace eng := Lib.hid eng
  have g0 : 0 < g := num_pos.1 hg
  have zl0 : siz l ≤ 4100 := by rw [hl]; split <;> (first | rw [← ea] | rw [← eb]) <;> exact parse_siz _
  have zh0 : siz h ≤ 4100 := by rw [hh]; split <;> (first | rw [← ea] | rw [← eb]) <;> exact parse_siz _
  have zg0 : siz g ≤ 4100 := by rw [← eg]; exact parse_siz _
  have hlh : l ≤ h := by rw [hl, hh]; split; (rename_i hlt; exact Rat.le_of_lt hlt); (rename_i hnl; exact Rat.not_lt.1 hnl)
  obtain ⟨o1, e_o1⟩ : ∃ z : Rat, flr (l / g) * g = z := ⟨_, rfl⟩
  obtain ⟨o2, e_o2⟩ : ∃ z : Rat, -flr (-(h / g)) * g = z := ⟨_, rfl⟩
  obtain ⟨din1, dc1, dc2⟩ := sq_out g0 e_o1 e_o2
  obtain ⟨q1, e_q1⟩ : ∃ z : Rat, o1 + g = z := ⟨_, rfl⟩
  obtain ⟨q2, e_q2⟩ : ∃ z : Rat, o2 - g = z := ⟨_, rfl⟩
  rw [e_q1] at dc1
  rw [e_q2] at dc2
  obtain ⟨c1, e_c1⟩ : ∃ z : Int, cmpQ l q1 = z := ⟨_, rfl⟩
  obtain ⟨c2, e_c2⟩ : ∃ z : Int, cmpQ h q2 = z := ⟨_, rfl⟩
  rw [e_c1] at dc1
  rw [e_c2] at dc2
  have zo1 : siz o1 ≤ 12300 := by rw [← e_o1]; have i1 := siz_div l g; have i2 := siz_flr (l / g); have i3 := siz_mul (flr (l / g)) g; omega
  have zo2 : siz o2 ≤ 12300 := by rw [← e_o2]; have i1 := siz_div h g; have i2 := siz_flr (-(h / g)); have i3 := siz_mul (-flr (-(h / g))) g; rw [siz_neg] at i2 i3; omega
  have z_l : Hid (siz l ≤ 536870912) := Nat.le_trans zl0 (by omega)
  have z_h : Hid (siz h ≤ 536870912) := Nat.le_trans zh0 (by omega)
  have z_g : Hid (siz g ≤ 536870912) := Nat.le_trans zg0 (by omega)
  have z_o1 : Hid (siz o1 ≤ 536870912) := Nat.le_trans zo1 (by omega)
  have z_o2 : Hid (siz o2 ≤ 536870912) := Nat.le_trans zo2 (by omega)
  have z_q1 : Hid (siz q1 ≤ 536870912) := by show _ ≤ _; rw [← e_q1]; have i1 := siz_add o1 g; omega
  have z_q2 : Hid (siz q2 ≤ 536870912) := by show _ ≤ _; rw [← e_q2]; have i1 := siz_sub o2 g; omega
  replace din1 := Lib.hid din1
  replace g0 := Lib.hid g0
  replace hlh := Lib.hid hlh
  replace zl0 := Lib.hid zl0
  replace zh0 := Lib.hid zh0
  replace zg0 := Lib.hid zg0
  replace hg := Lib.hid hg
  replace e_o1 := Lib.hid e_o1
  replace e_o2 := Lib.hid e_o2
  replace e_q1 := Lib.hid e_q1
  replace e_q2 := Lib.hid e_q2
  replace e_c1 := Lib.hid e_c1
  replace e_c2 := Lib.hid e_c2
  clear zo1 zo2
  obtain ⟨nl, enl⟩ : ∃ n : Int, l.num.sign = n := ⟨_, rfl⟩
  replace enl := Lib.hid enl
  replace hM := Lib.hid hM
  replace hT := Lib.hid hT
  obtain ⟨w1, hw1⟩ : ∃ u, u = w.alloc (.cells #[.string s1, .string s2] 48) := ⟨_, rfl⟩
  have b1 : Hid (Below w.heap.size w w1) := by rw [hw1]; exact (Below.refl _ _).alloc (Nat.le_refl _) _
  have L1 : Hid (w1.heap[w.heap.size]? = some (.cells #[.string s1, .string s2] 48 (0, 0))) := by rw [hw1]; exact heap_alloc_new w _
  have hg : w1.heap[w.heap.size]? = some (.cells #[.string s1, .string s2] 48 (0, 0)) := ((Below.refl _ w1).block _ (Array.getElem?_eq_some_iff.1 L1.out).1).trans L1.out
  have z_ends_0 : w1.cell? ⟨w.heap.size, 0, none⟩ = some (.string s1) := cell_of_row _ _ _ _ _ _ hg
  have z_ends_1 : w1.cell? ⟨w.heap.size, 1, none⟩ = some (.string s2) := cell_of_row _ _ _ _ _ _ hg
  clear hg
  go_enter Tryz.func8, Tryz.ntmps8
  go_upto_region 1 with fail
  rw [← hw1]
  clear hw1
  replace ea := Lib.hid ea
  replace eb := Lib.hid eb
  replace eg := Lib.hid eg
  replace hl := Lib.hid hl
  replace hh := Lib.hid hh
  have HX := Lib.hid (box_to (cell_keep hM.out b1.out) ea.out eb.out hl.out hh.out)
  go_wp2_with fail
  refine (HX.out).mono ?_
  rintro e w2 ⟨v2, rfl, hv2, b2⟩
  obtain ⟨C1, j1, C2, j2, C3, j3, C4, j4, rfl, hp2, hq2⟩ := id hv2.opened
  replace hv2 := Lib.hid hv2
  clear hp2 hq2
  replace b2 := Lib.hid b2
  clear HX
  clear z_ends_0 z_ends_1
  have HX := Lib.hid (number_val (cell_keep hM.out (Below.step b1.out b2.out)) eg.out)
  go_wp2_with fail
  refine (HX.out).mono ?_
  rintro e w3 ⟨v3, rfl, hv3, b3⟩
  obtain ⟨C5, j5, C6, j6, rfl, -, -⟩ := id hv3.opened
  replace hv3 := Lib.hid hv3
  replace b3 := Lib.hid b3
  clear HX
  go_upto_region 4 with fail
  obtain ⟨w4, hw4⟩ : ∃ u, u = (w3.alloc (.cells #[.bool (decide (l.num < 0)), .slice C1 (len l.num.natAbs) j1, .slice C2 (len (below l.den)) j2, .bool (decide (h.num < 0)), .slice C3 (len h.num.natAbs) j3, .slice C4 (len (below h.den)) j4] 53)).alloc (.cells #[.bool (decide (g.num < 0)), .slice C5 (len g.num.natAbs) j5, .slice C6 (len (below g.den)) j6] 27) := ⟨_, rfl⟩
  obtain ⟨b4, L4, M4⟩ := news2 w3 (.cells #[.bool (decide (l.num < 0)), .slice C1 (len l.num.natAbs) j1, .slice C2 (len (below l.den)) j2, .bool (decide (h.num < 0)), .slice C3 (len h.num.natAbs) j3, .slice C4 (len (below h.den)) j4] 53) (.cells #[.bool (decide (g.num < 0)), .slice C5 (len g.num.natAbs) j5, .slice C6 (len (below g.den)) j6] 27)
  rw [← hw4] at b4 L4 M4 ⊢
  clear hw4
  replace b4 := Lib.hid b4
  replace L4 := Lib.hid L4
  replace M4 := Lib.hid M4
  have hg : w4.heap[w3.heap.size + 1]? = some (.cells #[.bool (decide (g.num < 0)), .slice C5 (len g.num.natAbs) j5, .slice C6 (len (below g.den)) j6] 27 (0, 0)) := ((Below.refl _ w4).block _ (Array.getElem?_eq_some_iff.1 M4.out).1).trans M4.out
  have z_g_0 : w4.cell? ⟨w3.heap.size + 1, 0, none⟩ = some (.bool (decide (g.num < 0))) := cell_of_row _ _ _ _ _ _ hg
  have z_g_1 : w4.cell? ⟨w3.heap.size + 1, 1, none⟩ = some (.slice C5 (len g.num.natAbs) j5) := cell_of_row _ _ _ _ _ _ hg
  have z_g_2 : w4.cell? ⟨w3.heap.size + 1, 2, none⟩ = some (.slice C6 (len (below g.den)) j6) := cell_of_row _ _ _ _ _ _ hg
  clear hg
  have HX := Lib.hid (sign_val eng.out (hv3.out.keep b4.out))
  go_wp2_with fail
  refine (HX.out).mono ?_
  rintro e w5 ⟨rfl, b5⟩
  replace b5 := Lib.hid b5
  clear HX
  clear z_g_0 z_g_1 z_g_2
  have hg : w5.heap[w3.heap.size]? = some (.cells #[.bool (decide (l.num < 0)), .slice C1 (len l.num.natAbs) j1, .slice C2 (len (below l.den)) j2, .bool (decide (h.num < 0)), .slice C3 (len h.num.natAbs) j3, .slice C4 (len (below h.den)) j4] 53 (0, 0)) := (b5.out.block _ (Array.getElem?_eq_some_iff.1 L4.out).1).trans L4.out
  have z_s_0 : w5.cell? ⟨w3.heap.size, 0, none⟩ = some (.bool (decide (l.num < 0))) := cell_of_row _ _ _ _ _ _ hg
  have z_s_1 : w5.cell? ⟨w3.heap.size, 1, none⟩ = some (.slice C1 (len l.num.natAbs) j1) := cell_of_row _ _ _ _ _ _ hg
  have z_s_2 : w5.cell? ⟨w3.heap.size, 2, none⟩ = some (.slice C2 (len (below l.den)) j2) := cell_of_row _ _ _ _ _ _ hg
  have z_s_3 : w5.cell? ⟨w3.heap.size, 3, none⟩ = some (.bool (decide (h.num < 0))) := cell_of_row _ _ _ _ _ _ hg
  have z_s_4 : w5.cell? ⟨w3.heap.size, 4, none⟩ = some (.slice C3 (len h.num.natAbs) j3) := cell_of_row _ _ _ _ _ _ hg
  have z_s_5 : w5.cell? ⟨w3.heap.size, 5, none⟩ = some (.slice C4 (len (below h.den)) j4) := cell_of_row _ _ _ _ _ _ hg
  clear hg
  have hg : w5.heap[w3.heap.size + 1]? = some (.cells #[.bool (decide (g.num < 0)), .slice C5 (len g.num.natAbs) j5, .slice C6 (len (below g.den)) j6] 27 (0, 0)) := (b5.out.block _ (Array.getElem?_eq_some_iff.1 M4.out).1).trans M4.out
  have z_g_0 : w5.cell? ⟨w3.heap.size + 1, 0, none⟩ = some (.bool (decide (g.num < 0))) := cell_of_row _ _ _ _ _ _ hg
  have z_g_1 : w5.cell? ⟨w3.heap.size + 1, 1, none⟩ = some (.slice C5 (len g.num.natAbs) j5) := cell_of_row _ _ _ _ _ _ hg
  have z_g_2 : w5.cell? ⟨w3.heap.size + 1, 2, none⟩ = some (.slice C6 (len (below g.den)) j6) := cell_of_row _ _ _ _ _ _ hg
  clear hg
  have HX := Lib.hid (out_val e_o1.out e_o2.out (hv2.out.keep (Below.step (Below.step b3.out b4.out) b5.out)) (hv3.out.keep (Below.step b4.out b5.out)) z_l.out z_h.out z_g.out hg.out)
  go_wp2_with fail
  refine (HX.out).mono ?_
  rintro e w6 ⟨v6, rfl, hv6, b6⟩
  obtain ⟨C7, j7, C8, j8, C9, j9, C10, j10, rfl, hp6, hq6⟩ := id hv6.opened
  replace hv6 := Lib.hid hv6
  clear hp6 hq6
  replace b6 := Lib.hid b6
  clear HX
  clear z_s_0 z_s_1 z_s_2 z_s_3 z_s_4 z_s_5 z_g_0 z_g_1 z_g_2
  go_upto_region 7 with fail
  obtain ⟨w7, hw7⟩ : ∃ u, u = w6.alloc (.cells #[.bool (decide (o1.num < 0)), .slice C7 (len o1.num.natAbs) j7, .slice C8 (len (below o1.den)) j8, .bool (decide (o2.num < 0)), .slice C9 (len o2.num.natAbs) j9, .slice C10 (len (below o2.den)) j10] 53) := ⟨_, rfl⟩
  have b7 : Hid (Below w6.heap.size w6 w7) := by rw [hw7]; exact (Below.refl _ _).alloc (Nat.le_refl _) _
  have L7 : Hid (w7.heap[w6.heap.size]? = some (.cells #[.bool (decide (o1.num < 0)), .slice C7 (len o1.num.natAbs) j7, .slice C8 (len (below o1.den)) j8, .bool (decide (o2.num < 0)), .slice C9 (len o2.num.natAbs) j9, .slice C10 (len (below o2.den)) j10] 53 (0, 0))) := by rw [hw7]; exact heap_alloc_new w6 _
  rw [← hw7]
  clear hw7
  have hRs7 := Lib.hid (hv2.out.keep (Below.step (Below.step (Below.step (Below.step b3.out b4.out) b5.out) b6.out) b7.out))
  have hRg7 := Lib.hid (hv3.out.keep (Below.step (Below.step (Below.step b4.out b5.out) b6.out) b7.out))
  have hRo7 := Lib.hid (hv6.out.keep b7.out)
  have LRs7 : Hid (w7.heap[w3.heap.size]? = some (.cells #[.bool (decide (l.num < 0)), .slice C1 (len l.num.natAbs) j1, .slice C2 (len (below l.den)) j2, .bool (decide (h.num < 0)), .slice C3 (len h.num.natAbs) j3, .slice C4 (len (below h.den)) j4] 53 (0, 0))) := ((Below.step (Below.step b5.out b6.out) b7.out).block _ (Array.getElem?_eq_some_iff.1 L4.out).1).trans L4.out
  have LRg7 : Hid (w7.heap[w3.heap.size + 1]? = some (.cells #[.bool (decide (g.num < 0)), .slice C5 (len g.num.natAbs) j5, .slice C6 (len (below g.den)) j6] 27 (0, 0))) := ((Below.step (Below.step b5.out b6.out) b7.out).block _ (Array.getElem?_eq_some_iff.1 M4.out).1).trans M4.out
  have HMB7 := Lib.hid (cell_keep hM.out (Below.step (Below.step (Below.step (Below.step (Below.step (Below.step b1.out b2.out) b3.out) b4.out) b5.out) b6.out) b7.out))
  have HTB7 := Lib.hid (tab_keep hT.out (Below.step (Below.step (Below.step (Below.step (Below.step (Below.step b1.out b2.out) b3.out) b4.out) b5.out) b6.out) b7.out))
  have HBB7 := Lib.hid (Below.step (Below.step (Below.step (Below.step (Below.step (Below.step b1.out b2.out) b3.out) b4.out) b5.out) b6.out) b7.out)
  clear hv2 hv3 hv6 L4 M4 hM hT b1 b2 b3 b4 b5 b6 b7
  go_wp2_with fail
  obtain ⟨NN7, hNN⟩ : ∃ n : Nat, w7.heap.size = n := ⟨_, rfl⟩
  have HSZ7 : Hid (w7.heap.size = NN7) := hNN
  have hg : w7.heap[w3.heap.size]? = some (.cells #[.bool (decide (l.num < 0)), .slice C1 (len l.num.natAbs) j1, .slice C2 (len (below l.den)) j2, .bool (decide (h.num < 0)), .slice C3 (len h.num.natAbs) j3, .slice C4 (len (below h.den)) j4] 53 (0, 0)) := ((Below.refl _ w7).block _ (Array.getElem?_eq_some_iff.1 LRs7.out).1).trans LRs7.out
  have z_s_0 : w7.cell? ⟨w3.heap.size, 0, none⟩ = some (.bool (decide (l.num < 0))) := cell_of_row _ _ _ _ _ _ hg
  have z_s_1 : w7.cell? ⟨w3.heap.size, 1, none⟩ = some (.slice C1 (len l.num.natAbs) j1) := cell_of_row _ _ _ _ _ _ hg
  have z_s_2 : w7.cell? ⟨w3.heap.size, 2, none⟩ = some (.slice C2 (len (below l.den)) j2) := cell_of_row _ _ _ _ _ _ hg
  have z_s_3 : w7.cell? ⟨w3.heap.size, 3, none⟩ = some (.bool (decide (h.num < 0))) := cell_of_row _ _ _ _ _ _ hg
  have z_s_4 : w7.cell? ⟨w3.heap.size, 4, none⟩ = some (.slice C3 (len h.num.natAbs) j3) := cell_of_row _ _ _ _ _ _ hg
  have z_s_5 : w7.cell? ⟨w3.heap.size, 5, none⟩ = some (.slice C4 (len (below h.den)) j4) := cell_of_row _ _ _ _ _ _ hg
  clear hg
  have hlt7_s : w3.heap.size < NN7 := Nat.lt_of_lt_of_eq (World.block_lt_of_cell? _ _ z_s_0) hNN
  have hg : w7.heap[w3.heap.size + 1]? = some (.cells #[.bool (decide (g.num < 0)), .slice C5 (len g.num.natAbs) j5, .slice C6 (len (below g.den)) j6] 27 (0, 0)) := ((Below.refl _ w7).block _ (Array.getElem?_eq_some_iff.1 LRg7.out).1).trans LRg7.out
  have z_g_0 : w7.cell? ⟨w3.heap.size + 1, 0, none⟩ = some (.bool (decide (g.num < 0))) := cell_of_row _ _ _ _ _ _ hg
  have z_g_1 : w7.cell? ⟨w3.heap.size + 1, 1, none⟩ = some (.slice C5 (len g.num.natAbs) j5) := cell_of_row _ _ _ _ _ _ hg
  have z_g_2 : w7.cell? ⟨w3.heap.size + 1, 2, none⟩ = some (.slice C6 (len (below g.den)) j6) := cell_of_row _ _ _ _ _ _ hg
  clear hg
  have hlt7_g : w3.heap.size + 1 < NN7 := Nat.lt_of_lt_of_eq (World.block_lt_of_cell? _ _ z_g_0) hNN
  have hg : w7.heap[w6.heap.size]? = some (.cells #[.bool (decide (o1.num < 0)), .slice C7 (len o1.num.natAbs) j7, .slice C8 (len (below o1.den)) j8, .bool (decide (o2.num < 0)), .slice C9 (len o2.num.natAbs) j9, .slice C10 (len (below o2.den)) j10] 53 (0, 0)) := ((Below.refl _ w7).block _ (Array.getElem?_eq_some_iff.1 L7.out).1).trans L7.out
  have z_o_0 : w7.cell? ⟨w6.heap.size, 0, none⟩ = some (.bool (decide (o1.num < 0))) := cell_of_row _ _ _ _ _ _ hg
  have z_o_1 : w7.cell? ⟨w6.heap.size, 1, none⟩ = some (.slice C7 (len o1.num.natAbs) j7) := cell_of_row _ _ _ _ _ _ hg
  have z_o_2 : w7.cell? ⟨w6.heap.size, 2, none⟩ = some (.slice C8 (len (below o1.den)) j8) := cell_of_row _ _ _ _ _ _ hg
  have z_o_3 : w7.cell? ⟨w6.heap.size, 3, none⟩ = some (.bool (decide (o2.num < 0))) := cell_of_row _ _ _ _ _ _ hg
  have z_o_4 : w7.cell? ⟨w6.heap.size, 4, none⟩ = some (.slice C9 (len o2.num.natAbs) j9) := cell_of_row _ _ _ _ _ _ hg
  have z_o_5 : w7.cell? ⟨w6.heap.size, 5, none⟩ = some (.slice C10 (len (below o2.den)) j10) := cell_of_row _ _ _ _ _ _ hg
  clear hg
  have hlt7_o : w6.heap.size < NN7 := Nat.lt_of_lt_of_eq (World.block_lt_of_cell? _ _ z_o_0) hNN
  have H0 := Held0.start w7 NN7
  have H0' := H0
  unfold Held0 at H0'
  refine wp_region_held_drew (S := (fun w' => (∀ b o, b < NN7 → w'.cell? ⟨b, o, none⟩ = w7.cell? ⟨b, o, none⟩) ∧ Below (NN7) w7 w' ∧ Stay w7 w')) (by kernel_rfl) ?_ (fun hHeld => ?_)
  · (try dsimp only)
    exact H0'
  obtain ⟨w8, hw8⟩ : ∃ u, u = w7.drew := ⟨_, rfl⟩
  have b8 : Hid (Below w7.heap.size w7 w8) := by rw [hw8]; exact ⟨rfl, rfl, rfl, Nat.le_refl _, fun _ _ => rfl⟩
  rw [← hw8] at hHeld H0 ⊢
  clear hw8 H0' hNN
  refine wpAnyH_take (i := 0) (v := ?vq1) (oi := ?oq1) ?eq1 ?aq1 ?bq1 ?cq1 ?dq1 ?yq1 ?sq1 ?rq1
  case eq1 => simp only [lg, lz, ls]; rfl
  case aq1 => kernel_rfl
  case bq1 => kernel_rfl
  case cq1 => kernel_rfl
  case dq1 => exact fun _ _ _ h => h
  case yq1 =>
    refine Or.inl ⟨by rfl, ?_⟩
    intro w hSw
    (try dsimp only at hSw)
    go_simp
    try with_reducible rfl
  case sq1 => assumption
  try simp only [Act.put, lt, ly, lu]
  refine wpAnyH_take (i := 1) (v := ?vq2) (oi := ?oq2) ?eq2 ?aq2 ?bq2 ?cq2 ?dq2 ?yq2 ?sq2 ?rq2
  case eq2 => simp only [lg, lz, ls]; rfl
  case aq2 => kernel_rfl
  case bq2 => kernel_rfl
  case cq2 => kernel_rfl
  case dq2 => exact fun _ _ _ h => h
  case yq2 =>
    refine Or.inl ⟨by rfl, ?_⟩
    intro w hSw
    (try dsimp only at hSw)
    go_simp
    try with_reducible rfl
  case sq2 => assumption
  try simp only [Act.put, lt, ly, lu]
  refine wpAnyH_take (i := 2) (v := ?vq3) (oi := ?oq3) ?eq3 ?aq3 ?bq3 ?cq3 ?dq3 ?yq3 ?sq3 ?rq3
  case eq3 => simp only [lg, lz, ls]; rfl
  case aq3 => kernel_rfl
  case bq3 => kernel_rfl
  case cq3 => kernel_rfl
  case dq3 => exact fun _ _ _ h => h
  case yq3 =>
    refine Or.inl ⟨by rfl, ?_⟩
    intro w hSw
    (try dsimp only at hSw)
    go_simp
    try with_reducible rfl
  case sq3 => assumption
  try simp only [Act.put, lt, ly, lu]
  refine wpAnyH_take (i := 3) (v := ?vq4) (oi := ?oq4) ?eq4 ?aq4 ?bq4 ?cq4 ?dq4 ?yq4 ?sq4 ?rq4
  case eq4 => simp only [lg, lz, ls]; rfl
  case aq4 => kernel_rfl
  case bq4 => kernel_rfl
  case cq4 => kernel_rfl
  case dq4 => exact fun _ _ _ h => h
  case yq4 =>
    refine Or.inl ⟨by rfl, ?_⟩
    intro w hSw
    (try dsimp only at hSw)
    go_simp
    try with_reducible rfl
  case sq4 => assumption
  try simp only [Act.put, lt, ly, lu]
  refine wpAnyH_take (i := 4) (v := ?vq5) (oi := ?oq5) ?eq5 ?aq5 ?bq5 ?cq5 ?dq5 ?yq5 ?sq5 ?rq5
  case eq5 => simp only [lg, lz, ls]; rfl
  case aq5 => kernel_rfl
  case bq5 => kernel_rfl
  case cq5 => kernel_rfl
  case dq5 => exact fun _ _ _ h => h
  case yq5 =>
    refine Or.inl ⟨by rfl, ?_⟩
    intro w hSw
    (try dsimp only at hSw)
    go_simp
    try with_reducible rfl
  case sq5 => assumption
  try simp only [Act.put, lt, ly, lu]
  refine wpAnyH_ready (rs := [5]) (by kernel_rfl) (by simp) ?_
  refine AllReadyH.cons (o := ?oq6) ?eq6 ?kq6 AllReadyH.nil
  case eq6 => simp only [lg, lz, ls]; rfl
  intro K hK
  go_simp
  go_at_call 45
  refine (inside_val din1.out (hRs7.out.keep b8.out) (hRo7.out.keep b8.out) z_l.out z_h.out z_o1.out z_o2.out).mono ?_
  rintro e w9 ⟨rfl, b9⟩
  replace b9 := Lib.hid b9
  have hk9 := Held0.call H0 (Nat.le_of_eq HSZ7.out.symm) b9.out
  have hk9' := hk9
  unfold Held0 at hk9'
  clear hHeld H0
  refine hK.out _ _ ?_ (fun hHeld => ?_)
  · (try dsimp only)
    with_reducible exact hk9'
  clear hK K hk9'
  try simp only [Act.put, lt, ly, lu]
  refine wpAnyH_take (i := 6) (v := ?vq7) (oi := ?oq7) ?eq7 ?aq7 ?bq7 ?cq7 ?dq7 ?yq7 ?sq7 ?rq7
  case eq7 => simp only [lg, lz, ls]; rfl
  case aq7 => kernel_rfl
  case bq7 => kernel_rfl
  case cq7 => kernel_rfl
  case dq7 => exact fun _ _ _ h => h
  case yq7 =>
    refine Or.inl ⟨by rfl, ?_⟩
    intro w hSw
    (try dsimp only at hSw)
    go_simp
    try with_reducible rfl
  case sq7 => assumption
  try simp only [Act.put, lt, ly, lu]
  refine wpAnyH_take (i := 7) (v := ?vq8) (oi := ?oq8) ?eq8 ?aq8 ?bq8 ?cq8 ?dq8 ?yq8 ?sq8 ?rq8
  case eq8 => simp only [lg, lz, ls]; rfl
  case aq8 => kernel_rfl
  case bq8 => kernel_rfl
  case cq8 => kernel_rfl
  case dq8 => exact fun _ _ _ h => h
  case yq8 =>
    refine Or.inl ⟨by rfl, ?_⟩
    intro w hSw
    (try dsimp only at hSw)
    go_simp
    try with_reducible rfl
  case sq8 => assumption
  try simp only [Act.put, lt, ly, lu]
  refine wpAnyH_take (i := 8) (v := ?vq9) (oi := ?oq9) ?eq9 ?aq9 ?bq9 ?cq9 ?dq9 ?yq9 ?sq9 ?rq9
  case eq9 => simp only [lg, lz, ls]; rfl
  case aq9 => kernel_rfl
  case bq9 => kernel_rfl
  case cq9 => kernel_rfl
  case dq9 => exact fun _ _ _ h => h
  case yq9 =>
    refine Or.inl ⟨by rfl, ?_⟩
    intro w hSw
    (try dsimp only at hSw)
    go_simp
    try with_reducible rfl
  case sq9 => assumption
  try simp only [Act.put, lt, ly, lu]
  refine wpAnyH_take (i := 9) (v := ?vq10) (oi := ?oq10) ?eq10 ?aq10 ?bq10 ?cq10 ?dq10 ?yq10 ?sq10 ?rq10
  case eq10 => simp only [lg, lz, ls]; rfl
  case aq10 => kernel_rfl
  case bq10 => kernel_rfl
  case cq10 => kernel_rfl
  case dq10 => exact fun _ _ _ h => h
  case yq10 =>
    refine Or.inl ⟨by rfl, ?_⟩
    intro w hSw
    (try dsimp only at hSw)
    go_simp
    try with_reducible rfl
  case sq10 => assumption
  try simp only [Act.put, lt, ly, lu]
  refine wpAnyH_take (i := 11) (v := ?vq11) (oi := ?oq11) ?eq11 ?aq11 ?bq11 ?cq11 ?dq11 ?yq11 ?sq11 ?rq11
  case eq11 => simp only [lg, lz, ls]; rfl
  case aq11 => kernel_rfl
  case bq11 => kernel_rfl
  case cq11 => kernel_rfl
  case dq11 => exact fun _ _ _ h => h
  case yq11 =>
    refine Or.inl ⟨by rfl, ?_⟩
    intro w hSw
    (try dsimp only at hSw)
    go_simp
    try with_reducible rfl
  case sq11 => assumption
  try simp only [Act.put, lt, ly, lu]
  refine wpAnyH_take (i := 13) (v := ?vq12) (oi := ?oq12) ?eq12 ?aq12 ?bq12 ?cq12 ?dq12 ?yq12 ?sq12 ?rq12
  case eq12 => simp only [lg, lz, ls]; rfl
  case aq12 => kernel_rfl
  case bq12 => kernel_rfl
  case cq12 => kernel_rfl
  case dq12 => exact fun _ _ _ h => h
  case yq12 =>
    refine Or.inl ⟨by rfl, ?_⟩
    intro w hSw
    (try dsimp only at hSw)
    go_simp
    try with_reducible rfl
  case sq12 => assumption
  try simp only [Act.put, lt, ly, lu]
  refine wpAnyH_ready (rs := [10]) (by kernel_rfl) (by simp) ?_
  refine AllReadyH.cons (o := ?oq13) ?eq13 ?kq13 AllReadyH.nil
  case eq13 => simp only [lg, lz, ls]; rfl
  intro K hK
  go_simp
  go_at_call 40
  refine (lo_val (hRs7.out.keep (Below.step b8.out b9.out)) z_l.out).mono ?_
  rintro e w10 ⟨v10, rfl, hv10, b10⟩
  obtain ⟨C11, j11, C12, j12, rfl, -, -⟩ := id hv10.opened
  replace hv10 := Lib.hid hv10
  replace b10 := Lib.hid b10
  have hk10 := Held0.call hk9 (Nat.le_of_eq HSZ7.out.symm) b10.out
  have hk10' := hk10
  unfold Held0 at hk10'
  clear hHeld hk9
  refine hK.out _ _ ?_ (fun hHeld => ?_)
  · (try dsimp only)
    with_reducible exact hk10'
  clear hK K hk10'
  try simp only [Act.put, lt, ly, lu]
  refine wpAnyH_ready (rs := [12]) (by kernel_rfl) (by simp) ?_
  refine AllReadyH.cons (o := ?oq14) ?eq14 ?kq14 AllReadyH.nil
  case eq14 => simp only [lg, lz, ls]; rfl
  intro K hK
  go_simp
  go_at_call 40
  refine (lo_val (hRo7.out.keep (Below.step (Below.step b8.out b9.out) b10.out)) z_o1.out).mono ?_
  rintro e w11 ⟨v11, rfl, hv11, b11⟩
  obtain ⟨C13, j13, C14, j14, rfl, -, -⟩ := id hv11.opened
  replace hv11 := Lib.hid hv11
  replace b11 := Lib.hid b11
  have hk11 := Held0.call hk10 (Nat.le_of_eq HSZ7.out.symm) b11.out
  have hk11' := hk11
  unfold Held0 at hk11'
  clear hHeld hk10
  refine hK.out _ _ ?_ (fun hHeld => ?_)
  · (try dsimp only)
    with_reducible exact hk11'
  clear hK K hk11'
  try simp only [Act.put, lt, ly, lu]
  refine wpAnyH_ready (rs := [14]) (by kernel_rfl) (by simp) ?_
  refine AllReadyH.cons (o := ?oq15) ?eq15 ?kq15 AllReadyH.nil
  case eq15 => simp only [lg, lz, ls]; rfl
  intro K hK
  go_simp
  go_at_call 14
  refine (add_val e_q1.out hv11.out (hRg7.out.keep (Below.step (Below.step (Below.step b8.out b9.out) b10.out) b11.out)) z_o1.out z_g.out).mono ?_
  rintro e w12 ⟨v12, rfl, hv12, b12⟩
  obtain ⟨C15, j15, C16, j16, rfl, -, -⟩ := id hv12.opened
  replace hv12 := Lib.hid hv12
  replace b12 := Lib.hid b12
  have hk12 := Held0.call hk11 (Nat.le_of_eq HSZ7.out.symm) b12.out
  have hk12' := hk12
  unfold Held0 at hk12'
  clear hHeld hk11
  refine hK.out _ _ ?_ (fun hHeld => ?_)
  · (try dsimp only)
    with_reducible exact hk12'
  clear hK K hk12'
  try simp only [Act.put, lt, ly, lu]
  refine wpAnyH_ready (rs := [15]) (by kernel_rfl) (by simp) ?_
  refine AllReadyH.cons (o := ?oq16) ?eq16 ?kq16 AllReadyH.nil
  case eq16 => simp only [lg, lz, ls]; rfl
  intro K hK
  go_simp
  go_at_call 21
  refine (cmp_val e_c1.out (hv10.out.keep (Below.step b11.out b12.out)) hv12.out z_l.out z_q1.out).mono ?_
  rintro e w13 ⟨rfl, b13⟩
  replace b13 := Lib.hid b13
  have hk13 := Held0.call hk12 (Nat.le_of_eq HSZ7.out.symm) b13.out
  have hk13' := hk13
  unfold Held0 at hk13'
  clear hHeld hk12
  refine hK.out _ _ ?_ (fun hHeld => ?_)
  · (try dsimp only)
    with_reducible exact hk13'
  clear hK K hk13'
  try simp only [Act.put, lt, ly, lu]
  refine wpAnyH_take (i := 16) (v := ?vq17) (oi := ?oq17) ?eq17 ?aq17 ?bq17 ?cq17 ?dq17 ?yq17 ?sq17 ?rq17
  case eq17 => simp only [lg, lz, ls]; rfl
  case aq17 => kernel_rfl
  case bq17 => kernel_rfl
  case cq17 => kernel_rfl
  case dq17 => exact fun _ _ _ h => h
  case yq17 =>
    refine Or.inl ⟨by rfl, ?_⟩
    intro w hSw
    (try dsimp only at hSw)
    go_simp
    try with_reducible rfl
  case sq17 => assumption
  try simp only [Act.put, lt, ly, lu]
  refine wpAnyH_take (i := 17) (v := ?vq18) (oi := ?oq18) ?eq18 ?aq18 ?bq18 ?cq18 ?dq18 ?yq18 ?sq18 ?rq18
  case eq18 => simp only [lg, lz, ls]; rfl
  case aq18 => kernel_rfl
  case bq18 => kernel_rfl
  case cq18 => kernel_rfl
  case dq18 => exact fun _ _ _ h => h
  case yq18 =>
    refine Or.inl ⟨by rfl, ?_⟩
    intro w hSw
    (try dsimp only at hSw)
    go_simp
    try with_reducible rfl
  case sq18 => assumption
  try simp only [Act.put, lt, ly, lu]
  refine wpAnyH_take (i := 18) (v := ?vq19) (oi := ?oq19) ?eq19 ?aq19 ?bq19 ?cq19 ?dq19 ?yq19 ?sq19 ?rq19
  case eq19 => simp only [lg, lz, ls]; rfl
  case aq19 => kernel_rfl
  case bq19 => kernel_rfl
  case cq19 => kernel_rfl
  case dq19 => exact fun _ _ _ h => h
  case yq19 =>
    refine Or.inl ⟨by rfl, ?_⟩
    intro w hSw
    (try dsimp only at hSw)
    go_simp
    try with_reducible rfl
  case sq19 => assumption
  try simp only [Act.put, lt, ly, lu]
  refine wpAnyH_take (i := 19) (v := ?vq20) (oi := ?oq20) ?eq20 ?aq20 ?bq20 ?cq20 ?dq20 ?yq20 ?sq20 ?rq20
  case eq20 => simp only [lg, lz, ls]; rfl
  case aq20 => kernel_rfl
  case bq20 => kernel_rfl
  case cq20 => kernel_rfl
  case dq20 => exact fun _ _ _ h => h
  case yq20 =>
    refine Or.inl ⟨by rfl, ?_⟩
    intro w hSw
    (try dsimp only at hSw)
    go_simp
    try with_reducible rfl
  case sq20 => assumption
  try simp only [Act.put, lt, ly, lu]
  refine wpAnyH_take (i := 21) (v := ?vq21) (oi := ?oq21) ?eq21 ?aq21 ?bq21 ?cq21 ?dq21 ?yq21 ?sq21 ?rq21
  case eq21 => simp only [lg, lz, ls]; rfl
  case aq21 => kernel_rfl
  case bq21 => kernel_rfl
  case cq21 => kernel_rfl
  case dq21 => exact fun _ _ _ h => h
  case yq21 =>
    refine Or.inl ⟨by rfl, ?_⟩
    intro w hSw
    (try dsimp only at hSw)
    go_simp
    try with_reducible rfl
  case sq21 => assumption
  try simp only [Act.put, lt, ly, lu]
  refine wpAnyH_take (i := 23) (v := ?vq22) (oi := ?oq22) ?eq22 ?aq22 ?bq22 ?cq22 ?dq22 ?yq22 ?sq22 ?rq22
  case eq22 => simp only [lg, lz, ls]; rfl
  case aq22 => kernel_rfl
  case bq22 => kernel_rfl
  case cq22 => kernel_rfl
  case dq22 => exact fun _ _ _ h => h
  case yq22 =>
    refine Or.inl ⟨by rfl, ?_⟩
    intro w hSw
    (try dsimp only at hSw)
    go_simp
    try with_reducible rfl
  case sq22 => assumption
  try simp only [Act.put, lt, ly, lu]
  refine wpAnyH_ready (rs := [20]) (by kernel_rfl) (by simp) ?_
  refine AllReadyH.cons (o := ?oq23) ?eq23 ?kq23 AllReadyH.nil
  case eq23 => simp only [lg, lz, ls]; rfl
  intro K hK
  go_simp
  go_at_call 41
  refine (hi_val (hRs7.out.keep (Below.step (Below.step (Below.step (Below.step (Below.step b8.out b9.out) b10.out) b11.out) b12.out) b13.out)) z_h.out).mono ?_
  rintro e w14 ⟨v14, rfl, hv14, b14⟩
  obtain ⟨C17, j17, C18, j18, rfl, -, -⟩ := id hv14.opened
  replace hv14 := Lib.hid hv14
  replace b14 := Lib.hid b14
  have hk14 := Held0.call hk13 (Nat.le_of_eq HSZ7.out.symm) b14.out
  have hk14' := hk14
  unfold Held0 at hk14'
  clear hHeld hk13
  refine hK.out _ _ ?_ (fun hHeld => ?_)
  · (try dsimp only)
    with_reducible exact hk14'
  clear hK K hk14'
  try simp only [Act.put, lt, ly, lu]
  refine wpAnyH_ready (rs := [22]) (by kernel_rfl) (by simp) ?_
  refine AllReadyH.cons (o := ?oq24) ?eq24 ?kq24 AllReadyH.nil
  case eq24 => simp only [lg, lz, ls]; rfl
  intro K hK
  go_simp
  go_at_call 41
  refine (hi_val (hRo7.out.keep (Below.step (Below.step (Below.step (Below.step (Below.step (Below.step b8.out b9.out) b10.out) b11.out) b12.out) b13.out) b14.out)) z_o2.out).mono ?_
  rintro e w15 ⟨v15, rfl, hv15, b15⟩
  obtain ⟨C19, j19, C20, j20, rfl, -, -⟩ := id hv15.opened
  replace hv15 := Lib.hid hv15
  replace b15 := Lib.hid b15
  have hk15 := Held0.call hk14 (Nat.le_of_eq HSZ7.out.symm) b15.out
  have hk15' := hk15
  unfold Held0 at hk15'
  clear hHeld hk14
  refine hK.out _ _ ?_ (fun hHeld => ?_)
  · (try dsimp only)
    with_reducible exact hk15'
  clear hK K hk15'
  try simp only [Act.put, lt, ly, lu]
  refine wpAnyH_ready (rs := [24]) (by kernel_rfl) (by simp) ?_
  refine AllReadyH.cons (o := ?oq25) ?eq25 ?kq25 AllReadyH.nil
  case eq25 => simp only [lg, lz, ls]; rfl
  intro K hK
  go_simp
  go_at_call 16
  refine (sub_val e_q2.out hv15.out (hRg7.out.keep (Below.step (Below.step (Below.step (Below.step (Below.step (Below.step (Below.step b8.out b9.out) b10.out) b11.out) b12.out) b13.out) b14.out) b15.out)) z_o2.out z_g.out).mono ?_
  rintro e w16 ⟨v16, rfl, hv16, b16⟩
  obtain ⟨C21, j21, C22, j22, rfl, -, -⟩ := id hv16.opened
  replace hv16 := Lib.hid hv16
  replace b16 := Lib.hid b16
  have hk16 := Held0.call hk15 (Nat.le_of_eq HSZ7.out.symm) b16.out
  have hk16' := hk16
  unfold Held0 at hk16'
  clear hHeld hk15
  refine hK.out _ _ ?_ (fun hHeld => ?_)
  · (try dsimp only)
    with_reducible exact hk16'
  clear hK K hk16'
  try simp only [Act.put, lt, ly, lu]
  refine wpAnyH_ready (rs := [25]) (by kernel_rfl) (by simp) ?_
  refine AllReadyH.cons (o := ?oq26) ?eq26 ?kq26 AllReadyH.nil
  case eq26 => simp only [lg, lz, ls]; rfl
  intro K hK
  go_simp
  go_at_call 21
  refine (cmp_val e_c2.out (hv14.out.keep (Below.step b15.out b16.out)) hv16.out z_h.out z_q2.out).mono ?_
  rintro e w17 ⟨rfl, b17⟩
  replace b17 := Lib.hid b17
  have hk17 := Held0.call hk16 (Nat.le_of_eq HSZ7.out.symm) b17.out
  have hk17' := hk17
  unfold Held0 at hk17'
  clear hHeld hk16
  refine hK.out _ _ ?_ (fun hHeld => ?_)
  · (try dsimp only)
    with_reducible exact hk17'
  clear hK K hk17'
  try simp only [Act.put, lt, ly, lu]
  refine wpAnyH_take (i := 26) (v := ?vq27) (oi := ?oq27) ?eq27 ?aq27 ?bq27 ?cq27 ?dq27 ?yq27 ?sq27 ?rq27
  case eq27 => simp only [lg, lz, ls]; rfl
  case aq27 => kernel_rfl
  case bq27 => kernel_rfl
  case cq27 => kernel_rfl
  case dq27 => exact fun _ _ _ h => h
  case yq27 =>
    refine Or.inl ⟨by rfl, ?_⟩
    intro w hSw
    (try dsimp only at hSw)
    go_simp
    try with_reducible rfl
  case sq27 => assumption
  try simp only [Act.put, lt, ly, lu]
  refine wpAnyH_take (i := 27) (v := ?vq28) (oi := ?oq28) ?eq28 ?aq28 ?bq28 ?cq28 ?dq28 ?yq28 ?sq28 ?rq28
  case eq28 => simp only [lg, lz, ls]; rfl
  case aq28 => kernel_rfl
  case bq28 => kernel_rfl
  case cq28 => kernel_rfl
  case dq28 => exact fun _ _ _ h => h
  case yq28 =>
    refine Or.inl ⟨by rfl, ?_⟩
    intro w hSw
    (try dsimp only at hSw)
    go_simp
    try with_reducible rfl
  case sq28 => assumption
  try simp only [Act.put, lt, ly, lu]
  refine wpAnyH_done (by kernel_rfl) ?_ _
  clear hHeld
  clear z_s_0 z_s_1 z_s_2 z_s_3 z_s_4 z_s_5 z_g_0 z_g_1 z_g_2 z_o_0 z_o_1 z_o_2 z_o_3 z_o_4 z_o_5 hlt7_s hlt7_g hlt7_o
  clear hk17 HSZ7
  have hRs17 := Lib.hid (hRs7.out.keep (Below.step (Below.step (Below.step (Below.step (Below.step (Below.step (Below.step (Below.step (Below.step b8.out b9.out) b10.out) b11.out) b12.out) b13.out) b14.out) b15.out) b16.out) b17.out))
  have hRg17 := Lib.hid (hRg7.out.keep (Below.step (Below.step (Below.step (Below.step (Below.step (Below.step (Below.step (Below.step (Below.step b8.out b9.out) b10.out) b11.out) b12.out) b13.out) b14.out) b15.out) b16.out) b17.out))
  have LRs17 : Hid (w17.heap[w3.heap.size]? = some (.cells #[.bool (decide (l.num < 0)), .slice C1 (len l.num.natAbs) j1, .slice C2 (len (below l.den)) j2, .bool (decide (h.num < 0)), .slice C3 (len h.num.natAbs) j3, .slice C4 (len (below h.den)) j4] 53 (0, 0))) := ((Below.step (Below.step (Below.step (Below.step (Below.step (Below.step (Below.step (Below.step (Below.step b8.out b9.out) b10.out) b11.out) b12.out) b13.out) b14.out) b15.out) b16.out) b17.out).block _ (Array.getElem?_eq_some_iff.1 LRs7.out).1).trans LRs7.out
  have LRg17 : Hid (w17.heap[w3.heap.size + 1]? = some (.cells #[.bool (decide (g.num < 0)), .slice C5 (len g.num.natAbs) j5, .slice C6 (len (below g.den)) j6] 27 (0, 0))) := ((Below.step (Below.step (Below.step (Below.step (Below.step (Below.step (Below.step (Below.step (Below.step b8.out b9.out) b10.out) b11.out) b12.out) b13.out) b14.out) b15.out) b16.out) b17.out).block _ (Array.getElem?_eq_some_iff.1 LRg7.out).1).trans LRg7.out
  have HMB17 := Lib.hid (cell_keep HMB7.out (Below.step (Below.step (Below.step (Below.step (Below.step (Below.step (Below.step (Below.step (Below.step b8.out b9.out) b10.out) b11.out) b12.out) b13.out) b14.out) b15.out) b16.out) b17.out))
  have HTB17 := Lib.hid (tab_keep HTB7.out (Below.step (Below.step (Below.step (Below.step (Below.step (Below.step (Below.step (Below.step (Below.step b8.out b9.out) b10.out) b11.out) b12.out) b13.out) b14.out) b15.out) b16.out) b17.out))
  have HBB17 := Lib.hid (Below.step HBB7.out (Below.step (Below.step (Below.step (Below.step (Below.step (Below.step (Below.step (Below.step (Below.step b8.out b9.out) b10.out) b11.out) b12.out) b13.out) b14.out) b15.out) b16.out) b17.out))
  clear hRs7 hRg7 LRs7 LRg7 HMB7 HTB7 HBB7 b8 b9 b10 b11 b12 b13 b14 b15 b16 b17
  have hg : w17.heap[w3.heap.size]? = some (.cells #[.bool (decide (l.num < 0)), .slice C1 (len l.num.natAbs) j1, .slice C2 (len (below l.den)) j2, .bool (decide (h.num < 0)), .slice C3 (len h.num.natAbs) j3, .slice C4 (len (below h.den)) j4] 53 (0, 0)) := ((Below.refl _ w17).block _ (Array.getElem?_eq_some_iff.1 LRs17.out).1).trans LRs17.out
  have z_s_0 : w17.cell? ⟨w3.heap.size, 0, none⟩ = some (.bool (decide (l.num < 0))) := cell_of_row _ _ _ _ _ _ hg
  have z_s_1 : w17.cell? ⟨w3.heap.size, 1, none⟩ = some (.slice C1 (len l.num.natAbs) j1) := cell_of_row _ _ _ _ _ _ hg
  have z_s_2 : w17.cell? ⟨w3.heap.size, 2, none⟩ = some (.slice C2 (len (below l.den)) j2) := cell_of_row _ _ _ _ _ _ hg
  have z_s_3 : w17.cell? ⟨w3.heap.size, 3, none⟩ = some (.bool (decide (h.num < 0))) := cell_of_row _ _ _ _ _ _ hg
  have z_s_4 : w17.cell? ⟨w3.heap.size, 4, none⟩ = some (.slice C3 (len h.num.natAbs) j3) := cell_of_row _ _ _ _ _ _ hg
  have z_s_5 : w17.cell? ⟨w3.heap.size, 5, none⟩ = some (.slice C4 (len (below h.den)) j4) := cell_of_row _ _ _ _ _ _ hg
  clear hg
  have HX := Lib.hid (lo_val hRs17.out z_l.out)
  go_wp2_with fail
  refine (HX.out).mono ?_
  rintro e w18 ⟨v18, rfl, hv18, b18⟩
  obtain ⟨C23, j23, C24, j24, rfl, -, -⟩ := id hv18.opened
  replace hv18 := Lib.hid hv18
  replace b18 := Lib.hid b18
  clear HX
  clear z_s_0 z_s_1 z_s_2 z_s_3 z_s_4 z_s_5
  rcases Decidable.em (nl < 0) with hneg | hneg
  · have dnl : decide (nl < 0) = true := decide_eq_true hneg
    clear hneg
    have HX := Lib.hid (sign_val enl.out hv18.out)
    go_wp2_with fail
    refine (HX.out).mono ?_
    rintro e w19 ⟨rfl, b19⟩
    replace b19 := Lib.hid b19
    clear HX
    have HX := Lib.hid (known_any (cell_keep HMB17.out (Below.step b18.out b19.out)) (tab_keep HTB17.out (Below.step b18.out b19.out)))
    go_wp2_with fail
    refine (HX.out).mono ?_
    rintro e w20 ⟨rfl, b20⟩
    replace b20 := Lib.hid b20
    clear HX
    have HE := Lib.hid (Below.step HBB17.out (Below.step (Below.step b18.out b19.out) b20.out))
    go_wp2_with fail
    go_ret
    exact ⟨rfl, HE.out⟩
  · have dnl : decide (nl < 0) = false := decide_eq_false hneg
    have hl0 : 0 ≤ l := by rw [← num_nonneg]; exact Int.sign_nonneg_iff.1 (by rw [enl.out]; omega)
    clear hneg
    have HX := Lib.hid (sign_val enl.out hv18.out)
    go_wp2_with fail
    refine (HX.out).mono ?_
    rintro e w19 ⟨rfl, b19⟩
    replace b19 := Lib.hid b19
    clear HX
    obtain ⟨r1, e_r1⟩ : ∃ z : Rat, lowRt l g = z := ⟨_, rfl⟩
    obtain ⟨r2, e_r2⟩ : ∃ z : Rat, highRt h g = z := ⟨_, rfl⟩
    obtain ⟨x, e_x⟩ : ∃ z : Rat, l + (h - l) * mkRat ((p : Nat) : Int) 255 = z := ⟨_, rfl⟩
    have hx := place_between (p := p) hp hlh.out
    rw [e_x] at hx
    obtain ⟨y1, e_y1⟩ : ∃ z : Rat, lowRt x g = z := ⟨_, rfl⟩
    obtain ⟨y2, e_y2⟩ : ∃ z : Rat, highRt x g = z := ⟨_, rfl⟩
    obtain ⟨d1, d2, d3, d4, d5, d6, d7⟩ := sq_root g0.out hl0 hx.1 hx.2 e_r1 e_r2 e_y1 e_y2
    obtain ⟨up, e_up⟩ : ∃ z : Rat, r1 + g = z := ⟨_, rfl⟩
    obtain ⟨dn, e_dn⟩ : ∃ z : Rat, r2 - g = z := ⟨_, rfl⟩
    obtain ⟨r11, e_r11⟩ : ∃ z : Rat, r1 * r1 = z := ⟨_, rfl⟩
    obtain ⟨r22, e_r22⟩ : ∃ z : Rat, r2 * r2 = z := ⟨_, rfl⟩
    obtain ⟨uu, e_uu⟩ : ∃ z : Rat, up * up = z := ⟨_, rfl⟩
    obtain ⟨dd, e_dd⟩ : ∃ z : Rat, dn * dn = z := ⟨_, rfl⟩
    obtain ⟨wd, e_wd⟩ : ∃ z : Rat, y2 - y1 = z := ⟨_, rfl⟩
    obtain ⟨gg, e_gg⟩ : ∃ z : Rat, g + g = z := ⟨_, rfl⟩
    rw [e_r11] at d2
    rw [e_r22] at d3
    rw [e_up, e_uu] at d4
    rw [e_dn, e_dd] at d5
    rw [e_wd, e_gg] at d6
    obtain ⟨nr, e_nr⟩ : ∃ z : Int, r1.num.sign = z := ⟨_, rfl⟩
    obtain ⟨c3, e_c3⟩ : ∃ z : Int, cmpQ r11 x = z := ⟨_, rfl⟩
    obtain ⟨c4, e_c4⟩ : ∃ z : Int, cmpQ r22 x = z := ⟨_, rfl⟩
    obtain ⟨c5, e_c5⟩ : ∃ z : Int, cmpQ uu l = z := ⟨_, rfl⟩
    obtain ⟨c6, e_c6⟩ : ∃ z : Int, cmpQ dd h = z := ⟨_, rfl⟩
    obtain ⟨c7, e_c7⟩ : ∃ z : Int, cmpQ wd gg = z := ⟨_, rfl⟩
    obtain ⟨nd, e_nd⟩ : ∃ z : Int, dn.num.sign = z := ⟨_, rfl⟩
    rw [e_nr] at d1
    rw [e_c3] at d2
    rw [e_c4] at d3
    rw [e_c5] at d4
    rw [e_c6] at d5
    rw [e_c7] at d6
    have zx0 : siz x ≤ 20000 := by rw [← e_x]; have i1 := siz_sub h l; have i2 := siz_ratio hp; have i3 := siz_mul (h - l) (mkRat ((p : Nat) : Int) 255); have i4 := siz_add l ((h - l) * mkRat ((p : Nat) : Int) 255); have i5 := zl0.out; have i6 := zh0.out; omega
    have zr1 : siz r1 ≤ 20000 := by rw [← e_r1]; exact Nat.le_trans (siz_low zl0.out zg0.out) (by omega)
    have zr2 : siz r2 ≤ 20000 := by rw [← e_r2]; exact Nat.le_trans (siz_high zh0.out zg0.out) (by omega)
    have zy1 : siz y1 ≤ 40000 := by rw [← e_y1]; exact Nat.le_trans (siz_low zx0 zg0.out) (by omega)
    have zy2 : siz y2 ≤ 40000 := by rw [← e_y2]; exact Nat.le_trans (siz_high zx0 zg0.out) (by omega)
    have z_r1 : Hid (siz r1 ≤ 536870912) := Nat.le_trans zr1 (by omega)
    have z_r2 : Hid (siz r2 ≤ 536870912) := Nat.le_trans zr2 (by omega)
    have z_x : Hid (siz x ≤ 536870912) := Nat.le_trans zx0 (by omega)
    have z_y1 : Hid (siz y1 ≤ 536870912) := Nat.le_trans zy1 (by omega)
    have z_y2 : Hid (siz y2 ≤ 536870912) := Nat.le_trans zy2 (by omega)
    have zup : siz up ≤ 30000 := by rw [← e_up]; have i1 := siz_add r1 g; have i2 := zg0.out; omega
    have zdn : siz dn ≤ 30000 := by rw [← e_dn]; have i1 := siz_sub r2 g; have i2 := zg0.out; omega
    have z_r11 : Hid (siz r11 ≤ 536870912) := by show _ ≤ _; rw [← e_r11]; have i1 := siz_mul r1 r1; have i2 := zg0.out; omega
    have z_r22 : Hid (siz r22 ≤ 536870912) := by show _ ≤ _; rw [← e_r22]; have i1 := siz_mul r2 r2; have i2 := zg0.out; omega
    have z_uu : Hid (siz uu ≤ 536870912) := by show _ ≤ _; rw [← e_uu]; have i1 := siz_mul up up; have i2 := zg0.out; omega
    have z_dd : Hid (siz dd ≤ 536870912) := by show _ ≤ _; rw [← e_dd]; have i1 := siz_mul dn dn; have i2 := zg0.out; omega
    have z_wd : Hid (siz wd ≤ 536870912) := by show _ ≤ _; rw [← e_wd]; have i1 := siz_sub y2 y1; have i2 := zg0.out; omega
    have z_gg : Hid (siz gg ≤ 536870912) := by show _ ≤ _; rw [← e_gg]; have i1 := siz_add g g; have i2 := zg0.out; omega
    have z_up : Hid (siz up ≤ 536870912) := Nat.le_trans zup (by omega)
    have z_dn : Hid (siz dn ≤ 536870912) := Nat.le_trans zdn (by omega)
    have hl1 : 0 ≤ l.num := num_nonneg.2 hl0
    have hx1 : 0 ≤ x.num := num_nonneg.2 (Rat.le_trans hl0 hx.1)
    replace e_r1 := Lib.hid e_r1
    replace e_r2 := Lib.hid e_r2
    replace e_x := Lib.hid e_x
    replace e_y1 := Lib.hid e_y1
    replace e_y2 := Lib.hid e_y2
    replace e_up := Lib.hid e_up
    replace e_dn := Lib.hid e_dn
    replace e_r11 := Lib.hid e_r11
    replace e_r22 := Lib.hid e_r22
    replace e_uu := Lib.hid e_uu
    replace e_dd := Lib.hid e_dd
    replace e_wd := Lib.hid e_wd
    replace e_gg := Lib.hid e_gg
    replace e_nr := Lib.hid e_nr
    replace e_c3 := Lib.hid e_c3
    replace e_c4 := Lib.hid e_c4
    replace e_c5 := Lib.hid e_c5
    replace e_c6 := Lib.hid e_c6
    replace e_c7 := Lib.hid e_c7
    replace e_nd := Lib.hid e_nd
    replace hl1 := Lib.hid hl1
    replace hx1 := Lib.hid hx1
    replace zx0 := Lib.hid zx0
    replace d5 := Lib.hid d5
    replace d7 := Lib.hid d7
    clear hl0 hx zr1 zr2 zy1 zy2 zup zdn
    have hg : w19.heap[w3.heap.size]? = some (.cells #[.bool (decide (l.num < 0)), .slice C1 (len l.num.natAbs) j1, .slice C2 (len (below l.den)) j2, .bool (decide (h.num < 0)), .slice C3 (len h.num.natAbs) j3, .slice C4 (len (below h.den)) j4] 53 (0, 0)) := ((Below.step b18.out b19.out).block _ (Array.getElem?_eq_some_iff.1 LRs17.out).1).trans LRs17.out
    have z_s_0 : w19.cell? ⟨w3.heap.size, 0, none⟩ = some (.bool (decide (l.num < 0))) := cell_of_row _ _ _ _ _ _ hg
    have z_s_1 : w19.cell? ⟨w3.heap.size, 1, none⟩ = some (.slice C1 (len l.num.natAbs) j1) := cell_of_row _ _ _ _ _ _ hg
    have z_s_2 : w19.cell? ⟨w3.heap.size, 2, none⟩ = some (.slice C2 (len (below l.den)) j2) := cell_of_row _ _ _ _ _ _ hg
    have z_s_3 : w19.cell? ⟨w3.heap.size, 3, none⟩ = some (.bool (decide (h.num < 0))) := cell_of_row _ _ _ _ _ _ hg
    have z_s_4 : w19.cell? ⟨w3.heap.size, 4, none⟩ = some (.slice C3 (len h.num.natAbs) j3) := cell_of_row _ _ _ _ _ _ hg
    have z_s_5 : w19.cell? ⟨w3.heap.size, 5, none⟩ = some (.slice C4 (len (below h.den)) j4) := cell_of_row _ _ _ _ _ _ hg
    clear hg
    have hg : w19.heap[w3.heap.size + 1]? = some (.cells #[.bool (decide (g.num < 0)), .slice C5 (len g.num.natAbs) j5, .slice C6 (len (below g.den)) j6] 27 (0, 0)) := ((Below.step b18.out b19.out).block _ (Array.getElem?_eq_some_iff.1 LRg17.out).1).trans LRg17.out
    have z_g_0 : w19.cell? ⟨w3.heap.size + 1, 0, none⟩ = some (.bool (decide (g.num < 0))) := cell_of_row _ _ _ _ _ _ hg
    have z_g_1 : w19.cell? ⟨w3.heap.size + 1, 1, none⟩ = some (.slice C5 (len g.num.natAbs) j5) := cell_of_row _ _ _ _ _ _ hg
    have z_g_2 : w19.cell? ⟨w3.heap.size + 1, 2, none⟩ = some (.slice C6 (len (below g.den)) j6) := cell_of_row _ _ _ _ _ _ hg
    clear hg
    have HX := Lib.hid (root_val' e_r1.out e_r2.out (hRs17.out.keep (Below.step b18.out b19.out)) (hRg17.out.keep (Below.step b18.out b19.out)) (Nat.le_trans zl0.out (by omega)) (Nat.le_trans zh0.out (by omega)) (Nat.le_trans zg0.out (by omega)) hg.out hl1.out)
    go_wp2_with fail
    refine (HX.out).mono ?_
    rintro e w20 ⟨v20, rfl, hv20, b20⟩
    obtain ⟨C25, j25, C26, j26, C27, j27, C28, j28, rfl, hp20, hq20⟩ := id hv20.opened
    replace hv20 := Lib.hid hv20
    clear hp20 hq20
    replace b20 := Lib.hid b20
    clear HX
    clear z_s_0 z_s_1 z_s_2 z_s_3 z_s_4 z_s_5 z_g_0 z_g_1 z_g_2
    go_upto_region 12 with fail
    obtain ⟨w21, hw21⟩ : ∃ u, u = w20.alloc (.cells #[.bool (decide (r1.num < 0)), .slice C25 (len r1.num.natAbs) j25, .slice C26 (len (below r1.den)) j26, .bool (decide (r2.num < 0)), .slice C27 (len r2.num.natAbs) j27, .slice C28 (len (below r2.den)) j28] 53) := ⟨_, rfl⟩
    have b21 : Hid (Below w20.heap.size w20 w21) := by rw [hw21]; exact (Below.refl _ _).alloc (Nat.le_refl _) _
    have L21 : Hid (w21.heap[w20.heap.size]? = some (.cells #[.bool (decide (r1.num < 0)), .slice C25 (len r1.num.natAbs) j25, .slice C26 (len (below r1.den)) j26, .bool (decide (r2.num < 0)), .slice C27 (len r2.num.natAbs) j27, .slice C28 (len (below r2.den)) j28] 53 (0, 0))) := by rw [hw21]; exact heap_alloc_new w20 _
    rw [← hw21]
    clear hw21
    have hg : w21.heap[w20.heap.size]? = some (.cells #[.bool (decide (r1.num < 0)), .slice C25 (len r1.num.natAbs) j25, .slice C26 (len (below r1.den)) j26, .bool (decide (r2.num < 0)), .slice C27 (len r2.num.natAbs) j27, .slice C28 (len (below r2.den)) j28] 53 (0, 0)) := ((Below.refl _ w21).block _ (Array.getElem?_eq_some_iff.1 L21.out).1).trans L21.out
    have z_r_0 : w21.cell? ⟨w20.heap.size, 0, none⟩ = some (.bool (decide (r1.num < 0))) := cell_of_row _ _ _ _ _ _ hg
    have z_r_1 : w21.cell? ⟨w20.heap.size, 1, none⟩ = some (.slice C25 (len r1.num.natAbs) j25) := cell_of_row _ _ _ _ _ _ hg
    have z_r_2 : w21.cell? ⟨w20.heap.size, 2, none⟩ = some (.slice C26 (len (below r1.den)) j26) := cell_of_row _ _ _ _ _ _ hg
    have z_r_3 : w21.cell? ⟨w20.heap.size, 3, none⟩ = some (.bool (decide (r2.num < 0))) := cell_of_row _ _ _ _ _ _ hg
    have z_r_4 : w21.cell? ⟨w20.heap.size, 4, none⟩ = some (.slice C27 (len r2.num.natAbs) j27) := cell_of_row _ _ _ _ _ _ hg
    have z_r_5 : w21.cell? ⟨w20.heap.size, 5, none⟩ = some (.slice C28 (len (below r2.den)) j28) := cell_of_row _ _ _ _ _ _ hg
    clear hg
    have HX := Lib.hid (lo_val (hv20.out.keep b21.out) z_r1.out)
    go_wp2_with fail
    refine (HX.out).mono ?_
    rintro e w22 ⟨v22, rfl, hv22, b22⟩
    obtain ⟨C29, j29, C30, j30, rfl, -, -⟩ := id hv22.opened
    replace hv22 := Lib.hid hv22
    replace b22 := Lib.hid b22
    clear HX
    clear z_r_0 z_r_1 z_r_2 z_r_3 z_r_4 z_r_5
    have HX := Lib.hid (sign_val e_nr.out hv22.out)
    go_wp2_with fail
    refine (HX.out).mono ?_
    rintro e w23 ⟨rfl, b23⟩
    replace b23 := Lib.hid b23
    clear HX
    have hRs23 := Lib.hid (hRs17.out.keep (Below.step (Below.step (Below.step (Below.step (Below.step b18.out b19.out) b20.out) b21.out) b22.out) b23.out))
    have hRg23 := Lib.hid (hRg17.out.keep (Below.step (Below.step (Below.step (Below.step (Below.step b18.out b19.out) b20.out) b21.out) b22.out) b23.out))
    have hRr23 := Lib.hid (hv20.out.keep (Below.step (Below.step b21.out b22.out) b23.out))
    have LRs23 : Hid (w23.heap[w3.heap.size]? = some (.cells #[.bool (decide (l.num < 0)), .slice C1 (len l.num.natAbs) j1, .slice C2 (len (below l.den)) j2, .bool (decide (h.num < 0)), .slice C3 (len h.num.natAbs) j3, .slice C4 (len (below h.den)) j4] 53 (0, 0))) := ((Below.step (Below.step (Below.step (Below.step (Below.step b18.out b19.out) b20.out) b21.out) b22.out) b23.out).block _ (Array.getElem?_eq_some_iff.1 LRs17.out).1).trans LRs17.out
    have LRg23 : Hid (w23.heap[w3.heap.size + 1]? = some (.cells #[.bool (decide (g.num < 0)), .slice C5 (len g.num.natAbs) j5, .slice C6 (len (below g.den)) j6] 27 (0, 0))) := ((Below.step (Below.step (Below.step (Below.step (Below.step b18.out b19.out) b20.out) b21.out) b22.out) b23.out).block _ (Array.getElem?_eq_some_iff.1 LRg17.out).1).trans LRg17.out
    have LRr23 : Hid (w23.heap[w20.heap.size]? = some (.cells #[.bool (decide (r1.num < 0)), .slice C25 (len r1.num.natAbs) j25, .slice C26 (len (below r1.den)) j26, .bool (decide (r2.num < 0)), .slice C27 (len r2.num.natAbs) j27, .slice C28 (len (below r2.den)) j28] 53 (0, 0))) := ((Below.step b22.out b23.out).block _ (Array.getElem?_eq_some_iff.1 L21.out).1).trans L21.out
    have HMB23 := Lib.hid (cell_keep HMB17.out (Below.step (Below.step (Below.step (Below.step (Below.step b18.out b19.out) b20.out) b21.out) b22.out) b23.out))
    have HTB23 := Lib.hid (tab_keep HTB17.out (Below.step (Below.step (Below.step (Below.step (Below.step b18.out b19.out) b20.out) b21.out) b22.out) b23.out))
    have HBB23 := Lib.hid (Below.step HBB17.out (Below.step (Below.step (Below.step (Below.step (Below.step b18.out b19.out) b20.out) b21.out) b22.out) b23.out))
    clear hRs17 hRg17 hv20 LRs17 LRg17 L21 HMB17 HTB17 HBB17 b18 b19 b20 b21 b22 b23
    go_wp2_with fail
    obtain ⟨NN14, hNN⟩ : ∃ n : Nat, w23.heap.size = n := ⟨_, rfl⟩
    have HSZ14 : Hid (w23.heap.size = NN14) := hNN
    have hg : w23.heap[w3.heap.size]? = some (.cells #[.bool (decide (l.num < 0)), .slice C1 (len l.num.natAbs) j1, .slice C2 (len (below l.den)) j2, .bool (decide (h.num < 0)), .slice C3 (len h.num.natAbs) j3, .slice C4 (len (below h.den)) j4] 53 (0, 0)) := ((Below.refl _ w23).block _ (Array.getElem?_eq_some_iff.1 LRs23.out).1).trans LRs23.out
    have z_s_0 : w23.cell? ⟨w3.heap.size, 0, none⟩ = some (.bool (decide (l.num < 0))) := cell_of_row _ _ _ _ _ _ hg
    have z_s_1 : w23.cell? ⟨w3.heap.size, 1, none⟩ = some (.slice C1 (len l.num.natAbs) j1) := cell_of_row _ _ _ _ _ _ hg
    have z_s_2 : w23.cell? ⟨w3.heap.size, 2, none⟩ = some (.slice C2 (len (below l.den)) j2) := cell_of_row _ _ _ _ _ _ hg
    have z_s_3 : w23.cell? ⟨w3.heap.size, 3, none⟩ = some (.bool (decide (h.num < 0))) := cell_of_row _ _ _ _ _ _ hg
    have z_s_4 : w23.cell? ⟨w3.heap.size, 4, none⟩ = some (.slice C3 (len h.num.natAbs) j3) := cell_of_row _ _ _ _ _ _ hg
    have z_s_5 : w23.cell? ⟨w3.heap.size, 5, none⟩ = some (.slice C4 (len (below h.den)) j4) := cell_of_row _ _ _ _ _ _ hg
    clear hg
    have hlt14_s : w3.heap.size < NN14 := Nat.lt_of_lt_of_eq (World.block_lt_of_cell? _ _ z_s_0) hNN
    have hg : w23.heap[w20.heap.size]? = some (.cells #[.bool (decide (r1.num < 0)), .slice C25 (len r1.num.natAbs) j25, .slice C26 (len (below r1.den)) j26, .bool (decide (r2.num < 0)), .slice C27 (len r2.num.natAbs) j27, .slice C28 (len (below r2.den)) j28] 53 (0, 0)) := ((Below.refl _ w23).block _ (Array.getElem?_eq_some_iff.1 LRr23.out).1).trans LRr23.out
    have z_r_0 : w23.cell? ⟨w20.heap.size, 0, none⟩ = some (.bool (decide (r1.num < 0))) := cell_of_row _ _ _ _ _ _ hg
    have z_r_1 : w23.cell? ⟨w20.heap.size, 1, none⟩ = some (.slice C25 (len r1.num.natAbs) j25) := cell_of_row _ _ _ _ _ _ hg
    have z_r_2 : w23.cell? ⟨w20.heap.size, 2, none⟩ = some (.slice C26 (len (below r1.den)) j26) := cell_of_row _ _ _ _ _ _ hg
    have z_r_3 : w23.cell? ⟨w20.heap.size, 3, none⟩ = some (.bool (decide (r2.num < 0))) := cell_of_row _ _ _ _ _ _ hg
    have z_r_4 : w23.cell? ⟨w20.heap.size, 4, none⟩ = some (.slice C27 (len r2.num.natAbs) j27) := cell_of_row _ _ _ _ _ _ hg
    have z_r_5 : w23.cell? ⟨w20.heap.size, 5, none⟩ = some (.slice C28 (len (below r2.den)) j28) := cell_of_row _ _ _ _ _ _ hg
    clear hg
    have hlt14_r : w20.heap.size < NN14 := Nat.lt_of_lt_of_eq (World.block_lt_of_cell? _ _ z_r_0) hNN
    have hg : w23.heap[w3.heap.size + 1]? = some (.cells #[.bool (decide (g.num < 0)), .slice C5 (len g.num.natAbs) j5, .slice C6 (len (below g.den)) j6] 27 (0, 0)) := ((Below.refl _ w23).block _ (Array.getElem?_eq_some_iff.1 LRg23.out).1).trans LRg23.out
    have z_g_0 : w23.cell? ⟨w3.heap.size + 1, 0, none⟩ = some (.bool (decide (g.num < 0))) := cell_of_row _ _ _ _ _ _ hg
    have z_g_1 : w23.cell? ⟨w3.heap.size + 1, 1, none⟩ = some (.slice C5 (len g.num.natAbs) j5) := cell_of_row _ _ _ _ _ _ hg
    have z_g_2 : w23.cell? ⟨w3.heap.size + 1, 2, none⟩ = some (.slice C6 (len (below g.den)) j6) := cell_of_row _ _ _ _ _ _ hg
    clear hg
    have hlt14_g : w3.heap.size + 1 < NN14 := Nat.lt_of_lt_of_eq (World.block_lt_of_cell? _ _ z_g_0) hNN
    have H0 := Held0.start w23 NN14
    refine wp_region_held_drew (S := (fun w' => (∀ b o, b < NN14 → w'.cell? ⟨b, o, none⟩ = w23.cell? ⟨b, o, none⟩))) (by kernel_rfl) ?_ (fun hHeld => ?_)
    · (try dsimp only)
      exact H0.1
    obtain ⟨wd14, hwd⟩ : ∃ u, u = w23.drew := ⟨_, rfl⟩
    rw [← hwd] at hHeld H0 ⊢
    clear hwd hNN
    refine wpAnyH_take (i := 0) (v := ?vq29) (oi := ?oq29) ?eq29 ?aq29 ?bq29 ?cq29 ?dq29 ?yq29 ?sq29 ?rq29
    case eq29 => simp only [lg, lz, ls]; rfl
    case aq29 => kernel_rfl
    case bq29 => kernel_rfl
    case cq29 => kernel_rfl
    case dq29 => exact fun _ _ _ h => h
    case yq29 =>
      refine Or.inl ⟨by rfl, ?_⟩
      intro w hSw
      (try dsimp only at hSw)
      go_simp
      try with_reducible rfl
    case sq29 => assumption
    try simp only [Act.put, lt, ly, lu]
    refine wpAnyH_take (i := 1) (v := ?vq30) (oi := ?oq30) ?eq30 ?aq30 ?bq30 ?cq30 ?dq30 ?yq30 ?sq30 ?rq30
    case eq30 => simp only [lg, lz, ls]; rfl
    case aq30 => kernel_rfl
    case bq30 => kernel_rfl
    case cq30 => kernel_rfl
    case dq30 => exact fun _ _ _ h => h
    case yq30 =>
      refine Or.inl ⟨by rfl, ?_⟩
      intro w hSw
      (try dsimp only at hSw)
      go_simp
      try with_reducible rfl
    case sq30 => assumption
    try simp only [Act.put, lt, ly, lu]
    refine wpAnyH_take (i := 3) (v := ?vq31) (oi := ?oq31) ?eq31 ?aq31 ?bq31 ?cq31 ?dq31 ?yq31 ?sq31 ?rq31
    case eq31 => simp only [lg, lz, ls]; rfl
    case aq31 => kernel_rfl
    case bq31 => kernel_rfl
    case cq31 => kernel_rfl
    case dq31 => exact fun _ _ _ h => h
    case yq31 =>
      refine Or.inl ⟨by rfl, ?_⟩
      intro w hSw
      (try dsimp only at hSw)
      go_simp
      try with_reducible rfl
    case sq31 => assumption
    try simp only [Act.put, lt, ly, lu]
    refine wpAnyH_take (i := 5) (v := ?vq32) (oi := ?oq32) ?eq32 ?aq32 ?bq32 ?cq32 ?dq32 ?yq32 ?sq32 ?rq32
    case eq32 => simp only [lg, lz, ls]; rfl
    case aq32 => kernel_rfl
    case bq32 => kernel_rfl
    case cq32 => kernel_rfl
    case dq32 => exact fun _ _ _ h => h
    case yq32 =>
      refine Or.inl ⟨by rfl, ?_⟩
      intro w hSw
      (try dsimp only at hSw)
      go_simp
      try with_reducible rfl
    case sq32 => assumption
    try simp only [Act.put, lt, ly, lu]
    refine wpAnyH_take (i := 7) (v := ?vq33) (oi := ?oq33) ?eq33 ?aq33 ?bq33 ?cq33 ?dq33 ?yq33 ?sq33 ?rq33
    case eq33 => simp only [lg, lz, ls]; rfl
    case aq33 => kernel_rfl
    case bq33 => kernel_rfl
    case cq33 => kernel_rfl
    case dq33 => exact fun _ _ _ h => h
    case yq33 =>
      refine Or.inl ⟨by rfl, ?_⟩
      intro w hSw
      (try dsimp only at hSw)
      go_simp
      try with_reducible rfl
    case sq33 => assumption
    try simp only [Act.put, lt, ly, lu]
    refine wpAnyH_take (i := 9) (v := ?vq34) (oi := ?oq34) ?eq34 ?aq34 ?bq34 ?cq34 ?dq34 ?yq34 ?sq34 ?rq34
    case eq34 => simp only [lg, lz, ls]; rfl
    case aq34 => kernel_rfl
    case bq34 => kernel_rfl
    case cq34 => kernel_rfl
    case dq34 => exact fun _ _ _ h => h
    case yq34 =>
      refine Or.inl ⟨by rfl, ?_⟩
      intro w hSw
      (try dsimp only at hSw)
      go_simp
      try with_reducible rfl
    case sq34 => assumption
    try simp only [Act.put, lt, ly, lu]
    generalize hF14 : wpAnyH _ _ _ _ _ = F14
    replace hF14 := Lib.hid hF14
    refine letters ?_
    intro A14 hA14
    replace hA14 := Lib.hid hA14
    have H0h := Lib.hid H0
    clear H0 hHeld
    have st5_121314 : ∀ (L : Array Bool) (u : World) (v95 v97 v99 v101 v103 : Value) (n12 n13 n14 : Nat), L = #[true, true, true, true, true, true, true, true, true, true, true, true, true, true, false, false, false] → Hid (Held0 w23 NN14 w23 u) → Hid (IsNum u v95 x) → Hid (IsNum u v99 up) → Hid (IsNum u v103 dn) → Hid (Loc u n12 ⟨false, none, 0, 0, none, 0, 0⟩) → NN14 ≤ n12 → Hid (Loc u n13 ⟨false, none, 0, 0, none, 0, 0⟩) → NN14 ≤ n13 → Hid (Loc u n14 ⟨false, none, 0, 0, none, 0, 0⟩) → NN14 ≤ n14 → n12 ≠ n13 → n12 ≠ n14 → n13 ≠ n14 → F14 3 L (Act.put (Act.put (Act.put (Act.put (Act.put (Act.put (Act.put (Act.put A14 (some 12) (.pointer (some ⟨n12, 0, none⟩))) (some 13) (.pointer (some ⟨n13, 0, none⟩))) (some 14) (.pointer (some ⟨n14, 0, none⟩))) (some 95) v95) (some 97) v97) (some 99) v99) (some 101) v101) (some 103) v103) u := by
      intro L u v95 v97 v99 v101 v103 n12 n13 n14 hLL HK I95 I99 I103 Z12 g12 Z13 g13 Z14 g14 ne1213 ne1214 ne1314
      subst hLL
      rw [← hF14.out, ← hA14.out]
      try simp only [Act.put, lt, ly, lu]
      obtain ⟨X1, x1, X2, x2, rfl, -, -⟩ := id I95.out.opened
      obtain ⟨U1, u1, U2, u2, rfl, -, -⟩ := id I99.out.opened
      obtain ⟨D1, d1x, D2, d2x, rfl, -, -⟩ := id I103.out.opened
      refine wpAnyH_ready (rs := [14]) (by kernel_rfl) (by simp) ?_
      refine AllReadyH.cons (o := ?o14z) ?e14z ?k14z AllReadyH.nil
      case e14z => simp only [lg, lz, ls]; rfl
      intro K hK
      have q0 := Z12.out.c0
      have q1 := Z12.out.c1'
      have q2 := Z12.out.c2'
      have F0 := Z12.out.fr 0
      have F1 := Z12.out.fr 1
      have F2 := Z12.out.fr 2
      go_simp
      clear q0 q1 q2 F0 F1 F2
      obtain ⟨uu12, hw⟩ : ∃ z, z = (((u.setCell ⟨n12, 0, none⟩ (.bool (decide (x.num < 0)))).setCell ⟨n12, 1, none⟩ (.slice X1 (len x.num.natAbs) x1)).setCell ⟨n12, 2, none⟩ (.slice X2 (len (below x.den)) x2)) := ⟨_, rfl⟩
      have hw' : uu12 = put3 u n12 ⟨decide (x.num < 0), X1, len x.num.natAbs, x1, X2, len (below x.den), x2⟩ := hw
      have HK12 : Hid (Held0 w23 NN14 w23 uu12) := by rw [hw']; exact Held0.put3 HK.out Z12.out g12
      have Z12_12 : Hid (Loc uu12 n12 ⟨decide (x.num < 0), X1, len x.num.natAbs, x1, X2, len (below x.den), x2⟩) := by rw [hw']; exact Z12.out.put3
      have I12_12 : Hid (IsNum uu12 (.agg #[.bool (decide (x.num < 0)), .slice X1 (len x.num.natAbs) x1, .slice X2 (len (below x.den)) x2]) x) := by rw [hw']; exact IsNum.put3 I95.out Z12.out
      have Z13_12 : Hid (Loc uu12 n13 ⟨false, none, 0, 0, none, 0, 0⟩) := by rw [hw']; exact Z13.out.put3o (Ne.symm ne1213)
      have I13_12 : Hid (IsNum uu12 (.agg #[.bool (decide (up.num < 0)), .slice U1 (len up.num.natAbs) u1, .slice U2 (len (below up.den)) u2]) up) := by rw [hw']; exact IsNum.put3 I99.out Z12.out
      have Z14_12 : Hid (Loc uu12 n14 ⟨false, none, 0, 0, none, 0, 0⟩) := by rw [hw']; exact Z14.out.put3o (Ne.symm ne1214)
      have I14_12 : Hid (IsNum uu12 (.agg #[.bool (decide (dn.num < 0)), .slice D1 (len dn.num.natAbs) d1x, .slice D2 (len (below dn.den)) d2x]) dn) := by rw [hw']; exact IsNum.put3 I103.out Z12.out
      rw [← hw]
      refine hK.out _ _ ?_ (fun hHeld => ?_)
      · (try dsimp only)
        exact HK12.out.1
      clear hK K hw hw' hHeld HK Z12 Z13 Z14 I95 I99 I103
      try simp only [Act.put, lt, ly, lu]
      refine wpAnyH_ready (rs := [15]) (by kernel_rfl) (by simp) ?_
      refine AllReadyH.cons (o := ?o15z) ?e15z ?k15z AllReadyH.nil
      case e15z => simp only [lg, lz, ls]; rfl
      intro K hK
      have q0 := Z13_12.out.c0
      have q1 := Z13_12.out.c1'
      have q2 := Z13_12.out.c2'
      have F0 := Z13_12.out.fr 0
      have F1 := Z13_12.out.fr 1
      have F2 := Z13_12.out.fr 2
      go_simp
      clear q0 q1 q2 F0 F1 F2
      obtain ⟨uu13, hw⟩ : ∃ z, z = (((uu12.setCell ⟨n13, 0, none⟩ (.bool (decide (up.num < 0)))).setCell ⟨n13, 1, none⟩ (.slice U1 (len up.num.natAbs) u1)).setCell ⟨n13, 2, none⟩ (.slice U2 (len (below up.den)) u2)) := ⟨_, rfl⟩
      have hw' : uu13 = put3 uu12 n13 ⟨decide (up.num < 0), U1, len up.num.natAbs, u1, U2, len (below up.den), u2⟩ := hw
      have HK13 : Hid (Held0 w23 NN14 w23 uu13) := by rw [hw']; exact Held0.put3 HK12.out Z13_12.out g13
      have Z12_13 : Hid (Loc uu13 n12 ⟨decide (x.num < 0), X1, len x.num.natAbs, x1, X2, len (below x.den), x2⟩) := by rw [hw']; exact Z12_12.out.put3o ne1213
      have I12_13 : Hid (IsNum uu13 (.agg #[.bool (decide (x.num < 0)), .slice X1 (len x.num.natAbs) x1, .slice X2 (len (below x.den)) x2]) x) := by rw [hw']; exact IsNum.put3 I12_12.out Z13_12.out
      have Z13_13 : Hid (Loc uu13 n13 ⟨decide (up.num < 0), U1, len up.num.natAbs, u1, U2, len (below up.den), u2⟩) := by rw [hw']; exact Z13_12.out.put3
      have I13_13 : Hid (IsNum uu13 (.agg #[.bool (decide (up.num < 0)), .slice U1 (len up.num.natAbs) u1, .slice U2 (len (below up.den)) u2]) up) := by rw [hw']; exact IsNum.put3 I13_12.out Z13_12.out
      have Z14_13 : Hid (Loc uu13 n14 ⟨false, none, 0, 0, none, 0, 0⟩) := by rw [hw']; exact Z14_12.out.put3o (Ne.symm ne1314)
      have I14_13 : Hid (IsNum uu13 (.agg #[.bool (decide (dn.num < 0)), .slice D1 (len dn.num.natAbs) d1x, .slice D2 (len (below dn.den)) d2x]) dn) := by rw [hw']; exact IsNum.put3 I14_12.out Z13_12.out
      rw [← hw]
      refine hK.out _ _ ?_ (fun hHeld => ?_)
      · (try dsimp only)
        exact HK13.out.1
      clear hK K hw hw' hHeld HK12 Z12_12 Z13_12 Z14_12 I12_12 I13_12 I14_12
      try simp only [Act.put, lt, ly, lu]
      refine wpAnyH_ready (rs := [16]) (by kernel_rfl) (by simp) ?_
      refine AllReadyH.cons (o := ?o16z) ?e16z ?k16z AllReadyH.nil
      case e16z => simp only [lg, lz, ls]; rfl
      intro K hK
      have q0 := Z14_13.out.c0
      have q1 := Z14_13.out.c1'
      have q2 := Z14_13.out.c2'
      have F0 := Z14_13.out.fr 0
      have F1 := Z14_13.out.fr 1
      have F2 := Z14_13.out.fr 2
      go_simp
      clear q0 q1 q2 F0 F1 F2
      obtain ⟨uu14, hw⟩ : ∃ z, z = (((uu13.setCell ⟨n14, 0, none⟩ (.bool (decide (dn.num < 0)))).setCell ⟨n14, 1, none⟩ (.slice D1 (len dn.num.natAbs) d1x)).setCell ⟨n14, 2, none⟩ (.slice D2 (len (below dn.den)) d2x)) := ⟨_, rfl⟩
      have hw' : uu14 = put3 uu13 n14 ⟨decide (dn.num < 0), D1, len dn.num.natAbs, d1x, D2, len (below dn.den), d2x⟩ := hw
      have HK14 : Hid (Held0 w23 NN14 w23 uu14) := by rw [hw']; exact Held0.put3 HK13.out Z14_13.out g14
      have Z12_14 : Hid (Loc uu14 n12 ⟨decide (x.num < 0), X1, len x.num.natAbs, x1, X2, len (below x.den), x2⟩) := by rw [hw']; exact Z12_13.out.put3o ne1214
      have I12_14 : Hid (IsNum uu14 (.agg #[.bool (decide (x.num < 0)), .slice X1 (len x.num.natAbs) x1, .slice X2 (len (below x.den)) x2]) x) := by rw [hw']; exact IsNum.put3 I12_13.out Z14_13.out
      have Z13_14 : Hid (Loc uu14 n13 ⟨decide (up.num < 0), U1, len up.num.natAbs, u1, U2, len (below up.den), u2⟩) := by rw [hw']; exact Z13_13.out.put3o ne1314
      have I13_14 : Hid (IsNum uu14 (.agg #[.bool (decide (up.num < 0)), .slice U1 (len up.num.natAbs) u1, .slice U2 (len (below up.den)) u2]) up) := by rw [hw']; exact IsNum.put3 I13_13.out Z14_13.out
      have Z14_14 : Hid (Loc uu14 n14 ⟨decide (dn.num < 0), D1, len dn.num.natAbs, d1x, D2, len (below dn.den), d2x⟩) := by rw [hw']; exact Z14_13.out.put3
      have I14_14 : Hid (IsNum uu14 (.agg #[.bool (decide (dn.num < 0)), .slice D1 (len dn.num.natAbs) d1x, .slice D2 (len (below dn.den)) d2x]) dn) := by rw [hw']; exact IsNum.put3 I14_13.out Z14_13.out
      rw [← hw]
      refine hK.out _ _ ?_ (fun hHeld => ?_)
      · (try dsimp only)
        exact HK14.out.1
      clear hK K hw hw' hHeld HK13 Z12_13 Z13_13 Z14_13 I12_13 I13_13 I14_13
      try simp only [Act.put, lt, ly, lu]
      refine wpAnyH_done (by kernel_rfl) ?_ _
      obtain ⟨w24, hwq⟩ : ∃ z, z = uu14 := ⟨_, rfl⟩
      rw [← hwq] at HK14 Z12_14 Z13_14 Z14_14 I12_14 I13_14 I14_14 ⊢
      clear hwq
      have b24 : Hid (Below w23.heap.size w23 w24) := below_eq HK14.out.2.1 HSZ14.out
      have LB12 : Hid (w24.heap[n12]? = some (.cells #[.bool (decide (x.num < 0)), .slice X1 (len x.num.natAbs) x1, .slice X2 (len (below x.den)) x2] 27 (0, 0))) := Z12_14.out
      clear Z12_14
      have LB13 : Hid (w24.heap[n13]? = some (.cells #[.bool (decide (up.num < 0)), .slice U1 (len up.num.natAbs) u1, .slice U2 (len (below up.den)) u2] 27 (0, 0))) := Z13_14.out
      clear Z13_14
      have LB14 : Hid (w24.heap[n14]? = some (.cells #[.bool (decide (dn.num < 0)), .slice D1 (len dn.num.natAbs) d1x, .slice D2 (len (below dn.den)) d2x] 27 (0, 0))) := Z14_14.out
      clear Z14_14
      have hRs24 := Lib.hid (hRs23.out.keep b24.out)
      have hRr24 := Lib.hid (hRr23.out.keep b24.out)
      have hRg24 := Lib.hid (hRg23.out.keep b24.out)
      have LRs24 : Hid (w24.heap[w3.heap.size]? = some (.cells #[.bool (decide (l.num < 0)), .slice C1 (len l.num.natAbs) j1, .slice C2 (len (below l.den)) j2, .bool (decide (h.num < 0)), .slice C3 (len h.num.natAbs) j3, .slice C4 (len (below h.den)) j4] 53 (0, 0))) := (b24.out.block _ (Array.getElem?_eq_some_iff.1 LRs23.out).1).trans LRs23.out
      have LRr24 : Hid (w24.heap[w20.heap.size]? = some (.cells #[.bool (decide (r1.num < 0)), .slice C25 (len r1.num.natAbs) j25, .slice C26 (len (below r1.den)) j26, .bool (decide (r2.num < 0)), .slice C27 (len r2.num.natAbs) j27, .slice C28 (len (below r2.den)) j28] 53 (0, 0))) := (b24.out.block _ (Array.getElem?_eq_some_iff.1 LRr23.out).1).trans LRr23.out
      have LRg24 : Hid (w24.heap[w3.heap.size + 1]? = some (.cells #[.bool (decide (g.num < 0)), .slice C5 (len g.num.natAbs) j5, .slice C6 (len (below g.den)) j6] 27 (0, 0))) := (b24.out.block _ (Array.getElem?_eq_some_iff.1 LRg23.out).1).trans LRg23.out
      have HMB24 := Lib.hid (cell_keep HMB23.out b24.out)
      have HTB24 := Lib.hid (tab_keep HTB23.out b24.out)
      have HBB24 := Lib.hid (Below.step HBB23.out b24.out)
      clear hRs23 hRr23 hRg23 LRs23 LRr23 LRg23 HMB23 HTB23 HBB23 b24
      clear hF14 hA14
      go_wp2_with fail
      obtain ⟨NN15, hNN⟩ : ∃ n : Nat, w24.heap.size = n := ⟨_, rfl⟩
      have HSZ15 : Hid (w24.heap.size = NN15) := hNN
      have hg : w24.heap[w3.heap.size]? = some (.cells #[.bool (decide (l.num < 0)), .slice C1 (len l.num.natAbs) j1, .slice C2 (len (below l.den)) j2, .bool (decide (h.num < 0)), .slice C3 (len h.num.natAbs) j3, .slice C4 (len (below h.den)) j4] 53 (0, 0)) := ((Below.refl _ w24).block _ (Array.getElem?_eq_some_iff.1 LRs24.out).1).trans LRs24.out
      have z_s_0 : w24.cell? ⟨w3.heap.size, 0, none⟩ = some (.bool (decide (l.num < 0))) := cell_of_row _ _ _ _ _ _ hg
      have z_s_1 : w24.cell? ⟨w3.heap.size, 1, none⟩ = some (.slice C1 (len l.num.natAbs) j1) := cell_of_row _ _ _ _ _ _ hg
      have z_s_2 : w24.cell? ⟨w3.heap.size, 2, none⟩ = some (.slice C2 (len (below l.den)) j2) := cell_of_row _ _ _ _ _ _ hg
      have z_s_3 : w24.cell? ⟨w3.heap.size, 3, none⟩ = some (.bool (decide (h.num < 0))) := cell_of_row _ _ _ _ _ _ hg
      have z_s_4 : w24.cell? ⟨w3.heap.size, 4, none⟩ = some (.slice C3 (len h.num.natAbs) j3) := cell_of_row _ _ _ _ _ _ hg
      have z_s_5 : w24.cell? ⟨w3.heap.size, 5, none⟩ = some (.slice C4 (len (below h.den)) j4) := cell_of_row _ _ _ _ _ _ hg
      clear hg
      have hlt15_s : w3.heap.size < NN15 := Nat.lt_of_lt_of_eq (World.block_lt_of_cell? _ _ z_s_0) hNN
      have hg : w24.heap[w20.heap.size]? = some (.cells #[.bool (decide (r1.num < 0)), .slice C25 (len r1.num.natAbs) j25, .slice C26 (len (below r1.den)) j26, .bool (decide (r2.num < 0)), .slice C27 (len r2.num.natAbs) j27, .slice C28 (len (below r2.den)) j28] 53 (0, 0)) := ((Below.refl _ w24).block _ (Array.getElem?_eq_some_iff.1 LRr24.out).1).trans LRr24.out
      have z_r_0 : w24.cell? ⟨w20.heap.size, 0, none⟩ = some (.bool (decide (r1.num < 0))) := cell_of_row _ _ _ _ _ _ hg
      have z_r_1 : w24.cell? ⟨w20.heap.size, 1, none⟩ = some (.slice C25 (len r1.num.natAbs) j25) := cell_of_row _ _ _ _ _ _ hg
      have z_r_2 : w24.cell? ⟨w20.heap.size, 2, none⟩ = some (.slice C26 (len (below r1.den)) j26) := cell_of_row _ _ _ _ _ _ hg
      have z_r_3 : w24.cell? ⟨w20.heap.size, 3, none⟩ = some (.bool (decide (r2.num < 0))) := cell_of_row _ _ _ _ _ _ hg
      have z_r_4 : w24.cell? ⟨w20.heap.size, 4, none⟩ = some (.slice C27 (len r2.num.natAbs) j27) := cell_of_row _ _ _ _ _ _ hg
      have z_r_5 : w24.cell? ⟨w20.heap.size, 5, none⟩ = some (.slice C28 (len (below r2.den)) j28) := cell_of_row _ _ _ _ _ _ hg
      clear hg
      have hlt15_r : w20.heap.size < NN15 := Nat.lt_of_lt_of_eq (World.block_lt_of_cell? _ _ z_r_0) hNN
      have hg : w24.heap[n12]? = some (.cells #[.bool (decide (x.num < 0)), .slice X1 (len x.num.natAbs) x1, .slice X2 (len (below x.den)) x2] 27 (0, 0)) := ((Below.refl _ w24).block _ (Array.getElem?_eq_some_iff.1 LB12.out).1).trans LB12.out
      have z_x_0 : w24.cell? ⟨n12, 0, none⟩ = some (.bool (decide (x.num < 0))) := cell_of_row _ _ _ _ _ _ hg
      have z_x_1 : w24.cell? ⟨n12, 1, none⟩ = some (.slice X1 (len x.num.natAbs) x1) := cell_of_row _ _ _ _ _ _ hg
      have z_x_2 : w24.cell? ⟨n12, 2, none⟩ = some (.slice X2 (len (below x.den)) x2) := cell_of_row _ _ _ _ _ _ hg
      clear hg
      have hlt15_x : n12 < NN15 := Nat.lt_of_lt_of_eq (World.block_lt_of_cell? _ _ z_x_0) hNN
      have hg : w24.heap[n13]? = some (.cells #[.bool (decide (up.num < 0)), .slice U1 (len up.num.natAbs) u1, .slice U2 (len (below up.den)) u2] 27 (0, 0)) := ((Below.refl _ w24).block _ (Array.getElem?_eq_some_iff.1 LB13.out).1).trans LB13.out
      have z_up_0 : w24.cell? ⟨n13, 0, none⟩ = some (.bool (decide (up.num < 0))) := cell_of_row _ _ _ _ _ _ hg
      have z_up_1 : w24.cell? ⟨n13, 1, none⟩ = some (.slice U1 (len up.num.natAbs) u1) := cell_of_row _ _ _ _ _ _ hg
      have z_up_2 : w24.cell? ⟨n13, 2, none⟩ = some (.slice U2 (len (below up.den)) u2) := cell_of_row _ _ _ _ _ _ hg
      clear hg
      have hlt15_up : n13 < NN15 := Nat.lt_of_lt_of_eq (World.block_lt_of_cell? _ _ z_up_0) hNN
      have hg : w24.heap[n14]? = some (.cells #[.bool (decide (dn.num < 0)), .slice D1 (len dn.num.natAbs) d1x, .slice D2 (len (below dn.den)) d2x] 27 (0, 0)) := ((Below.refl _ w24).block _ (Array.getElem?_eq_some_iff.1 LB14.out).1).trans LB14.out
      have z_dn_0 : w24.cell? ⟨n14, 0, none⟩ = some (.bool (decide (dn.num < 0))) := cell_of_row _ _ _ _ _ _ hg
      have z_dn_1 : w24.cell? ⟨n14, 1, none⟩ = some (.slice D1 (len dn.num.natAbs) d1x) := cell_of_row _ _ _ _ _ _ hg
      have z_dn_2 : w24.cell? ⟨n14, 2, none⟩ = some (.slice D2 (len (below dn.den)) d2x) := cell_of_row _ _ _ _ _ _ hg
      clear hg
      have hlt15_dn : n14 < NN15 := Nat.lt_of_lt_of_eq (World.block_lt_of_cell? _ _ z_dn_0) hNN
      have H0 := Held0.start w24 NN15
      have H0' := H0
      unfold Held0 at H0'
      refine wp_region_held_drew (S := (fun w' => (∀ b o, b < NN15 → w'.cell? ⟨b, o, none⟩ = w24.cell? ⟨b, o, none⟩) ∧ Below (NN15) w24 w' ∧ Stay w24 w')) (by kernel_rfl) ?_ (fun hHeld => ?_)
      · (try dsimp only)
        exact H0'
      obtain ⟨w25, hw25⟩ : ∃ u, u = w24.drew := ⟨_, rfl⟩
      have b25 : Hid (Below w24.heap.size w24 w25) := by rw [hw25]; exact ⟨rfl, rfl, rfl, Nat.le_refl _, fun _ _ => rfl⟩
      rw [← hw25] at hHeld H0 ⊢
      clear hw25 H0' hNN
      generalize hF15 : wpAnyH _ _ _ _ _ = F15
      replace hF15 := Lib.hid hF15
      refine letters ?_
      intro A15 hA15
      replace hA15 := Lib.hid hA15
      have rest : ∀ (L : Array Bool) (u : World) (y104 y105 y106 y107 y108 y109 y110 y111 y112 y113 y114 y115 y116 y117 y118 y119 y120 y121 y122 y123 y124 y125 y126 y127 y128 y129 y130 y131 y132 y133 y134 y135 y136 y137 y138 y139 y140 y141 y142 y143 : Value), L = #[true, true, true, true, true, true, true, true, true, true, true, true, true, true, true, true, true, true, true, true, true, true, true, true, true, true, true, true, true, true, true, true, true, true, true, true, true, true, true, true, true] → Hid (Held0 w24 NN15 w24 u) → F15 0 L (Act.put (Act.put (Act.put (Act.put (Act.put (Act.put (Act.put (Act.put (Act.put (Act.put (Act.put (Act.put (Act.put (Act.put (Act.put (Act.put (Act.put (Act.put (Act.put (Act.put (Act.put (Act.put (Act.put (Act.put (Act.put (Act.put (Act.put (Act.put (Act.put (Act.put (Act.put (Act.put (Act.put (Act.put (Act.put (Act.put (Act.put (Act.put (Act.put (Act.put (Act.put A15 (some 104) y104) (some 105) y105) (some 106) y106) (some 107) y107) (some 108) y108) (some 109) y109) (some 110) y110) (some 111) y111) (some 112) y112) (some 113) y113) (some 114) y114) (some 115) y115) (some 116) y116) (some 117) y117) (some 118) y118) (some 119) y119) (some 120) y120) (some 121) y121) (some 122) y122) (some 123) y123) (some 124) y124) (some 125) y125) (some 126) y126) (some 127) y127) (some 128) y128) (some 129) y129) (some 130) y130) (some 131) y131) (some 132) y132) (some 133) y133) (some 134) y134) (some 135) y135) (some 136) y136) (some 137) y137) (some 138) y138) (some 139) y139) (some 140) y140) (some 141) y141) (some 142) y142) (some 143) y143) (some 144) (.bool false)) u := by
        intro L u y104 y105 y106 y107 y108 y109 y110 y111 y112 y113 y114 y115 y116 y117 y118 y119 y120 y121 y122 y123 y124 y125 y126 y127 y128 y129 y130 y131 y132 y133 y134 y135 y136 y137 y138 y139 y140 y141 y142 y143 hLL HK
        clear hHeld H0 z_s_0 z_s_1 z_s_2 z_s_3 z_s_4 z_s_5 z_r_0 z_r_1 z_r_2 z_r_3 z_r_4 z_r_5 z_x_0 z_x_1 z_x_2 z_up_0 z_up_1 z_up_2 z_dn_0 z_dn_1 z_dn_2 hlt15_s hlt15_r hlt15_x hlt15_up hlt15_dn
        subst hLL
        rw [← hF15.out, ← hA15.out]
        simp only [Act.put, lt, ly, lu]
        refine wpAnyH_done (by kernel_rfl) ?_ _
        clear hF15 hA15 b25
        obtain ⟨w25, hwq⟩ : ∃ z, z = u := ⟨_, rfl⟩
        rw [← hwq] at HK ⊢
        clear hwq
        have b25 : Hid (Below w24.heap.size w24 w25) := below_eq HK.out.2.1 HSZ15.out
        clear HK
        have hRs25 := Lib.hid (hRs24.out.keep b25.out)
        have hRr25 := Lib.hid (hRr24.out.keep b25.out)
        have hRg25 := Lib.hid (hRg24.out.keep b25.out)
        have hRx25 := Lib.hid (I12_14.out.keep b25.out)
        have LRr25 : Hid (w25.heap[w20.heap.size]? = some (.cells #[.bool (decide (r1.num < 0)), .slice C25 (len r1.num.natAbs) j25, .slice C26 (len (below r1.den)) j26, .bool (decide (r2.num < 0)), .slice C27 (len r2.num.natAbs) j27, .slice C28 (len (below r2.den)) j28] 53 (0, 0))) := (b25.out.block _ (Array.getElem?_eq_some_iff.1 LRr24.out).1).trans LRr24.out
        have LRg25 : Hid (w25.heap[w3.heap.size + 1]? = some (.cells #[.bool (decide (g.num < 0)), .slice C5 (len g.num.natAbs) j5, .slice C6 (len (below g.den)) j6] 27 (0, 0))) := (b25.out.block _ (Array.getElem?_eq_some_iff.1 LRg24.out).1).trans LRg24.out
        have LRx25 : Hid (w25.heap[n12]? = some (.cells #[.bool (decide (x.num < 0)), .slice X1 (len x.num.natAbs) x1, .slice X2 (len (below x.den)) x2] 27 (0, 0))) := (b25.out.block _ (Array.getElem?_eq_some_iff.1 LB12.out).1).trans LB12.out
        have HMB25 := Lib.hid (cell_keep HMB24.out b25.out)
        have HTB25 := Lib.hid (tab_keep HTB24.out b25.out)
        have HBB25 := Lib.hid (Below.step HBB24.out b25.out)
        clear hRs24 hRr24 hRg24 I12_14 LRr24 LRg24 LB12 HMB24 HTB24 HBB24 b25
        clear HSZ15
        go_wp2_with fail
        obtain ⟨NN17, hNN⟩ : ∃ n : Nat, w25.heap.size = n := ⟨_, rfl⟩
        have HSZ17 : Hid (w25.heap.size = NN17) := hNN
        have hg : w25.heap[n12]? = some (.cells #[.bool (decide (x.num < 0)), .slice X1 (len x.num.natAbs) x1, .slice X2 (len (below x.den)) x2] 27 (0, 0)) := ((Below.refl _ w25).block _ (Array.getElem?_eq_some_iff.1 LRx25.out).1).trans LRx25.out
        have z_x_0 : w25.cell? ⟨n12, 0, none⟩ = some (.bool (decide (x.num < 0))) := cell_of_row _ _ _ _ _ _ hg
        have z_x_1 : w25.cell? ⟨n12, 1, none⟩ = some (.slice X1 (len x.num.natAbs) x1) := cell_of_row _ _ _ _ _ _ hg
        have z_x_2 : w25.cell? ⟨n12, 2, none⟩ = some (.slice X2 (len (below x.den)) x2) := cell_of_row _ _ _ _ _ _ hg
        clear hg
        have hlt17_x : n12 < NN17 := Nat.lt_of_lt_of_eq (World.block_lt_of_cell? _ _ z_x_0) hNN
        have hg : w25.heap[w3.heap.size + 1]? = some (.cells #[.bool (decide (g.num < 0)), .slice C5 (len g.num.natAbs) j5, .slice C6 (len (below g.den)) j6] 27 (0, 0)) := ((Below.refl _ w25).block _ (Array.getElem?_eq_some_iff.1 LRg25.out).1).trans LRg25.out
        have z_g_0 : w25.cell? ⟨w3.heap.size + 1, 0, none⟩ = some (.bool (decide (g.num < 0))) := cell_of_row _ _ _ _ _ _ hg
        have z_g_1 : w25.cell? ⟨w3.heap.size + 1, 1, none⟩ = some (.slice C5 (len g.num.natAbs) j5) := cell_of_row _ _ _ _ _ _ hg
        have z_g_2 : w25.cell? ⟨w3.heap.size + 1, 2, none⟩ = some (.slice C6 (len (below g.den)) j6) := cell_of_row _ _ _ _ _ _ hg
        clear hg
        have hlt17_g : w3.heap.size + 1 < NN17 := Nat.lt_of_lt_of_eq (World.block_lt_of_cell? _ _ z_g_0) hNN
        have H0 := Held0.start w25 NN17
        refine wp_region_held_drew (S := (fun w' => (∀ b o, b < NN17 → w'.cell? ⟨b, o, none⟩ = w25.cell? ⟨b, o, none⟩))) (by kernel_rfl) ?_ (fun hHeld => ?_)
        · (try dsimp only)
          exact H0.1
        obtain ⟨wd17, hwd⟩ : ∃ u, u = w25.drew := ⟨_, rfl⟩
        rw [← hwd] at hHeld H0 ⊢
        clear hwd hNN
        refine wpAnyH_take (i := 0) (v := ?vq35) (oi := ?oq35) ?eq35 ?aq35 ?bq35 ?cq35 ?dq35 ?yq35 ?sq35 ?rq35
        case eq35 => simp only [lg, lz, ls]; rfl
        case aq35 => kernel_rfl
        case bq35 => kernel_rfl
        case cq35 => kernel_rfl
        case dq35 => exact fun _ _ _ h => h
        case yq35 =>
          refine Or.inl ⟨by rfl, ?_⟩
          intro w hSw
          (try dsimp only at hSw)
          go_simp
          try with_reducible rfl
        case sq35 => assumption
        try simp only [Act.put, lt, ly, lu]
        refine wpAnyH_take (i := 2) (v := ?vq36) (oi := ?oq36) ?eq36 ?aq36 ?bq36 ?cq36 ?dq36 ?yq36 ?sq36 ?rq36
        case eq36 => simp only [lg, lz, ls]; rfl
        case aq36 => kernel_rfl
        case bq36 => kernel_rfl
        case cq36 => kernel_rfl
        case dq36 => exact fun _ _ _ h => h
        case yq36 =>
          refine Or.inl ⟨by rfl, ?_⟩
          intro w hSw
          (try dsimp only at hSw)
          go_simp
          try with_reducible rfl
        case sq36 => assumption
        try simp only [Act.put, lt, ly, lu]
        generalize hF17 : wpAnyH _ _ _ _ _ = F17
        replace hF17 := Lib.hid hF17
        refine letters ?_
        intro A17 hA17
        replace hA17 := Lib.hid hA17
        have H0h := Lib.hid H0
        clear H0 hHeld
        have sr21 : ∀ (L : Array Bool) (u : World) (v147 v149 : Value) (n15 : Nat), L = #[true, true, true, true, true, true, true, true, false, false] → Hid (Held0 w25 NN17 w25 u) → Hid (IsBox u v149 y1 y2) → Hid (u.heap[n15]? = some (.cells #[.bool false, .slice none 0 0, .slice none 0 0, .bool false, .slice none 0 0, .slice none 0 0] 53 (0, 0))) → NN17 ≤ n15 → F17 2 L (Act.put (Act.put (Act.put (Act.put (Act.put (Act.put A17 (some 15) (.pointer (some ⟨n15, 0, none⟩))) (some 145) (.tuple #[v149, .int .i64 0])) (some 150) v149) (some 151) (.int .i64 0)) (some 147) v147) (some 149) (.tuple #[v149, .int .i64 0])) u := by
          intro L u v147 v149 n15 hLL HK I149 Z15 g15
          subst hLL
          rw [← hF17.out, ← hA17.out]
          try simp only [Act.put, lt, ly, lu]
          obtain ⟨O1, o1x, O2, o2x, O3, o3x, O4, o4x, rfl, -, -⟩ := id I149.out.opened
          refine wpAnyH_ready (rs := [8]) (by kernel_rfl) (by simp) ?_
          refine AllReadyH.cons (o := ?o8z) ?e8z ?k8z AllReadyH.nil
          case e8z => simp only [lg, lz, ls]; rfl
          intro K hK
          have q0 : u.cell? ⟨n15, 0, none⟩ = some (.bool false) := cell_of_row _ _ _ _ _ _ Z15.out
          have F0 : u.frozen? ⟨n15, 0, none⟩ = false := frozen_of_row u n15 0 _ _ Z15.out
          have q1 : u.cell? ⟨n15, 1, none⟩ = some (.slice none 0 0) := cell_of_row _ _ _ _ _ _ Z15.out
          have F1 : u.frozen? ⟨n15, 1, none⟩ = false := frozen_of_row u n15 1 _ _ Z15.out
          have q2 : u.cell? ⟨n15, 2, none⟩ = some (.slice none 0 0) := cell_of_row _ _ _ _ _ _ Z15.out
          have F2 : u.frozen? ⟨n15, 2, none⟩ = false := frozen_of_row u n15 2 _ _ Z15.out
          have q3 : u.cell? ⟨n15, 3, none⟩ = some (.bool false) := cell_of_row _ _ _ _ _ _ Z15.out
          have F3 : u.frozen? ⟨n15, 3, none⟩ = false := frozen_of_row u n15 3 _ _ Z15.out
          have q4 : u.cell? ⟨n15, 4, none⟩ = some (.slice none 0 0) := cell_of_row _ _ _ _ _ _ Z15.out
          have F4 : u.frozen? ⟨n15, 4, none⟩ = false := frozen_of_row u n15 4 _ _ Z15.out
          have q5 : u.cell? ⟨n15, 5, none⟩ = some (.slice none 0 0) := cell_of_row _ _ _ _ _ _ Z15.out
          have F5 : u.frozen? ⟨n15, 5, none⟩ = false := frozen_of_row u n15 5 _ _ Z15.out
          go_simp
          clear q0 q1 q2 q3 q4 q5 F0 F1 F2 F3 F4 F5
          obtain ⟨u8, hw⟩ : ∃ z, z = ((((((u.setCell ⟨n15, 0, none⟩ (.bool (decide (y1.num < 0)))).setCell ⟨n15, 1, none⟩ (.slice O1 (len y1.num.natAbs) o1x)).setCell ⟨n15, 2, none⟩ (.slice O2 (len (below y1.den)) o2x)).setCell ⟨n15, 3, none⟩ (.bool (decide (y2.num < 0)))).setCell ⟨n15, 4, none⟩ (.slice O3 (len y2.num.natAbs) o3x)).setCell ⟨n15, 5, none⟩ (.slice O4 (len (below y2.den)) o4x)) := ⟨_, rfl⟩
          have HS8 := Held0.put6 (s1 := decide (y1.num < 0)) (A1 := O1) (n1 := len y1.num.natAbs) (c1 := o1x) (A2 := O2) (n2 := len (below y1.den)) (c2 := o2x) (s2 := decide (y2.num < 0)) (A3 := O3) (n3 := len y2.num.natAbs) (c3 := o3x) (A4 := O4) (n4 := len (below y2.den)) (c4 := o4x) HK.out Z15.out g15 I149.out
          rw [← hw] at HS8
          rw [← hw]
          clear hw HK I149 Z15
          obtain ⟨HK8, Z8, I8⟩ := HS8
          replace HK8 := Lib.hid HK8
          replace Z8 := Lib.hid Z8
          replace I8 := Lib.hid I8
          refine hK.out _ _ ?_ (fun hHeld => ?_)
          · (try dsimp only)
            exact HK8.out.1
          clear hK K
          try simp only [Act.put, lt, ly, lu]
          refine wpAnyH_ready (rs := [9]) (by kernel_rfl) (by simp) ?_
          refine AllReadyH.cons (o := ?o9z) ?e9z ?k9z AllReadyH.nil
          case e9z => simp only [lg, lz, ls]; rfl
          intro K hK
          go_simp
          refine hK.out _ _ ?_ (fun hHeld2 => ?_)
          · (try dsimp only)
            exact HK8.out.1
          clear hK K hHeld hHeld2
          try simp only [Act.put, lt, ly, lu]
          refine wpAnyH_done (by kernel_rfl) ?_ _
          obtain ⟨w26, hwq⟩ : ∃ z, z = u8 := ⟨_, rfl⟩
          rw [← hwq] at HK8 Z8 I8 ⊢
          clear hwq
          have b26 : Hid (Below w25.heap.size w25 w26) := below_eq HK8.out.2.1 HSZ17.out
          clear HK8 hF17 hA17
          have hRr26 := Lib.hid (hRr25.out.keep b26.out)
          have hRg26 := Lib.hid (hRg25.out.keep b26.out)
          have LRr26 : Hid (w26.heap[w20.heap.size]? = some (.cells #[.bool (decide (r1.num < 0)), .slice C25 (len r1.num.natAbs) j25, .slice C26 (len (below r1.den)) j26, .bool (decide (r2.num < 0)), .slice C27 (len r2.num.natAbs) j27, .slice C28 (len (below r2.den)) j28] 53 (0, 0))) := (b26.out.block _ (Array.getElem?_eq_some_iff.1 LRr25.out).1).trans LRr25.out
          have LRg26 : Hid (w26.heap[w3.heap.size + 1]? = some (.cells #[.bool (decide (g.num < 0)), .slice C5 (len g.num.natAbs) j5, .slice C6 (len (below g.den)) j6] 27 (0, 0))) := (b26.out.block _ (Array.getElem?_eq_some_iff.1 LRg25.out).1).trans LRg25.out
          have HMB26 := Lib.hid (cell_keep HMB25.out b26.out)
          have HTB26 := Lib.hid (tab_keep HTB25.out b26.out)
          have HBB26 := Lib.hid (Below.step HBB25.out b26.out)
          clear hRr25 hRg25 LRr25 LRg25 HMB25 HTB25 HBB25 b26
          go_wp2_with fail
          obtain ⟨NN18, hNN⟩ : ∃ n : Nat, w26.heap.size = n := ⟨_, rfl⟩
          have HSZ18 : Hid (w26.heap.size = NN18) := hNN
          have hg : w26.heap[w20.heap.size]? = some (.cells #[.bool (decide (r1.num < 0)), .slice C25 (len r1.num.natAbs) j25, .slice C26 (len (below r1.den)) j26, .bool (decide (r2.num < 0)), .slice C27 (len r2.num.natAbs) j27, .slice C28 (len (below r2.den)) j28] 53 (0, 0)) := ((Below.refl _ w26).block _ (Array.getElem?_eq_some_iff.1 LRr26.out).1).trans LRr26.out
          have z_r_0 : w26.cell? ⟨w20.heap.size, 0, none⟩ = some (.bool (decide (r1.num < 0))) := cell_of_row _ _ _ _ _ _ hg
          have z_r_1 : w26.cell? ⟨w20.heap.size, 1, none⟩ = some (.slice C25 (len r1.num.natAbs) j25) := cell_of_row _ _ _ _ _ _ hg
          have z_r_2 : w26.cell? ⟨w20.heap.size, 2, none⟩ = some (.slice C26 (len (below r1.den)) j26) := cell_of_row _ _ _ _ _ _ hg
          have z_r_3 : w26.cell? ⟨w20.heap.size, 3, none⟩ = some (.bool (decide (r2.num < 0))) := cell_of_row _ _ _ _ _ _ hg
          have z_r_4 : w26.cell? ⟨w20.heap.size, 4, none⟩ = some (.slice C27 (len r2.num.natAbs) j27) := cell_of_row _ _ _ _ _ _ hg
          have z_r_5 : w26.cell? ⟨w20.heap.size, 5, none⟩ = some (.slice C28 (len (below r2.den)) j28) := cell_of_row _ _ _ _ _ _ hg
          clear hg
          have hlt18_r : w20.heap.size < NN18 := Nat.lt_of_lt_of_eq (World.block_lt_of_cell? _ _ z_r_0) hNN
          have hg : w26.heap[w3.heap.size + 1]? = some (.cells #[.bool (decide (g.num < 0)), .slice C5 (len g.num.natAbs) j5, .slice C6 (len (below g.den)) j6] 27 (0, 0)) := ((Below.refl _ w26).block _ (Array.getElem?_eq_some_iff.1 LRg26.out).1).trans LRg26.out
          have z_g_0 : w26.cell? ⟨w3.heap.size + 1, 0, none⟩ = some (.bool (decide (g.num < 0))) := cell_of_row _ _ _ _ _ _ hg
          have z_g_1 : w26.cell? ⟨w3.heap.size + 1, 1, none⟩ = some (.slice C5 (len g.num.natAbs) j5) := cell_of_row _ _ _ _ _ _ hg
          have z_g_2 : w26.cell? ⟨w3.heap.size + 1, 2, none⟩ = some (.slice C6 (len (below g.den)) j6) := cell_of_row _ _ _ _ _ _ hg
          clear hg
          have hlt18_g : w3.heap.size + 1 < NN18 := Nat.lt_of_lt_of_eq (World.block_lt_of_cell? _ _ z_g_0) hNN
          have hg : w26.heap[n15]? = some (.cells #[.bool (decide (y1.num < 0)), .slice O1 (len y1.num.natAbs) o1x, .slice O2 (len (below y1.den)) o2x, .bool (decide (y2.num < 0)), .slice O3 (len y2.num.natAbs) o3x, .slice O4 (len (below y2.den)) o4x] 53 (0, 0)) := ((Below.refl _ w26).block _ (Array.getElem?_eq_some_iff.1 Z8.out).1).trans Z8.out
          have z_one_0 : w26.cell? ⟨n15, 0, none⟩ = some (.bool (decide (y1.num < 0))) := cell_of_row _ _ _ _ _ _ hg
          have z_one_1 : w26.cell? ⟨n15, 1, none⟩ = some (.slice O1 (len y1.num.natAbs) o1x) := cell_of_row _ _ _ _ _ _ hg
          have z_one_2 : w26.cell? ⟨n15, 2, none⟩ = some (.slice O2 (len (below y1.den)) o2x) := cell_of_row _ _ _ _ _ _ hg
          have z_one_3 : w26.cell? ⟨n15, 3, none⟩ = some (.bool (decide (y2.num < 0))) := cell_of_row _ _ _ _ _ _ hg
          have z_one_4 : w26.cell? ⟨n15, 4, none⟩ = some (.slice O3 (len y2.num.natAbs) o3x) := cell_of_row _ _ _ _ _ _ hg
          have z_one_5 : w26.cell? ⟨n15, 5, none⟩ = some (.slice O4 (len (below y2.den)) o4x) := cell_of_row _ _ _ _ _ _ hg
          clear hg
          have hlt18_one : n15 < NN18 := Nat.lt_of_lt_of_eq (World.block_lt_of_cell? _ _ z_one_0) hNN
          have H0 := Held0.start w26 NN18
          have H0' := H0
          unfold Held0 at H0'
          refine wp_region_held_drew (S := (fun w' => (∀ b o, b < NN18 → w'.cell? ⟨b, o, none⟩ = w26.cell? ⟨b, o, none⟩) ∧ Below (NN18) w26 w' ∧ Stay w26 w')) (by kernel_rfl) ?_ (fun hHeld => ?_)
          · (try dsimp only)
            exact H0'
          obtain ⟨w27, hw27⟩ : ∃ u, u = w26.drew := ⟨_, rfl⟩
          have b27 : Hid (Below w26.heap.size w26 w27) := by rw [hw27]; exact ⟨rfl, rfl, rfl, Nat.le_refl _, fun _ _ => rfl⟩
          rw [← hw27] at hHeld H0 ⊢
          clear hw27 H0' hNN
          refine wpAnyH_take (i := 0) (v := ?vq37) (oi := ?oq37) ?eq37 ?aq37 ?bq37 ?cq37 ?dq37 ?yq37 ?sq37 ?rq37
          case eq37 => simp only [lg, lz, ls]; rfl
          case aq37 => kernel_rfl
          case bq37 => kernel_rfl
          case cq37 => kernel_rfl
          case dq37 => exact fun _ _ _ h => h
          case yq37 =>
            refine Or.inl ⟨by rfl, ?_⟩
            intro w hSw
            (try dsimp only at hSw)
            go_simp
            try with_reducible rfl
          case sq37 => assumption
          try simp only [Act.put, lt, ly, lu]
          refine wpAnyH_take (i := 1) (v := ?vq38) (oi := ?oq38) ?eq38 ?aq38 ?bq38 ?cq38 ?dq38 ?yq38 ?sq38 ?rq38
          case eq38 => simp only [lg, lz, ls]; rfl
          case aq38 => kernel_rfl
          case bq38 => kernel_rfl
          case cq38 => kernel_rfl
          case dq38 => exact fun _ _ _ h => h
          case yq38 =>
            refine Or.inl ⟨by rfl, ?_⟩
            intro w hSw
            (try dsimp only at hSw)
            go_simp
            try with_reducible rfl
          case sq38 => assumption
          try simp only [Act.put, lt, ly, lu]
          refine wpAnyH_take (i := 2) (v := ?vq39) (oi := ?oq39) ?eq39 ?aq39 ?bq39 ?cq39 ?dq39 ?yq39 ?sq39 ?rq39
          case eq39 => simp only [lg, lz, ls]; rfl
          case aq39 => kernel_rfl
          case bq39 => kernel_rfl
          case cq39 => kernel_rfl
          case dq39 => exact fun _ _ _ h => h
          case yq39 =>
            refine Or.inl ⟨by rfl, ?_⟩
            intro w hSw
            (try dsimp only at hSw)
            go_simp
            try with_reducible rfl
          case sq39 => assumption
          try simp only [Act.put, lt, ly, lu]
          refine wpAnyH_take (i := 3) (v := ?vq40) (oi := ?oq40) ?eq40 ?aq40 ?bq40 ?cq40 ?dq40 ?yq40 ?sq40 ?rq40
          case eq40 => simp only [lg, lz, ls]; rfl
          case aq40 => kernel_rfl
          case bq40 => kernel_rfl
          case cq40 => kernel_rfl
          case dq40 => exact fun _ _ _ h => h
          case yq40 =>
            refine Or.inl ⟨by rfl, ?_⟩
            intro w hSw
            (try dsimp only at hSw)
            go_simp
            try with_reducible rfl
          case sq40 => assumption
          try simp only [Act.put, lt, ly, lu]
          refine wpAnyH_take (i := 5) (v := ?vq41) (oi := ?oq41) ?eq41 ?aq41 ?bq41 ?cq41 ?dq41 ?yq41 ?sq41 ?rq41
          case eq41 => simp only [lg, lz, ls]; rfl
          case aq41 => kernel_rfl
          case bq41 => kernel_rfl
          case cq41 => kernel_rfl
          case dq41 => exact fun _ _ _ h => h
          case yq41 =>
            refine Or.inl ⟨by rfl, ?_⟩
            intro w hSw
            (try dsimp only at hSw)
            go_simp
            try with_reducible rfl
          case sq41 => assumption
          try simp only [Act.put, lt, ly, lu]
          refine wpAnyH_take (i := 6) (v := ?vq42) (oi := ?oq42) ?eq42 ?aq42 ?bq42 ?cq42 ?dq42 ?yq42 ?sq42 ?rq42
          case eq42 => simp only [lg, lz, ls]; rfl
          case aq42 => kernel_rfl
          case bq42 => kernel_rfl
          case cq42 => kernel_rfl
          case dq42 => exact fun _ _ _ h => h
          case yq42 =>
            refine Or.inl ⟨by rfl, ?_⟩
            intro w hSw
            (try dsimp only at hSw)
            go_simp
            try with_reducible rfl
          case sq42 => assumption
          try simp only [Act.put, lt, ly, lu]
          refine wpAnyH_ready (rs := [4]) (by kernel_rfl) (by simp) ?_
          refine AllReadyH.cons (o := ?oq43) ?eq43 ?kq43 AllReadyH.nil
          case eq43 => simp only [lg, lz, ls]; rfl
          intro K hK
          go_simp
          go_at_call 50
          refine (width_val e_wd.out (I8.out.keep b27.out) z_y1.out z_y2.out).mono ?_
          rintro e w28 ⟨v28, rfl, hv28, b28⟩
          obtain ⟨C31, j31, C32, j32, rfl, -, -⟩ := id hv28.opened
          replace hv28 := Lib.hid hv28
          replace b28 := Lib.hid b28
          have hk28 := Held0.call H0 (Nat.le_of_eq HSZ18.out.symm) b28.out
          have hk28' := hk28
          unfold Held0 at hk28'
          clear hHeld H0
          refine hK.out _ _ ?_ (fun hHeld => ?_)
          · (try dsimp only)
            with_reducible exact hk28'
          clear hK K hk28'
          try simp only [Act.put, lt, ly, lu]
          refine wpAnyH_ready (rs := [7]) (by kernel_rfl) (by simp) ?_
          refine AllReadyH.cons (o := ?oq44) ?eq44 ?kq44 AllReadyH.nil
          case eq44 => simp only [lg, lz, ls]; rfl
          intro K hK
          go_simp
          go_at_call 14
          refine (add_val e_gg.out (hRg26.out.keep (Below.step b27.out b28.out)) (hRg26.out.keep (Below.step b27.out b28.out)) z_g.out z_g.out).mono ?_
          rintro e w29 ⟨v29, rfl, hv29, b29⟩
          obtain ⟨C33, j33, C34, j34, rfl, -, -⟩ := id hv29.opened
          replace hv29 := Lib.hid hv29
          replace b29 := Lib.hid b29
          have hk29 := Held0.call hk28 (Nat.le_of_eq HSZ18.out.symm) b29.out
          have hk29' := hk29
          unfold Held0 at hk29'
          clear hHeld hk28
          refine hK.out _ _ ?_ (fun hHeld => ?_)
          · (try dsimp only)
            with_reducible exact hk29'
          clear hK K hk29'
          try simp only [Act.put, lt, ly, lu]
          refine wpAnyH_ready (rs := [8]) (by kernel_rfl) (by simp) ?_
          refine AllReadyH.cons (o := ?oq45) ?eq45 ?kq45 AllReadyH.nil
          case eq45 => simp only [lg, lz, ls]; rfl
          intro K hK
          go_simp
          go_at_call 21
          refine (cmp_val e_c7.out (hv28.out.keep b29.out) hv29.out z_wd.out z_gg.out).mono ?_
          rintro e w30 ⟨rfl, b30⟩
          replace b30 := Lib.hid b30
          have hk30 := Held0.call hk29 (Nat.le_of_eq HSZ18.out.symm) b30.out
          have hk30' := hk30
          unfold Held0 at hk30'
          clear hHeld hk29
          refine hK.out _ _ ?_ (fun hHeld => ?_)
          · (try dsimp only)
            with_reducible exact hk30'
          clear hK K hk30'
          try simp only [Act.put, lt, ly, lu]
          refine wpAnyH_take (i := 9) (v := ?vq46) (oi := ?oq46) ?eq46 ?aq46 ?bq46 ?cq46 ?dq46 ?yq46 ?sq46 ?rq46
          case eq46 => simp only [lg, lz, ls]; rfl
          case aq46 => kernel_rfl
          case bq46 => kernel_rfl
          case cq46 => kernel_rfl
          case dq46 => exact fun _ _ _ h => h
          case yq46 =>
            refine Or.inl ⟨by rfl, ?_⟩
            intro w hSw
            (try dsimp only at hSw)
            go_simp
            try with_reducible rfl
          case sq46 => assumption
          try simp only [Act.put, lt, ly, lu]
          refine wpAnyH_take (i := 10) (v := ?vq47) (oi := ?oq47) ?eq47 ?aq47 ?bq47 ?cq47 ?dq47 ?yq47 ?sq47 ?rq47
          case eq47 => simp only [lg, lz, ls]; rfl
          case aq47 => kernel_rfl
          case bq47 => kernel_rfl
          case cq47 => kernel_rfl
          case dq47 => exact fun _ _ _ h => h
          case yq47 =>
            refine Or.inl ⟨by rfl, ?_⟩
            intro w hSw
            (try dsimp only at hSw)
            go_simp
            try with_reducible rfl
          case sq47 => assumption
          try simp only [Act.put, lt, ly, lu]
          refine wpAnyH_take (i := 11) (v := ?vq48) (oi := ?oq48) ?eq48 ?aq48 ?bq48 ?cq48 ?dq48 ?yq48 ?sq48 ?rq48
          case eq48 => simp only [lg, lz, ls]; rfl
          case aq48 => kernel_rfl
          case bq48 => kernel_rfl
          case cq48 => kernel_rfl
          case dq48 => exact fun _ _ _ h => h
          case yq48 =>
            refine Or.inl ⟨by rfl, ?_⟩
            intro w hSw
            (try dsimp only at hSw)
            go_simp
            try with_reducible rfl
          case sq48 => assumption
          try simp only [Act.put, lt, ly, lu]
          refine wpAnyH_take (i := 12) (v := ?vq49) (oi := ?oq49) ?eq49 ?aq49 ?bq49 ?cq49 ?dq49 ?yq49 ?sq49 ?rq49
          case eq49 => simp only [lg, lz, ls]; rfl
          case aq49 => kernel_rfl
          case bq49 => kernel_rfl
          case cq49 => kernel_rfl
          case dq49 => exact fun _ _ _ h => h
          case yq49 =>
            refine Or.inl ⟨by rfl, ?_⟩
            intro w hSw
            (try dsimp only at hSw)
            go_simp
            try with_reducible rfl
          case sq49 => assumption
          try simp only [Act.put, lt, ly, lu]
          refine wpAnyH_take (i := 13) (v := ?vq50) (oi := ?oq50) ?eq50 ?aq50 ?bq50 ?cq50 ?dq50 ?yq50 ?sq50 ?rq50
          case eq50 => simp only [lg, lz, ls]; rfl
          case aq50 => kernel_rfl
          case bq50 => kernel_rfl
          case cq50 => kernel_rfl
          case dq50 => exact fun _ _ _ h => h
          case yq50 =>
            refine Or.inl ⟨by rfl, ?_⟩
            intro w hSw
            (try dsimp only at hSw)
            go_simp
            try with_reducible rfl
          case sq50 => assumption
          try simp only [Act.put, lt, ly, lu]
          refine wpAnyH_ready (rs := [14]) (by kernel_rfl) (by simp) ?_
          refine AllReadyH.cons (o := ?oq51) ?eq51 ?kq51 AllReadyH.nil
          case eq51 => simp only [lg, lz, ls]; rfl
          intro K hK
          go_simp
          go_at_call 45
          refine (inside_val d7.out (I8.out.keep (Below.step (Below.step (Below.step b27.out b28.out) b29.out) b30.out)) (hRr26.out.keep (Below.step (Below.step (Below.step b27.out b28.out) b29.out) b30.out)) z_y1.out z_y2.out z_r1.out z_r2.out).mono ?_
          rintro e w31 ⟨rfl, b31⟩
          replace b31 := Lib.hid b31
          have hk31 := Held0.call hk30 (Nat.le_of_eq HSZ18.out.symm) b31.out
          have hk31' := hk31
          unfold Held0 at hk31'
          clear hHeld hk30
          refine hK.out _ _ ?_ (fun hHeld => ?_)
          · (try dsimp only)
            with_reducible exact hk31'
          clear hK K hk31'
          try simp only [Act.put, lt, ly, lu]
          refine wpAnyH_take (i := 15) (v := ?vq52) (oi := ?oq52) ?eq52 ?aq52 ?bq52 ?cq52 ?dq52 ?yq52 ?sq52 ?rq52
          case eq52 => simp only [lg, lz, ls]; rfl
          case aq52 => kernel_rfl
          case bq52 => kernel_rfl
          case cq52 => kernel_rfl
          case dq52 => exact fun _ _ _ h => h
          case yq52 =>
            refine Or.inl ⟨by rfl, ?_⟩
            intro w hSw
            (try dsimp only at hSw)
            go_simp
            try with_reducible rfl
          case sq52 => assumption
          try simp only [Act.put, lt, ly, lu]
          refine wpAnyH_take (i := 16) (v := ?vq53) (oi := ?oq53) ?eq53 ?aq53 ?bq53 ?cq53 ?dq53 ?yq53 ?sq53 ?rq53
          case eq53 => simp only [lg, lz, ls]; rfl
          case aq53 => kernel_rfl
          case bq53 => kernel_rfl
          case cq53 => kernel_rfl
          case dq53 => exact fun _ _ _ h => h
          case yq53 =>
            refine Or.inl ⟨by rfl, ?_⟩
            intro w hSw
            (try dsimp only at hSw)
            go_simp
            try with_reducible rfl
          case sq53 => assumption
          try simp only [Act.put, lt, ly, lu]
          refine wpAnyH_ready (rs := [17]) (by kernel_rfl) (by simp) ?_
          refine AllReadyH.cons (o := ?oq54) ?eq54 ?kq54 AllReadyH.nil
          case eq54 => simp only [lg, lz, ls]; rfl
          intro K hK
          go_simp
          go_at_call 11
          refine (known_any (cell_keep HMB26.out (Below.step (Below.step (Below.step (Below.step b27.out b28.out) b29.out) b30.out) b31.out)) (tab_keep HTB26.out (Below.step (Below.step (Below.step (Below.step b27.out b28.out) b29.out) b30.out) b31.out))).mono ?_
          rintro e w32 ⟨rfl, b32⟩
          replace b32 := Lib.hid b32
          have hk32 := Held0.call hk31 (Nat.le_of_eq HSZ18.out.symm) b32.out
          have hk32' := hk32
          unfold Held0 at hk32'
          clear hHeld hk31
          refine hK.out _ _ ?_ (fun hHeld => ?_)
          · (try dsimp only)
            with_reducible exact hk32'
          clear hK K hk32'
          try simp only [Act.put, lt, ly, lu]
          refine wpAnyH_take (i := 18) (v := ?vq55) (oi := ?oq55) ?eq55 ?aq55 ?bq55 ?cq55 ?dq55 ?yq55 ?sq55 ?rq55
          case eq55 => simp only [lg, lz, ls]; rfl
          case aq55 => kernel_rfl
          case bq55 => kernel_rfl
          case cq55 => kernel_rfl
          case dq55 => exact fun _ _ _ h => h
          case yq55 =>
            refine Or.inl ⟨by rfl, ?_⟩
            intro w hSw
            (try dsimp only at hSw)
            go_simp
            try with_reducible rfl
          case sq55 => assumption
          try simp only [Act.put, lt, ly, lu]
          refine wpAnyH_take (i := 19) (v := ?vq56) (oi := ?oq56) ?eq56 ?aq56 ?bq56 ?cq56 ?dq56 ?yq56 ?sq56 ?rq56
          case eq56 => simp only [lg, lz, ls]; rfl
          case aq56 => kernel_rfl
          case bq56 => kernel_rfl
          case cq56 => kernel_rfl
          case dq56 => exact fun _ _ _ h => h
          case yq56 =>
            refine Or.inl ⟨by rfl, ?_⟩
            intro w hSw
            (try dsimp only at hSw)
            go_simp
            try with_reducible rfl
          case sq56 => assumption
          try simp only [Act.put, lt, ly, lu]
          have HE := Lib.hid (Below.step HBB26.out (Below.step (Below.step (Below.step (Below.step (Below.step b27.out b28.out) b29.out) b30.out) b31.out) b32.out))
          refine wpAnyH_done (by kernel_rfl) ?_ _
          clear hHeld
          go_wp2_with fail
          go_ret
          exact ⟨rfl, HE.out⟩
        simp only [← hA17.out, Act.put, lt, ly, lu] at sr21
        replace sr21 := Lib.hid sr21
        have sr20 : ∀ (L : Array Bool) (u : World) (v147 v149 : Value), L = #[true, true, true, true, true, true, true, false, false, false] → Hid (Held0 w25 NN17 w25 u) → Hid (IsBox u v149 y1 y2) → F17 3 L (Act.put (Act.put (Act.put (Act.put (Act.put A17 (some 145) (.tuple #[v149, .int .i64 0])) (some 150) v149) (some 151) (.int .i64 0)) (some 147) v147) (some 149) (.tuple #[v149, .int .i64 0])) u := by
          intro L u v147 v149 hLL HK I149
          subst hLL
          rw [← hF17.out, ← hA17.out]
          try simp only [Act.put, lt, ly, lu]
          refine wpAnyH_ready (rs := [7]) (by kernel_rfl) (by simp) ?_
          refine AllReadyH.cons (o := ?o7q57) ?e7q57 ?k7q57 AllReadyH.nil
          case e7q57 => simp only [lg, lz, ls] <;> rfl
          case k7q57 =>
            intro K hK
            go_simp
            have hb2 : Below u.heap.size u (u.alloc (.cells #[.bool false, .slice none 0 0, .slice none 0 0, .bool false, .slice none 0 0, .slice none 0 0] 53)) := (Below.refl _ _).alloc (Nat.le_refl _) _
            have HK2 := Held0.call HK.out (Nat.le_of_eq HSZ17.out.symm) hb2
            have Z2 : (u.alloc (.cells #[.bool false, .slice none 0 0, .slice none 0 0, .bool false, .slice none 0 0, .slice none 0 0] 53)).heap[u.heap.size]? = some (.cells #[.bool false, .slice none 0 0, .slice none 0 0, .bool false, .slice none 0 0, .slice none 0 0] 53 (0, 0)) := heap_alloc_new u _
            have hsz : NN17 ≤ u.heap.size := Nat.le_trans (Nat.le_of_eq HSZ17.out.symm) HK.out.2.1.size
            refine hK.out _ _ ?_ (fun hHeld => ?_)
            · (try dsimp only)
              exact HK2.1
            clear hK K
            try simp only [Act.put, lt, ly, lu]
            rw [hF17.out]
            exact sr21.out _ _ v147 v149 u.heap.size (by kernel_rfl) HK2 (I149.out.keep hb2) Z2 hsz
        simp only [← hA17.out, Act.put, lt, ly, lu] at sr20
        replace sr20 := Lib.hid sr20
        have sr11 : ∀ (L : Array Bool) (u : World) (v147 : Value) (n15 : Nat), L = #[true, true, true, false, false, false, false, true, false, false] → Hid (Held0 w25 NN17 w25 u) → Hid (IsBox u v147 x x) → Hid (u.heap[n15]? = some (.cells #[.bool false, .slice none 0 0, .slice none 0 0, .bool false, .slice none 0 0, .slice none 0 0] 53 (0, 0))) → NN17 ≤ n15 → F17 6 L (Act.put (Act.put A17 (some 15) (.pointer (some ⟨n15, 0, none⟩))) (some 147) v147) u := by
          intro L u v147 n15 hLL HK I147 Z15 g15
          subst hLL
          rw [← hF17.out, ← hA17.out]
          try simp only [Act.put, lt, ly, lu]
          refine wpAnyH_ready (rs := [3]) (by kernel_rfl) (by simp) ?_
          refine AllReadyH.cons (o := ?o3q58) ?e3q58 ?k3q58 AllReadyH.nil
          case e3q58 => simp only [lg, lz, ls] <;> rfl
          case k3q58 =>
            intro K hK
            go_simp
            go_at_call 48
            refine (root_val' e_y1.out e_y2.out I147.out (HK.out.2.2.num hRg25.out) (Nat.le_trans zx0.out (by omega)) (Nat.le_trans zx0.out (by omega)) (Nat.le_trans zg0.out (by omega)) hg.out hx1.out).mono ?_
            rintro e u2 ⟨v2, rfl, hv2, hb2⟩
            have HK2 := Held0.call HK.out (Nat.le_of_eq HSZ17.out.symm) hb2
            refine hK.out _ _ ?_ (fun hHeld => ?_)
            · (try dsimp only)
              exact HK2.1
            clear hK K
            try simp only [Act.put, lt, ly, lu]
            refine wpAnyH_take (i := 4) (v := ?vq59) (oi := ?oq59) ?eq59 ?aq59 ?bq59 ?cq59 ?dq59 ?yq59 ?sq59 ?rq59
            case eq59 => simp only [lg, lz, ls]; rfl
            case aq59 => kernel_rfl
            case bq59 => kernel_rfl
            case cq59 => kernel_rfl
            case dq59 => exact fun _ _ _ h => h
            case yq59 =>
              refine Or.inl ⟨by rfl, ?_⟩
              intro w hSw
              (try dsimp only at hSw)
              go_simp
              try with_reducible rfl
            case sq59 => assumption
            try simp only [Act.put, lt, ly, lu]
            refine wpAnyH_take (i := 5) (v := ?vq60) (oi := ?oq60) ?eq60 ?aq60 ?bq60 ?cq60 ?dq60 ?yq60 ?sq60 ?rq60
            case eq60 => simp only [lg, lz, ls]; rfl
            case aq60 => kernel_rfl
            case bq60 => kernel_rfl
            case cq60 => kernel_rfl
            case dq60 => exact fun _ _ _ h => h
            case yq60 =>
              refine Or.inl ⟨by rfl, ?_⟩
              intro w hSw
              (try dsimp only at hSw)
              go_simp
              try with_reducible rfl
            case sq60 => assumption
            try simp only [Act.put, lt, ly, lu]
            refine wpAnyH_take (i := 6) (v := ?vq61) (oi := ?oq61) ?eq61 ?aq61 ?bq61 ?cq61 ?dq61 ?yq61 ?sq61 ?rq61
            case eq61 => simp only [lg, lz, ls]; rfl
            case aq61 => kernel_rfl
            case bq61 => kernel_rfl
            case cq61 => kernel_rfl
            case dq61 => exact fun _ _ _ h => h
            case yq61 =>
              refine Or.inl ⟨by rfl, ?_⟩
              intro w hSw
              (try dsimp only at hSw)
              go_simp
              try with_reducible rfl
            case sq61 => assumption
            try simp only [Act.put, lt, ly, lu]
            rw [hF17.out]
            exact sr21.out _ u2 v147 v2 n15 (by kernel_rfl) HK2 hv2 ((hb2.block _ (Array.getElem?_eq_some_iff.1 Z15.out).1).trans Z15.out) g15
        simp only [← hA17.out, Act.put, lt, ly, lu] at sr11
        replace sr11 := Lib.hid sr11
        have sr10 : ∀ (L : Array Bool) (u : World) (v147 : Value), L = #[true, true, true, false, false, false, false, false, false, false] → Hid (Held0 w25 NN17 w25 u) → Hid (IsBox u v147 x x) → F17 7 L (Act.put A17 (some 147) v147) u := by
          intro L u v147 hLL HK I147
          subst hLL
          rw [← hF17.out, ← hA17.out]
          try simp only [Act.put, lt, ly, lu]
          refine wpAnyH_ready (rs := [3, 7]) (by kernel_rfl) (by simp) ?_
          refine AllReadyH.cons (o := ?o3q62) ?e3q62 ?k3q62 (AllReadyH.cons (o := ?o7q62) ?e7q62 ?k7q62 AllReadyH.nil)
          case e3q62 => simp only [lg, lz, ls] <;> rfl
          case e7q62 => simp only [lg, lz, ls] <;> rfl
          case k3q62 =>
            intro K hK
            go_simp
            go_at_call 48
            refine (root_val' e_y1.out e_y2.out I147.out (HK.out.2.2.num hRg25.out) (Nat.le_trans zx0.out (by omega)) (Nat.le_trans zx0.out (by omega)) (Nat.le_trans zg0.out (by omega)) hg.out hx1.out).mono ?_
            rintro e u2 ⟨v2, rfl, hv2, hb2⟩
            have HK2 := Held0.call HK.out (Nat.le_of_eq HSZ17.out.symm) hb2
            refine hK.out _ _ ?_ (fun hHeld => ?_)
            · (try dsimp only)
              exact HK2.1
            clear hK K
            try simp only [Act.put, lt, ly, lu]
            refine wpAnyH_take (i := 4) (v := ?vq63) (oi := ?oq63) ?eq63 ?aq63 ?bq63 ?cq63 ?dq63 ?yq63 ?sq63 ?rq63
            case eq63 => simp only [lg, lz, ls]; rfl
            case aq63 => kernel_rfl
            case bq63 => kernel_rfl
            case cq63 => kernel_rfl
            case dq63 => exact fun _ _ _ h => h
            case yq63 =>
              refine Or.inl ⟨by rfl, ?_⟩
              intro w hSw
              (try dsimp only at hSw)
              go_simp
              try with_reducible rfl
            case sq63 => assumption
            try simp only [Act.put, lt, ly, lu]
            refine wpAnyH_take (i := 5) (v := ?vq64) (oi := ?oq64) ?eq64 ?aq64 ?bq64 ?cq64 ?dq64 ?yq64 ?sq64 ?rq64
            case eq64 => simp only [lg, lz, ls]; rfl
            case aq64 => kernel_rfl
            case bq64 => kernel_rfl
            case cq64 => kernel_rfl
            case dq64 => exact fun _ _ _ h => h
            case yq64 =>
              refine Or.inl ⟨by rfl, ?_⟩
              intro w hSw
              (try dsimp only at hSw)
              go_simp
              try with_reducible rfl
            case sq64 => assumption
            try simp only [Act.put, lt, ly, lu]
            refine wpAnyH_take (i := 6) (v := ?vq65) (oi := ?oq65) ?eq65 ?aq65 ?bq65 ?cq65 ?dq65 ?yq65 ?sq65 ?rq65
            case eq65 => simp only [lg, lz, ls]; rfl
            case aq65 => kernel_rfl
            case bq65 => kernel_rfl
            case cq65 => kernel_rfl
            case dq65 => exact fun _ _ _ h => h
            case yq65 =>
              refine Or.inl ⟨by rfl, ?_⟩
              intro w hSw
              (try dsimp only at hSw)
              go_simp
              try with_reducible rfl
            case sq65 => assumption
            try simp only [Act.put, lt, ly, lu]
            rw [hF17.out]
            exact sr20.out _ u2 v147 v2 (by kernel_rfl) HK2 hv2
          case k7q62 =>
            intro K hK
            go_simp
            have hb2 : Below u.heap.size u (u.alloc (.cells #[.bool false, .slice none 0 0, .slice none 0 0, .bool false, .slice none 0 0, .slice none 0 0] 53)) := (Below.refl _ _).alloc (Nat.le_refl _) _
            have HK2 := Held0.call HK.out (Nat.le_of_eq HSZ17.out.symm) hb2
            have Z2 : (u.alloc (.cells #[.bool false, .slice none 0 0, .slice none 0 0, .bool false, .slice none 0 0, .slice none 0 0] 53)).heap[u.heap.size]? = some (.cells #[.bool false, .slice none 0 0, .slice none 0 0, .bool false, .slice none 0 0, .slice none 0 0] 53 (0, 0)) := heap_alloc_new u _
            have hsz : NN17 ≤ u.heap.size := Nat.le_trans (Nat.le_of_eq HSZ17.out.symm) HK.out.2.1.size
            refine hK.out _ _ ?_ (fun hHeld => ?_)
            · (try dsimp only)
              exact HK2.1
            clear hK K
            try simp only [Act.put, lt, ly, lu]
            rw [hF17.out]
            exact sr11.out _ _ v147 u.heap.size (by kernel_rfl) HK2 (I147.out.keep hb2) Z2 hsz
        simp only [← hA17.out, Act.put, lt, ly, lu] at sr10
        replace sr10 := Lib.hid sr10
        have sr01 : ∀ (L : Array Bool) (u : World) (n15 : Nat), L = #[true, false, true, false, false, false, false, true, false, false] → Hid (Held0 w25 NN17 w25 u) → Hid (u.heap[n15]? = some (.cells #[.bool false, .slice none 0 0, .slice none 0 0, .bool false, .slice none 0 0, .slice none 0 0] 53 (0, 0))) → NN17 ≤ n15 → F17 7 L (Act.put A17 (some 15) (.pointer (some ⟨n15, 0, none⟩))) u := by
          intro L u n15 hLL HK Z15 g15
          subst hLL
          rw [← hF17.out, ← hA17.out]
          try simp only [Act.put, lt, ly, lu]
          refine wpAnyH_ready (rs := [1]) (by kernel_rfl) (by simp) ?_
          refine AllReadyH.cons (o := ?o1q66) ?e1q66 ?k1q66 AllReadyH.nil
          case e1q66 => simp only [lg, lz, ls] <;> rfl
          case k1q66 =>
            intro K hK
            go_simp
            go_at_call 49
            refine (point_val (HK.out.2.2.num hRx25.out) z_x.out).mono ?_
            rintro e u2 ⟨v2, rfl, hv2, hb2⟩
            have HK2 := Held0.call HK.out (Nat.le_of_eq HSZ17.out.symm) hb2
            refine hK.out _ _ ?_ (fun hHeld => ?_)
            · (try dsimp only)
              exact HK2.1
            clear hK K
            try simp only [Act.put, lt, ly, lu]
            rw [hF17.out]
            exact sr11.out _ u2 v2 n15 (by kernel_rfl) HK2 hv2 ((hb2.block _ (Array.getElem?_eq_some_iff.1 Z15.out).1).trans Z15.out) g15
        simp only [← hA17.out, Act.put, lt, ly, lu] at sr01
        replace sr01 := Lib.hid sr01
        have sr00 : ∀ (L : Array Bool) (u : World), L = #[true, false, true, false, false, false, false, false, false, false] → Hid (Held0 w25 NN17 w25 u) → F17 8 L A17 u := by
          intro L u  hLL HK
          subst hLL
          rw [← hF17.out, ← hA17.out]
          try simp only [Act.put, lt, ly, lu]
          refine wpAnyH_ready (rs := [1, 7]) (by kernel_rfl) (by simp) ?_
          refine AllReadyH.cons (o := ?o1q67) ?e1q67 ?k1q67 (AllReadyH.cons (o := ?o7q67) ?e7q67 ?k7q67 AllReadyH.nil)
          case e1q67 => simp only [lg, lz, ls] <;> rfl
          case e7q67 => simp only [lg, lz, ls] <;> rfl
          case k1q67 =>
            intro K hK
            go_simp
            go_at_call 49
            refine (point_val (HK.out.2.2.num hRx25.out) z_x.out).mono ?_
            rintro e u2 ⟨v2, rfl, hv2, hb2⟩
            have HK2 := Held0.call HK.out (Nat.le_of_eq HSZ17.out.symm) hb2
            refine hK.out _ _ ?_ (fun hHeld => ?_)
            · (try dsimp only)
              exact HK2.1
            clear hK K
            try simp only [Act.put, lt, ly, lu]
            rw [hF17.out]
            exact sr10.out _ u2 v2 (by kernel_rfl) HK2 hv2
          case k7q67 =>
            intro K hK
            go_simp
            have hb2 : Below u.heap.size u (u.alloc (.cells #[.bool false, .slice none 0 0, .slice none 0 0, .bool false, .slice none 0 0, .slice none 0 0] 53)) := (Below.refl _ _).alloc (Nat.le_refl _) _
            have HK2 := Held0.call HK.out (Nat.le_of_eq HSZ17.out.symm) hb2
            have Z2 : (u.alloc (.cells #[.bool false, .slice none 0 0, .slice none 0 0, .bool false, .slice none 0 0, .slice none 0 0] 53)).heap[u.heap.size]? = some (.cells #[.bool false, .slice none 0 0, .slice none 0 0, .bool false, .slice none 0 0, .slice none 0 0] 53 (0, 0)) := heap_alloc_new u _
            have hsz : NN17 ≤ u.heap.size := Nat.le_trans (Nat.le_of_eq HSZ17.out.symm) HK.out.2.1.size
            refine hK.out _ _ ?_ (fun hHeld => ?_)
            · (try dsimp only)
              exact HK2.1
            clear hK K
            try simp only [Act.put, lt, ly, lu]
            rw [hF17.out]
            exact sr01.out _ _ u.heap.size (by kernel_rfl) HK2 Z2 hsz
        simp only [← hA17.out, Act.put, lt, ly, lu] at sr00
        replace sr00 := Lib.hid sr00
        have HA := hA17.out
        subst HA
        exact sr00.out _ _ (by kernel_rfl) H0h
      simp only [← hA15.out, Act.put, lt, ly, lu] at rest
      replace rest := Lib.hid rest
      rw [← hF15.out, ← hA15.out]
      rcases Decidable.em (nd ≥ 0) with hnd | hnd
      · have d8 : decide (nd ≥ 0) = true := decide_eq_true hnd
        have d9 := d5.out (num_nonneg.1 (Int.sign_nonneg_iff.1 (by rw [e_nd.out]; omega)))
        clear hnd
        refine wpAnyH_take (i := 0) (v := ?vq68) (oi := ?oq68) ?eq68 ?aq68 ?bq68 ?cq68 ?dq68 ?yq68 ?sq68 ?rq68
        case eq68 => simp only [lg, lz, ls]; rfl
        case aq68 => kernel_rfl
        case bq68 => kernel_rfl
        case cq68 => kernel_rfl
        case dq68 => exact fun _ _ _ h => h
        case yq68 =>
          refine Or.inl ⟨by rfl, ?_⟩
          intro w hSw
          (try dsimp only at hSw)
          go_simp
          try with_reducible rfl
        case sq68 => assumption
        try simp only [Act.put, lt, ly, lu]
        refine wpAnyH_take (i := 2) (v := ?vq69) (oi := ?oq69) ?eq69 ?aq69 ?bq69 ?cq69 ?dq69 ?yq69 ?sq69 ?rq69
        case eq69 => simp only [lg, lz, ls]; rfl
        case aq69 => kernel_rfl
        case bq69 => kernel_rfl
        case cq69 => kernel_rfl
        case dq69 => exact fun _ _ _ h => h
        case yq69 =>
          refine Or.inl ⟨by rfl, ?_⟩
          intro w hSw
          (try dsimp only at hSw)
          go_simp
          try with_reducible rfl
        case sq69 => assumption
        try simp only [Act.put, lt, ly, lu]
        refine wpAnyH_take (i := 5) (v := ?vq70) (oi := ?oq70) ?eq70 ?aq70 ?bq70 ?cq70 ?dq70 ?yq70 ?sq70 ?rq70
        case eq70 => simp only [lg, lz, ls]; rfl
        case aq70 => kernel_rfl
        case bq70 => kernel_rfl
        case cq70 => kernel_rfl
        case dq70 => exact fun _ _ _ h => h
        case yq70 =>
          refine Or.inl ⟨by rfl, ?_⟩
          intro w hSw
          (try dsimp only at hSw)
          go_simp
          try with_reducible rfl
        case sq70 => assumption
        try simp only [Act.put, lt, ly, lu]
        refine wpAnyH_ready (rs := [1]) (by kernel_rfl) (by simp) ?_
        refine AllReadyH.cons (o := ?oq71) ?eq71 ?kq71 AllReadyH.nil
        case eq71 => simp only [lg, lz, ls]; rfl
        intro K hK
        go_simp
        go_at_call 40
        refine (lo_val (hRr24.out.keep b25.out) z_r1.out).mono ?_
        rintro e w26 ⟨v26, rfl, hv26, b26⟩
        obtain ⟨C31, j31, C32, j32, rfl, -, -⟩ := id hv26.opened
        replace hv26 := Lib.hid hv26
        replace b26 := Lib.hid b26
        have hk26 := Held0.call H0 (Nat.le_of_eq HSZ15.out.symm) b26.out
        have hk26' := hk26
        unfold Held0 at hk26'
        clear hHeld H0
        refine hK.out _ _ ?_ (fun hHeld => ?_)
        · (try dsimp only)
          with_reducible exact hk26'
        clear hK K hk26'
        try simp only [Act.put, lt, ly, lu]
        refine wpAnyH_ready (rs := [3]) (by kernel_rfl) (by simp) ?_
        refine AllReadyH.cons (o := ?oq72) ?eq72 ?kq72 AllReadyH.nil
        case eq72 => simp only [lg, lz, ls]; rfl
        intro K hK
        go_simp
        go_at_call 40
        refine (lo_val (hRr24.out.keep (Below.step b25.out b26.out)) z_r1.out).mono ?_
        rintro e w27 ⟨v27, rfl, hv27, b27⟩
        obtain ⟨C33, j33, C34, j34, rfl, -, -⟩ := id hv27.opened
        replace hv27 := Lib.hid hv27
        replace b27 := Lib.hid b27
        have hk27 := Held0.call hk26 (Nat.le_of_eq HSZ15.out.symm) b27.out
        have hk27' := hk27
        unfold Held0 at hk27'
        clear hHeld hk26
        refine hK.out _ _ ?_ (fun hHeld => ?_)
        · (try dsimp only)
          with_reducible exact hk27'
        clear hK K hk27'
        try simp only [Act.put, lt, ly, lu]
        refine wpAnyH_ready (rs := [4]) (by kernel_rfl) (by simp) ?_
        refine AllReadyH.cons (o := ?oq73) ?eq73 ?kq73 AllReadyH.nil
        case eq73 => simp only [lg, lz, ls]; rfl
        intro K hK
        go_simp
        go_at_call 15
        refine (mul_val' e_r11.out (hv26.out.keep b27.out) hv27.out z_r1.out z_r1.out).mono ?_
        rintro e w28 ⟨v28, rfl, hv28, b28⟩
        obtain ⟨C35, j35, C36, j36, rfl, -, -⟩ := id hv28.opened
        replace hv28 := Lib.hid hv28
        replace b28 := Lib.hid b28
        have hk28 := Held0.call hk27 (Nat.le_of_eq HSZ15.out.symm) b28.out
        have hk28' := hk28
        unfold Held0 at hk28'
        clear hHeld hk27
        refine hK.out _ _ ?_ (fun hHeld => ?_)
        · (try dsimp only)
          with_reducible exact hk28'
        clear hK K hk28'
        try simp only [Act.put, lt, ly, lu]
        refine wpAnyH_ready (rs := [6]) (by kernel_rfl) (by simp) ?_
        refine AllReadyH.cons (o := ?oq74) ?eq74 ?kq74 AllReadyH.nil
        case eq74 => simp only [lg, lz, ls]; rfl
        intro K hK
        go_simp
        go_at_call 21
        refine (cmp_val e_c3.out hv28.out (I12_14.out.keep (Below.step (Below.step (Below.step b25.out b26.out) b27.out) b28.out)) z_r11.out z_x.out).mono ?_
        rintro e w29 ⟨rfl, b29⟩
        replace b29 := Lib.hid b29
        have hk29 := Held0.call hk28 (Nat.le_of_eq HSZ15.out.symm) b29.out
        have hk29' := hk29
        unfold Held0 at hk29'
        clear hHeld hk28
        refine hK.out _ _ ?_ (fun hHeld => ?_)
        · (try dsimp only)
          with_reducible exact hk29'
        clear hK K hk29'
        try simp only [Act.put, lt, ly, lu]
        refine wpAnyH_take (i := 7) (v := ?vq75) (oi := ?oq75) ?eq75 ?aq75 ?bq75 ?cq75 ?dq75 ?yq75 ?sq75 ?rq75
        case eq75 => simp only [lg, lz, ls]; rfl
        case aq75 => kernel_rfl
        case bq75 => kernel_rfl
        case cq75 => kernel_rfl
        case dq75 => exact fun _ _ _ h => h
        case yq75 =>
          refine Or.inl ⟨by rfl, ?_⟩
          intro w hSw
          (try dsimp only at hSw)
          go_simp
          try with_reducible rfl
        case sq75 => assumption
        try simp only [Act.put, lt, ly, lu]
        refine wpAnyH_take (i := 8) (v := ?vq76) (oi := ?oq76) ?eq76 ?aq76 ?bq76 ?cq76 ?dq76 ?yq76 ?sq76 ?rq76
        case eq76 => simp only [lg, lz, ls]; rfl
        case aq76 => kernel_rfl
        case bq76 => kernel_rfl
        case cq76 => kernel_rfl
        case dq76 => exact fun _ _ _ h => h
        case yq76 =>
          refine Or.inl ⟨by rfl, ?_⟩
          intro w hSw
          (try dsimp only at hSw)
          go_simp
          try with_reducible rfl
        case sq76 => assumption
        try simp only [Act.put, lt, ly, lu]
        refine wpAnyH_take (i := 9) (v := ?vq77) (oi := ?oq77) ?eq77 ?aq77 ?bq77 ?cq77 ?dq77 ?yq77 ?sq77 ?rq77
        case eq77 => simp only [lg, lz, ls]; rfl
        case aq77 => kernel_rfl
        case bq77 => kernel_rfl
        case cq77 => kernel_rfl
        case dq77 => exact fun _ _ _ h => h
        case yq77 =>
          refine Or.inl ⟨by rfl, ?_⟩
          intro w hSw
          (try dsimp only at hSw)
          go_simp
          try with_reducible rfl
        case sq77 => assumption
        try simp only [Act.put, lt, ly, lu]
        refine wpAnyH_take (i := 11) (v := ?vq78) (oi := ?oq78) ?eq78 ?aq78 ?bq78 ?cq78 ?dq78 ?yq78 ?sq78 ?rq78
        case eq78 => simp only [lg, lz, ls]; rfl
        case aq78 => kernel_rfl
        case bq78 => kernel_rfl
        case cq78 => kernel_rfl
        case dq78 => exact fun _ _ _ h => h
        case yq78 =>
          refine Or.inl ⟨by rfl, ?_⟩
          intro w hSw
          (try dsimp only at hSw)
          go_simp
          try with_reducible rfl
        case sq78 => assumption
        try simp only [Act.put, lt, ly, lu]
        refine wpAnyH_take (i := 14) (v := ?vq79) (oi := ?oq79) ?eq79 ?aq79 ?bq79 ?cq79 ?dq79 ?yq79 ?sq79 ?rq79
        case eq79 => simp only [lg, lz, ls]; rfl
        case aq79 => kernel_rfl
        case bq79 => kernel_rfl
        case cq79 => kernel_rfl
        case dq79 => exact fun _ _ _ h => h
        case yq79 =>
          refine Or.inl ⟨by rfl, ?_⟩
          intro w hSw
          (try dsimp only at hSw)
          go_simp
          try with_reducible rfl
        case sq79 => assumption
        try simp only [Act.put, lt, ly, lu]
        refine wpAnyH_ready (rs := [10]) (by kernel_rfl) (by simp) ?_
        refine AllReadyH.cons (o := ?oq80) ?eq80 ?kq80 AllReadyH.nil
        case eq80 => simp only [lg, lz, ls]; rfl
        intro K hK
        go_simp
        go_at_call 41
        refine (hi_val (hRr24.out.keep (Below.step (Below.step (Below.step (Below.step b25.out b26.out) b27.out) b28.out) b29.out)) z_r2.out).mono ?_
        rintro e w30 ⟨v30, rfl, hv30, b30⟩
        obtain ⟨C37, j37, C38, j38, rfl, -, -⟩ := id hv30.opened
        replace hv30 := Lib.hid hv30
        replace b30 := Lib.hid b30
        have hk30 := Held0.call hk29 (Nat.le_of_eq HSZ15.out.symm) b30.out
        have hk30' := hk30
        unfold Held0 at hk30'
        clear hHeld hk29
        refine hK.out _ _ ?_ (fun hHeld => ?_)
        · (try dsimp only)
          with_reducible exact hk30'
        clear hK K hk30'
        try simp only [Act.put, lt, ly, lu]
        refine wpAnyH_ready (rs := [12]) (by kernel_rfl) (by simp) ?_
        refine AllReadyH.cons (o := ?oq81) ?eq81 ?kq81 AllReadyH.nil
        case eq81 => simp only [lg, lz, ls]; rfl
        intro K hK
        go_simp
        go_at_call 41
        refine (hi_val (hRr24.out.keep (Below.step (Below.step (Below.step (Below.step (Below.step b25.out b26.out) b27.out) b28.out) b29.out) b30.out)) z_r2.out).mono ?_
        rintro e w31 ⟨v31, rfl, hv31, b31⟩
        obtain ⟨C39, j39, C40, j40, rfl, -, -⟩ := id hv31.opened
        replace hv31 := Lib.hid hv31
        replace b31 := Lib.hid b31
        have hk31 := Held0.call hk30 (Nat.le_of_eq HSZ15.out.symm) b31.out
        have hk31' := hk31
        unfold Held0 at hk31'
        clear hHeld hk30
        refine hK.out _ _ ?_ (fun hHeld => ?_)
        · (try dsimp only)
          with_reducible exact hk31'
        clear hK K hk31'
        try simp only [Act.put, lt, ly, lu]
        refine wpAnyH_ready (rs := [13]) (by kernel_rfl) (by simp) ?_
        refine AllReadyH.cons (o := ?oq82) ?eq82 ?kq82 AllReadyH.nil
        case eq82 => simp only [lg, lz, ls]; rfl
        intro K hK
        go_simp
        go_at_call 15
        refine (mul_val' e_r22.out (hv30.out.keep b31.out) hv31.out z_r2.out z_r2.out).mono ?_
        rintro e w32 ⟨v32, rfl, hv32, b32⟩
        obtain ⟨C41, j41, C42, j42, rfl, -, -⟩ := id hv32.opened
        replace hv32 := Lib.hid hv32
        replace b32 := Lib.hid b32
        have hk32 := Held0.call hk31 (Nat.le_of_eq HSZ15.out.symm) b32.out
        have hk32' := hk32
        unfold Held0 at hk32'
        clear hHeld hk31
        refine hK.out _ _ ?_ (fun hHeld => ?_)
        · (try dsimp only)
          with_reducible exact hk32'
        clear hK K hk32'
        try simp only [Act.put, lt, ly, lu]
        refine wpAnyH_ready (rs := [15]) (by kernel_rfl) (by simp) ?_
        refine AllReadyH.cons (o := ?oq83) ?eq83 ?kq83 AllReadyH.nil
        case eq83 => simp only [lg, lz, ls]; rfl
        intro K hK
        go_simp
        go_at_call 21
        refine (cmp_val e_c4.out hv32.out (I12_14.out.keep (Below.step (Below.step (Below.step (Below.step (Below.step (Below.step (Below.step b25.out b26.out) b27.out) b28.out) b29.out) b30.out) b31.out) b32.out)) z_r22.out z_x.out).mono ?_
        rintro e w33 ⟨rfl, b33⟩
        replace b33 := Lib.hid b33
        have hk33 := Held0.call hk32 (Nat.le_of_eq HSZ15.out.symm) b33.out
        have hk33' := hk33
        unfold Held0 at hk33'
        clear hHeld hk32
        refine hK.out _ _ ?_ (fun hHeld => ?_)
        · (try dsimp only)
          with_reducible exact hk33'
        clear hK K hk33'
        try simp only [Act.put, lt, ly, lu]
        refine wpAnyH_take (i := 16) (v := ?vq84) (oi := ?oq84) ?eq84 ?aq84 ?bq84 ?cq84 ?dq84 ?yq84 ?sq84 ?rq84
        case eq84 => simp only [lg, lz, ls]; rfl
        case aq84 => kernel_rfl
        case bq84 => kernel_rfl
        case cq84 => kernel_rfl
        case dq84 => exact fun _ _ _ h => h
        case yq84 =>
          refine Or.inl ⟨by rfl, ?_⟩
          intro w hSw
          (try dsimp only at hSw)
          go_simp
          try with_reducible rfl
        case sq84 => assumption
        try simp only [Act.put, lt, ly, lu]
        refine wpAnyH_take (i := 17) (v := ?vq85) (oi := ?oq85) ?eq85 ?aq85 ?bq85 ?cq85 ?dq85 ?yq85 ?sq85 ?rq85
        case eq85 => simp only [lg, lz, ls]; rfl
        case aq85 => kernel_rfl
        case bq85 => kernel_rfl
        case cq85 => kernel_rfl
        case dq85 => exact fun _ _ _ h => h
        case yq85 =>
          refine Or.inl ⟨by rfl, ?_⟩
          intro w hSw
          (try dsimp only at hSw)
          go_simp
          try with_reducible rfl
        case sq85 => assumption
        try simp only [Act.put, lt, ly, lu]
        refine wpAnyH_take (i := 18) (v := ?vq86) (oi := ?oq86) ?eq86 ?aq86 ?bq86 ?cq86 ?dq86 ?yq86 ?sq86 ?rq86
        case eq86 => simp only [lg, lz, ls]; rfl
        case aq86 => kernel_rfl
        case bq86 => kernel_rfl
        case cq86 => kernel_rfl
        case dq86 => exact fun _ _ _ h => h
        case yq86 =>
          refine Or.inl ⟨by rfl, ?_⟩
          intro w hSw
          (try dsimp only at hSw)
          go_simp
          try with_reducible rfl
        case sq86 => assumption
        try simp only [Act.put, lt, ly, lu]
        refine wpAnyH_take (i := 19) (v := ?vq87) (oi := ?oq87) ?eq87 ?aq87 ?bq87 ?cq87 ?dq87 ?yq87 ?sq87 ?rq87
        case eq87 => simp only [lg, lz, ls]; rfl
        case aq87 => kernel_rfl
        case bq87 => kernel_rfl
        case cq87 => kernel_rfl
        case dq87 => exact fun _ _ _ h => h
        case yq87 =>
          refine Or.inl ⟨by rfl, ?_⟩
          intro w hSw
          (try dsimp only at hSw)
          go_simp
          try with_reducible rfl
        case sq87 => assumption
        try simp only [Act.put, lt, ly, lu]
        refine wpAnyH_take (i := 20) (v := ?vq88) (oi := ?oq88) ?eq88 ?aq88 ?bq88 ?cq88 ?dq88 ?yq88 ?sq88 ?rq88
        case eq88 => simp only [lg, lz, ls]; rfl
        case aq88 => kernel_rfl
        case bq88 => kernel_rfl
        case cq88 => kernel_rfl
        case dq88 => exact fun _ _ _ h => h
        case yq88 =>
          refine Or.inl ⟨by rfl, ?_⟩
          intro w hSw
          (try dsimp only at hSw)
          go_simp
          try with_reducible rfl
        case sq88 => assumption
        try simp only [Act.put, lt, ly, lu]
        refine wpAnyH_take (i := 22) (v := ?vq89) (oi := ?oq89) ?eq89 ?aq89 ?bq89 ?cq89 ?dq89 ?yq89 ?sq89 ?rq89
        case eq89 => simp only [lg, lz, ls]; rfl
        case aq89 => kernel_rfl
        case bq89 => kernel_rfl
        case cq89 => kernel_rfl
        case dq89 => exact fun _ _ _ h => h
        case yq89 =>
          refine Or.inl ⟨by rfl, ?_⟩
          intro w hSw
          (try dsimp only at hSw)
          go_simp
          try with_reducible rfl
        case sq89 => assumption
        try simp only [Act.put, lt, ly, lu]
        refine wpAnyH_ready (rs := [21]) (by kernel_rfl) (by simp) ?_
        refine AllReadyH.cons (o := ?oq90) ?eq90 ?kq90 AllReadyH.nil
        case eq90 => simp only [lg, lz, ls]; rfl
        intro K hK
        go_simp
        go_at_call 15
        refine (mul_val' e_uu.out (I13_14.out.keep (Below.step (Below.step (Below.step (Below.step (Below.step (Below.step (Below.step (Below.step b25.out b26.out) b27.out) b28.out) b29.out) b30.out) b31.out) b32.out) b33.out)) (I13_14.out.keep (Below.step (Below.step (Below.step (Below.step (Below.step (Below.step (Below.step (Below.step b25.out b26.out) b27.out) b28.out) b29.out) b30.out) b31.out) b32.out) b33.out)) z_up.out z_up.out).mono ?_
        rintro e w34 ⟨v34, rfl, hv34, b34⟩
        obtain ⟨C43, j43, C44, j44, rfl, -, -⟩ := id hv34.opened
        replace hv34 := Lib.hid hv34
        replace b34 := Lib.hid b34
        have hk34 := Held0.call hk33 (Nat.le_of_eq HSZ15.out.symm) b34.out
        have hk34' := hk34
        unfold Held0 at hk34'
        clear hHeld hk33
        refine hK.out _ _ ?_ (fun hHeld => ?_)
        · (try dsimp only)
          with_reducible exact hk34'
        clear hK K hk34'
        try simp only [Act.put, lt, ly, lu]
        refine wpAnyH_ready (rs := [23]) (by kernel_rfl) (by simp) ?_
        refine AllReadyH.cons (o := ?oq91) ?eq91 ?kq91 AllReadyH.nil
        case eq91 => simp only [lg, lz, ls]; rfl
        intro K hK
        go_simp
        go_at_call 40
        refine (lo_val (hRs24.out.keep (Below.step (Below.step (Below.step (Below.step (Below.step (Below.step (Below.step (Below.step (Below.step b25.out b26.out) b27.out) b28.out) b29.out) b30.out) b31.out) b32.out) b33.out) b34.out)) z_l.out).mono ?_
        rintro e w35 ⟨v35, rfl, hv35, b35⟩
        obtain ⟨C45, j45, C46, j46, rfl, -, -⟩ := id hv35.opened
        replace hv35 := Lib.hid hv35
        replace b35 := Lib.hid b35
        have hk35 := Held0.call hk34 (Nat.le_of_eq HSZ15.out.symm) b35.out
        have hk35' := hk35
        unfold Held0 at hk35'
        clear hHeld hk34
        refine hK.out _ _ ?_ (fun hHeld => ?_)
        · (try dsimp only)
          with_reducible exact hk35'
        clear hK K hk35'
        try simp only [Act.put, lt, ly, lu]
        refine wpAnyH_ready (rs := [24]) (by kernel_rfl) (by simp) ?_
        refine AllReadyH.cons (o := ?oq92) ?eq92 ?kq92 AllReadyH.nil
        case eq92 => simp only [lg, lz, ls]; rfl
        intro K hK
        go_simp
        go_at_call 21
        refine (cmp_val e_c5.out (hv34.out.keep b35.out) hv35.out z_uu.out z_l.out).mono ?_
        rintro e w36 ⟨rfl, b36⟩
        replace b36 := Lib.hid b36
        have hk36 := Held0.call hk35 (Nat.le_of_eq HSZ15.out.symm) b36.out
        have hk36' := hk36
        unfold Held0 at hk36'
        clear hHeld hk35
        refine hK.out _ _ ?_ (fun hHeld => ?_)
        · (try dsimp only)
          with_reducible exact hk36'
        clear hK K hk36'
        try simp only [Act.put, lt, ly, lu]
        refine wpAnyH_take (i := 25) (v := ?vq93) (oi := ?oq93) ?eq93 ?aq93 ?bq93 ?cq93 ?dq93 ?yq93 ?sq93 ?rq93
        case eq93 => simp only [lg, lz, ls]; rfl
        case aq93 => kernel_rfl
        case bq93 => kernel_rfl
        case cq93 => kernel_rfl
        case dq93 => exact fun _ _ _ h => h
        case yq93 =>
          refine Or.inl ⟨by rfl, ?_⟩
          intro w hSw
          (try dsimp only at hSw)
          go_simp
          try with_reducible rfl
        case sq93 => assumption
        try simp only [Act.put, lt, ly, lu]
        refine wpAnyH_take (i := 26) (v := ?vq94) (oi := ?oq94) ?eq94 ?aq94 ?bq94 ?cq94 ?dq94 ?yq94 ?sq94 ?rq94
        case eq94 => simp only [lg, lz, ls]; rfl
        case aq94 => kernel_rfl
        case bq94 => kernel_rfl
        case cq94 => kernel_rfl
        case dq94 => exact fun _ _ _ h => h
        case yq94 =>
          refine Or.inl ⟨by rfl, ?_⟩
          intro w hSw
          (try dsimp only at hSw)
          go_simp
          try with_reducible rfl
        case sq94 => assumption
        try simp only [Act.put, lt, ly, lu]
        refine wpAnyH_take (i := 27) (v := ?vq95) (oi := ?oq95) ?eq95 ?aq95 ?bq95 ?cq95 ?dq95 ?yq95 ?sq95 ?rq95
        case eq95 => simp only [lg, lz, ls]; rfl
        case aq95 => kernel_rfl
        case bq95 => kernel_rfl
        case cq95 => kernel_rfl
        case dq95 => exact fun _ _ _ h => h
        case yq95 =>
          refine Or.inl ⟨by rfl, ?_⟩
          intro w hSw
          (try dsimp only at hSw)
          go_simp
          try with_reducible rfl
        case sq95 => assumption
        try simp only [Act.put, lt, ly, lu]
        refine wpAnyH_take (i := 28) (v := ?vq96) (oi := ?oq96) ?eq96 ?aq96 ?bq96 ?cq96 ?dq96 ?yq96 ?sq96 ?rq96
        case eq96 => simp only [lg, lz, ls]; rfl
        case aq96 => kernel_rfl
        case bq96 => kernel_rfl
        case cq96 => kernel_rfl
        case dq96 => exact fun _ _ _ h => h
        case yq96 =>
          refine Or.inl ⟨by rfl, ?_⟩
          intro w hSw
          (try dsimp only at hSw)
          go_simp
          try with_reducible rfl
        case sq96 => assumption
        try simp only [Act.put, lt, ly, lu]
        refine wpAnyH_ready (rs := [29]) (by kernel_rfl) (by simp) ?_
        refine AllReadyH.cons (o := ?oq97) ?eq97 ?kq97 AllReadyH.nil
        case eq97 => simp only [lg, lz, ls]; rfl
        intro K hK
        go_simp
        go_at_call 20
        refine (sign_val e_nd.out (I14_14.out.keep (Below.step (Below.step (Below.step (Below.step (Below.step (Below.step (Below.step (Below.step (Below.step (Below.step (Below.step b25.out b26.out) b27.out) b28.out) b29.out) b30.out) b31.out) b32.out) b33.out) b34.out) b35.out) b36.out))).mono ?_
        rintro e w37 ⟨rfl, b37⟩
        replace b37 := Lib.hid b37
        have hk37 := Held0.call hk36 (Nat.le_of_eq HSZ15.out.symm) b37.out
        have hk37' := hk37
        unfold Held0 at hk37'
        clear hHeld hk36
        refine hK.out _ _ ?_ (fun hHeld => ?_)
        · (try dsimp only)
          with_reducible exact hk37'
        clear hK K hk37'
        try simp only [Act.put, lt, ly, lu]
        refine wpAnyH_take (i := 30) (v := ?vq98) (oi := ?oq98) ?eq98 ?aq98 ?bq98 ?cq98 ?dq98 ?yq98 ?sq98 ?rq98
        case eq98 => simp only [lg, lz, ls]; rfl
        case aq98 => kernel_rfl
        case bq98 => kernel_rfl
        case cq98 => kernel_rfl
        case dq98 => exact fun _ _ _ h => h
        case yq98 =>
          refine Or.inl ⟨by rfl, ?_⟩
          intro w hSw
          (try dsimp only at hSw)
          go_simp
          try with_reducible rfl
        case sq98 => assumption
        try simp only [Act.put, lt, ly, lu]
        refine wpAnyH_take (i := 31) (v := ?vq99) (oi := ?oq99) ?eq99 ?aq99 ?bq99 ?cq99 ?dq99 ?yq99 ?sq99 ?rq99
        case eq99 => simp only [lg, lz, ls]; rfl
        case aq99 => kernel_rfl
        case bq99 => kernel_rfl
        case cq99 => kernel_rfl
        case dq99 => exact fun _ _ _ h => h
        case yq99 =>
          refine Or.inl ⟨by rfl, ?_⟩
          intro w hSw
          (try dsimp only at hSw)
          go_simp
          try with_reducible rfl
        case sq99 => assumption
        try simp only [Act.put, lt, ly, lu]
        refine wpAnyH_take (i := 32) (v := ?vq100) (oi := ?oq100) ?eq100 ?aq100 ?bq100 ?cq100 ?dq100 ?yq100 ?sq100 ?rq100
        case eq100 => simp only [lg, lz, ls]; rfl
        case aq100 => kernel_rfl
        case bq100 => kernel_rfl
        case cq100 => kernel_rfl
        case dq100 => exact fun _ _ _ h => h
        case yq100 =>
          refine Or.inl ⟨by rfl, ?_⟩
          intro w hSw
          (try dsimp only at hSw)
          go_simp
          try with_reducible rfl
        case sq100 => assumption
        try simp only [Act.put, lt, ly, lu]
        refine wpAnyH_take (i := 33) (v := ?vq101) (oi := ?oq101) ?eq101 ?aq101 ?bq101 ?cq101 ?dq101 ?yq101 ?sq101 ?rq101
        case eq101 => simp only [lg, lz, ls]; rfl
        case aq101 => kernel_rfl
        case bq101 => kernel_rfl
        case cq101 => kernel_rfl
        case dq101 => exact fun _ _ _ h => h
        case yq101 =>
          refine Or.inl ⟨by rfl, ?_⟩
          intro w hSw
          (try dsimp only at hSw)
          go_simp
          try with_reducible rfl
        case sq101 => assumption
        try simp only [Act.put, lt, ly, lu]
        refine wpAnyH_take (i := 35) (v := ?vq102) (oi := ?oq102) ?eq102 ?aq102 ?bq102 ?cq102 ?dq102 ?yq102 ?sq102 ?rq102
        case eq102 => simp only [lg, lz, ls]; rfl
        case aq102 => kernel_rfl
        case bq102 => kernel_rfl
        case cq102 => kernel_rfl
        case dq102 => exact fun _ _ _ h => h
        case yq102 =>
          refine Or.inl ⟨by rfl, ?_⟩
          intro w hSw
          (try dsimp only at hSw)
          go_simp
          try with_reducible rfl
        case sq102 => assumption
        try simp only [Act.put, lt, ly, lu]
        refine wpAnyH_ready (rs := [34]) (by kernel_rfl) (by simp) ?_
        refine AllReadyH.cons (o := ?oq103) ?eq103 ?kq103 AllReadyH.nil
        case eq103 => simp only [lg, lz, ls]; rfl
        intro K hK
        go_simp
        go_at_call 15
        refine (mul_val' e_dd.out (I14_14.out.keep (Below.step (Below.step (Below.step (Below.step (Below.step (Below.step (Below.step (Below.step (Below.step (Below.step (Below.step (Below.step b25.out b26.out) b27.out) b28.out) b29.out) b30.out) b31.out) b32.out) b33.out) b34.out) b35.out) b36.out) b37.out)) (I14_14.out.keep (Below.step (Below.step (Below.step (Below.step (Below.step (Below.step (Below.step (Below.step (Below.step (Below.step (Below.step (Below.step b25.out b26.out) b27.out) b28.out) b29.out) b30.out) b31.out) b32.out) b33.out) b34.out) b35.out) b36.out) b37.out)) z_dn.out z_dn.out).mono ?_
        rintro e w38 ⟨v38, rfl, hv38, b38⟩
        obtain ⟨C47, j47, C48, j48, rfl, -, -⟩ := id hv38.opened
        replace hv38 := Lib.hid hv38
        replace b38 := Lib.hid b38
        have hk38 := Held0.call hk37 (Nat.le_of_eq HSZ15.out.symm) b38.out
        have hk38' := hk38
        unfold Held0 at hk38'
        clear hHeld hk37
        refine hK.out _ _ ?_ (fun hHeld => ?_)
        · (try dsimp only)
          with_reducible exact hk38'
        clear hK K hk38'
        try simp only [Act.put, lt, ly, lu]
        refine wpAnyH_ready (rs := [36]) (by kernel_rfl) (by simp) ?_
        refine AllReadyH.cons (o := ?oq104) ?eq104 ?kq104 AllReadyH.nil
        case eq104 => simp only [lg, lz, ls]; rfl
        intro K hK
        go_simp
        go_at_call 41
        refine (hi_val (hRs24.out.keep (Below.step (Below.step (Below.step (Below.step (Below.step (Below.step (Below.step (Below.step (Below.step (Below.step (Below.step (Below.step (Below.step b25.out b26.out) b27.out) b28.out) b29.out) b30.out) b31.out) b32.out) b33.out) b34.out) b35.out) b36.out) b37.out) b38.out)) z_h.out).mono ?_
        rintro e w39 ⟨v39, rfl, hv39, b39⟩
        obtain ⟨C49, j49, C50, j50, rfl, -, -⟩ := id hv39.opened
        replace hv39 := Lib.hid hv39
        replace b39 := Lib.hid b39
        have hk39 := Held0.call hk38 (Nat.le_of_eq HSZ15.out.symm) b39.out
        have hk39' := hk39
        unfold Held0 at hk39'
        clear hHeld hk38
        refine hK.out _ _ ?_ (fun hHeld => ?_)
        · (try dsimp only)
          with_reducible exact hk39'
        clear hK K hk39'
        try simp only [Act.put, lt, ly, lu]
        refine wpAnyH_ready (rs := [37]) (by kernel_rfl) (by simp) ?_
        refine AllReadyH.cons (o := ?oq105) ?eq105 ?kq105 AllReadyH.nil
        case eq105 => simp only [lg, lz, ls]; rfl
        intro K hK
        go_simp
        go_at_call 21
        refine (cmp_val e_c6.out (hv38.out.keep b39.out) hv39.out z_dd.out z_h.out).mono ?_
        rintro e w40 ⟨rfl, b40⟩
        replace b40 := Lib.hid b40
        have hk40 := Held0.call hk39 (Nat.le_of_eq HSZ15.out.symm) b40.out
        have hk40' := hk40
        unfold Held0 at hk40'
        clear hHeld hk39
        refine hK.out _ _ ?_ (fun hHeld => ?_)
        · (try dsimp only)
          with_reducible exact hk40'
        clear hK K hk40'
        try simp only [Act.put, lt, ly, lu]
        refine wpAnyH_take (i := 38) (v := ?vq106) (oi := ?oq106) ?eq106 ?aq106 ?bq106 ?cq106 ?dq106 ?yq106 ?sq106 ?rq106
        case eq106 => simp only [lg, lz, ls]; rfl
        case aq106 => kernel_rfl
        case bq106 => kernel_rfl
        case cq106 => kernel_rfl
        case dq106 => exact fun _ _ _ h => h
        case yq106 =>
          refine Or.inl ⟨by rfl, ?_⟩
          intro w hSw
          (try dsimp only at hSw)
          go_simp
          try with_reducible rfl
        case sq106 => assumption
        try simp only [Act.put, lt, ly, lu]
        refine wpAnyH_take (i := 39) (v := ?vq107) (oi := ?oq107) ?eq107 ?aq107 ?bq107 ?cq107 ?dq107 ?yq107 ?sq107 ?rq107
        case eq107 => simp only [lg, lz, ls]; rfl
        case aq107 => kernel_rfl
        case bq107 => kernel_rfl
        case cq107 => kernel_rfl
        case dq107 => exact fun _ _ _ h => h
        case yq107 =>
          refine Or.inl ⟨by rfl, ?_⟩
          intro w hSw
          (try dsimp only at hSw)
          go_simp
          try with_reducible rfl
        case sq107 => assumption
        try simp only [Act.put, lt, ly, lu]
        refine wpAnyH_take (i := 40) (v := ?vq108) (oi := ?oq108) ?eq108 ?aq108 ?bq108 ?cq108 ?dq108 ?yq108 ?sq108 ?rq108
        case eq108 => simp only [lg, lz, ls]; rfl
        case aq108 => kernel_rfl
        case bq108 => kernel_rfl
        case cq108 => kernel_rfl
        case dq108 => exact fun _ _ _ h => h
        case yq108 =>
          refine Or.inl ⟨by rfl, ?_⟩
          intro w hSw
          (try dsimp only at hSw)
          go_simp
          try with_reducible rfl
        case sq108 => assumption
        try simp only [Act.put, lt, ly, lu]
        have HKz := Lib.hid hk40
        rw [hF15.out]
        exact rest.out _ _ _ _ _ _ _ _ _ _ _ _ _ _ _ _ _ _ _ _ _ _ _ _ _ _ _ _ _ _ _ _ _ _ _ _ _ _ _ _ _ _ (by kernel_rfl) HKz
      · have d8 : decide (nd ≥ 0) = false := decide_eq_false hnd
        clear hnd
        refine wpAnyH_take (i := 0) (v := ?vq109) (oi := ?oq109) ?eq109 ?aq109 ?bq109 ?cq109 ?dq109 ?yq109 ?sq109 ?rq109
        case eq109 => simp only [lg, lz, ls]; rfl
        case aq109 => kernel_rfl
        case bq109 => kernel_rfl
        case cq109 => kernel_rfl
        case dq109 => exact fun _ _ _ h => h
        case yq109 =>
          refine Or.inl ⟨by rfl, ?_⟩
          intro w hSw
          (try dsimp only at hSw)
          go_simp
          try with_reducible rfl
        case sq109 => assumption
        try simp only [Act.put, lt, ly, lu]
        refine wpAnyH_take (i := 2) (v := ?vq110) (oi := ?oq110) ?eq110 ?aq110 ?bq110 ?cq110 ?dq110 ?yq110 ?sq110 ?rq110
        case eq110 => simp only [lg, lz, ls]; rfl
        case aq110 => kernel_rfl
        case bq110 => kernel_rfl
        case cq110 => kernel_rfl
        case dq110 => exact fun _ _ _ h => h
        case yq110 =>
          refine Or.inl ⟨by rfl, ?_⟩
          intro w hSw
          (try dsimp only at hSw)
          go_simp
          try with_reducible rfl
        case sq110 => assumption
        try simp only [Act.put, lt, ly, lu]
        refine wpAnyH_take (i := 5) (v := ?vq111) (oi := ?oq111) ?eq111 ?aq111 ?bq111 ?cq111 ?dq111 ?yq111 ?sq111 ?rq111
        case eq111 => simp only [lg, lz, ls]; rfl
        case aq111 => kernel_rfl
        case bq111 => kernel_rfl
        case cq111 => kernel_rfl
        case dq111 => exact fun _ _ _ h => h
        case yq111 =>
          refine Or.inl ⟨by rfl, ?_⟩
          intro w hSw
          (try dsimp only at hSw)
          go_simp
          try with_reducible rfl
        case sq111 => assumption
        try simp only [Act.put, lt, ly, lu]
        refine wpAnyH_ready (rs := [1]) (by kernel_rfl) (by simp) ?_
        refine AllReadyH.cons (o := ?oq112) ?eq112 ?kq112 AllReadyH.nil
        case eq112 => simp only [lg, lz, ls]; rfl
        intro K hK
        go_simp
        go_at_call 40
        refine (lo_val (hRr24.out.keep b25.out) z_r1.out).mono ?_
        rintro e w26 ⟨v26, rfl, hv26, b26⟩
        obtain ⟨C31, j31, C32, j32, rfl, -, -⟩ := id hv26.opened
        replace hv26 := Lib.hid hv26
        replace b26 := Lib.hid b26
        have hk26 := Held0.call H0 (Nat.le_of_eq HSZ15.out.symm) b26.out
        have hk26' := hk26
        unfold Held0 at hk26'
        clear hHeld H0
        refine hK.out _ _ ?_ (fun hHeld => ?_)
        · (try dsimp only)
          with_reducible exact hk26'
        clear hK K hk26'
        try simp only [Act.put, lt, ly, lu]
        refine wpAnyH_ready (rs := [3]) (by kernel_rfl) (by simp) ?_
        refine AllReadyH.cons (o := ?oq113) ?eq113 ?kq113 AllReadyH.nil
        case eq113 => simp only [lg, lz, ls]; rfl
        intro K hK
        go_simp
        go_at_call 40
        refine (lo_val (hRr24.out.keep (Below.step b25.out b26.out)) z_r1.out).mono ?_
        rintro e w27 ⟨v27, rfl, hv27, b27⟩
        obtain ⟨C33, j33, C34, j34, rfl, -, -⟩ := id hv27.opened
        replace hv27 := Lib.hid hv27
        replace b27 := Lib.hid b27
        have hk27 := Held0.call hk26 (Nat.le_of_eq HSZ15.out.symm) b27.out
        have hk27' := hk27
        unfold Held0 at hk27'
        clear hHeld hk26
        refine hK.out _ _ ?_ (fun hHeld => ?_)
        · (try dsimp only)
          with_reducible exact hk27'
        clear hK K hk27'
        try simp only [Act.put, lt, ly, lu]
        refine wpAnyH_ready (rs := [4]) (by kernel_rfl) (by simp) ?_
        refine AllReadyH.cons (o := ?oq114) ?eq114 ?kq114 AllReadyH.nil
        case eq114 => simp only [lg, lz, ls]; rfl
        intro K hK
        go_simp
        go_at_call 15
        refine (mul_val' e_r11.out (hv26.out.keep b27.out) hv27.out z_r1.out z_r1.out).mono ?_
        rintro e w28 ⟨v28, rfl, hv28, b28⟩
        obtain ⟨C35, j35, C36, j36, rfl, -, -⟩ := id hv28.opened
        replace hv28 := Lib.hid hv28
        replace b28 := Lib.hid b28
        have hk28 := Held0.call hk27 (Nat.le_of_eq HSZ15.out.symm) b28.out
        have hk28' := hk28
        unfold Held0 at hk28'
        clear hHeld hk27
        refine hK.out _ _ ?_ (fun hHeld => ?_)
        · (try dsimp only)
          with_reducible exact hk28'
        clear hK K hk28'
        try simp only [Act.put, lt, ly, lu]
        refine wpAnyH_ready (rs := [6]) (by kernel_rfl) (by simp) ?_
        refine AllReadyH.cons (o := ?oq115) ?eq115 ?kq115 AllReadyH.nil
        case eq115 => simp only [lg, lz, ls]; rfl
        intro K hK
        go_simp
        go_at_call 21
        refine (cmp_val e_c3.out hv28.out (I12_14.out.keep (Below.step (Below.step (Below.step b25.out b26.out) b27.out) b28.out)) z_r11.out z_x.out).mono ?_
        rintro e w29 ⟨rfl, b29⟩
        replace b29 := Lib.hid b29
        have hk29 := Held0.call hk28 (Nat.le_of_eq HSZ15.out.symm) b29.out
        have hk29' := hk29
        unfold Held0 at hk29'
        clear hHeld hk28
        refine hK.out _ _ ?_ (fun hHeld => ?_)
        · (try dsimp only)
          with_reducible exact hk29'
        clear hK K hk29'
        try simp only [Act.put, lt, ly, lu]
        refine wpAnyH_take (i := 7) (v := ?vq116) (oi := ?oq116) ?eq116 ?aq116 ?bq116 ?cq116 ?dq116 ?yq116 ?sq116 ?rq116
        case eq116 => simp only [lg, lz, ls]; rfl
        case aq116 => kernel_rfl
        case bq116 => kernel_rfl
        case cq116 => kernel_rfl
        case dq116 => exact fun _ _ _ h => h
        case yq116 =>
          refine Or.inl ⟨by rfl, ?_⟩
          intro w hSw
          (try dsimp only at hSw)
          go_simp
          try with_reducible rfl
        case sq116 => assumption
        try simp only [Act.put, lt, ly, lu]
        refine wpAnyH_take (i := 8) (v := ?vq117) (oi := ?oq117) ?eq117 ?aq117 ?bq117 ?cq117 ?dq117 ?yq117 ?sq117 ?rq117
        case eq117 => simp only [lg, lz, ls]; rfl
        case aq117 => kernel_rfl
        case bq117 => kernel_rfl
        case cq117 => kernel_rfl
        case dq117 => exact fun _ _ _ h => h
        case yq117 =>
          refine Or.inl ⟨by rfl, ?_⟩
          intro w hSw
          (try dsimp only at hSw)
          go_simp
          try with_reducible rfl
        case sq117 => assumption
        try simp only [Act.put, lt, ly, lu]
        refine wpAnyH_take (i := 9) (v := ?vq118) (oi := ?oq118) ?eq118 ?aq118 ?bq118 ?cq118 ?dq118 ?yq118 ?sq118 ?rq118
        case eq118 => simp only [lg, lz, ls]; rfl
        case aq118 => kernel_rfl
        case bq118 => kernel_rfl
        case cq118 => kernel_rfl
        case dq118 => exact fun _ _ _ h => h
        case yq118 =>
          refine Or.inl ⟨by rfl, ?_⟩
          intro w hSw
          (try dsimp only at hSw)
          go_simp
          try with_reducible rfl
        case sq118 => assumption
        try simp only [Act.put, lt, ly, lu]
        refine wpAnyH_take (i := 11) (v := ?vq119) (oi := ?oq119) ?eq119 ?aq119 ?bq119 ?cq119 ?dq119 ?yq119 ?sq119 ?rq119
        case eq119 => simp only [lg, lz, ls]; rfl
        case aq119 => kernel_rfl
        case bq119 => kernel_rfl
        case cq119 => kernel_rfl
        case dq119 => exact fun _ _ _ h => h
        case yq119 =>
          refine Or.inl ⟨by rfl, ?_⟩
          intro w hSw
          (try dsimp only at hSw)
          go_simp
          try with_reducible rfl
        case sq119 => assumption
        try simp only [Act.put, lt, ly, lu]
        refine wpAnyH_take (i := 14) (v := ?vq120) (oi := ?oq120) ?eq120 ?aq120 ?bq120 ?cq120 ?dq120 ?yq120 ?sq120 ?rq120
        case eq120 => simp only [lg, lz, ls]; rfl
        case aq120 => kernel_rfl
        case bq120 => kernel_rfl
        case cq120 => kernel_rfl
        case dq120 => exact fun _ _ _ h => h
        case yq120 =>
          refine Or.inl ⟨by rfl, ?_⟩
          intro w hSw
          (try dsimp only at hSw)
          go_simp
          try with_reducible rfl
        case sq120 => assumption
        try simp only [Act.put, lt, ly, lu]
        refine wpAnyH_ready (rs := [10]) (by kernel_rfl) (by simp) ?_
        refine AllReadyH.cons (o := ?oq121) ?eq121 ?kq121 AllReadyH.nil
        case eq121 => simp only [lg, lz, ls]; rfl
        intro K hK
        go_simp
        go_at_call 41
        refine (hi_val (hRr24.out.keep (Below.step (Below.step (Below.step (Below.step b25.out b26.out) b27.out) b28.out) b29.out)) z_r2.out).mono ?_
        rintro e w30 ⟨v30, rfl, hv30, b30⟩
        obtain ⟨C37, j37, C38, j38, rfl, -, -⟩ := id hv30.opened
        replace hv30 := Lib.hid hv30
        replace b30 := Lib.hid b30
        have hk30 := Held0.call hk29 (Nat.le_of_eq HSZ15.out.symm) b30.out
        have hk30' := hk30
        unfold Held0 at hk30'
        clear hHeld hk29
        refine hK.out _ _ ?_ (fun hHeld => ?_)
        · (try dsimp only)
          with_reducible exact hk30'
        clear hK K hk30'
        try simp only [Act.put, lt, ly, lu]
        refine wpAnyH_ready (rs := [12]) (by kernel_rfl) (by simp) ?_
        refine AllReadyH.cons (o := ?oq122) ?eq122 ?kq122 AllReadyH.nil
        case eq122 => simp only [lg, lz, ls]; rfl
        intro K hK
        go_simp
        go_at_call 41
        refine (hi_val (hRr24.out.keep (Below.step (Below.step (Below.step (Below.step (Below.step b25.out b26.out) b27.out) b28.out) b29.out) b30.out)) z_r2.out).mono ?_
        rintro e w31 ⟨v31, rfl, hv31, b31⟩
        obtain ⟨C39, j39, C40, j40, rfl, -, -⟩ := id hv31.opened
        replace hv31 := Lib.hid hv31
        replace b31 := Lib.hid b31
        have hk31 := Held0.call hk30 (Nat.le_of_eq HSZ15.out.symm) b31.out
        have hk31' := hk31
        unfold Held0 at hk31'
        clear hHeld hk30
        refine hK.out _ _ ?_ (fun hHeld => ?_)
        · (try dsimp only)
          with_reducible exact hk31'
        clear hK K hk31'
        try simp only [Act.put, lt, ly, lu]
        refine wpAnyH_ready (rs := [13]) (by kernel_rfl) (by simp) ?_
        refine AllReadyH.cons (o := ?oq123) ?eq123 ?kq123 AllReadyH.nil
        case eq123 => simp only [lg, lz, ls]; rfl
        intro K hK
        go_simp
        go_at_call 15
        refine (mul_val' e_r22.out (hv30.out.keep b31.out) hv31.out z_r2.out z_r2.out).mono ?_
        rintro e w32 ⟨v32, rfl, hv32, b32⟩
        obtain ⟨C41, j41, C42, j42, rfl, -, -⟩ := id hv32.opened
        replace hv32 := Lib.hid hv32
        replace b32 := Lib.hid b32
        have hk32 := Held0.call hk31 (Nat.le_of_eq HSZ15.out.symm) b32.out
        have hk32' := hk32
        unfold Held0 at hk32'
        clear hHeld hk31
        refine hK.out _ _ ?_ (fun hHeld => ?_)
        · (try dsimp only)
          with_reducible exact hk32'
        clear hK K hk32'
        try simp only [Act.put, lt, ly, lu]
        refine wpAnyH_ready (rs := [15]) (by kernel_rfl) (by simp) ?_
        refine AllReadyH.cons (o := ?oq124) ?eq124 ?kq124 AllReadyH.nil
        case eq124 => simp only [lg, lz, ls]; rfl
        intro K hK
        go_simp
        go_at_call 21
        refine (cmp_val e_c4.out hv32.out (I12_14.out.keep (Below.step (Below.step (Below.step (Below.step (Below.step (Below.step (Below.step b25.out b26.out) b27.out) b28.out) b29.out) b30.out) b31.out) b32.out)) z_r22.out z_x.out).mono ?_
        rintro e w33 ⟨rfl, b33⟩
        replace b33 := Lib.hid b33
        have hk33 := Held0.call hk32 (Nat.le_of_eq HSZ15.out.symm) b33.out
        have hk33' := hk33
        unfold Held0 at hk33'
        clear hHeld hk32
        refine hK.out _ _ ?_ (fun hHeld => ?_)
        · (try dsimp only)
          with_reducible exact hk33'
        clear hK K hk33'
        try simp only [Act.put, lt, ly, lu]
        refine wpAnyH_take (i := 16) (v := ?vq125) (oi := ?oq125) ?eq125 ?aq125 ?bq125 ?cq125 ?dq125 ?yq125 ?sq125 ?rq125
        case eq125 => simp only [lg, lz, ls]; rfl
        case aq125 => kernel_rfl
        case bq125 => kernel_rfl
        case cq125 => kernel_rfl
        case dq125 => exact fun _ _ _ h => h
        case yq125 =>
          refine Or.inl ⟨by rfl, ?_⟩
          intro w hSw
          (try dsimp only at hSw)
          go_simp
          try with_reducible rfl
        case sq125 => assumption
        try simp only [Act.put, lt, ly, lu]
        refine wpAnyH_take (i := 17) (v := ?vq126) (oi := ?oq126) ?eq126 ?aq126 ?bq126 ?cq126 ?dq126 ?yq126 ?sq126 ?rq126
        case eq126 => simp only [lg, lz, ls]; rfl
        case aq126 => kernel_rfl
        case bq126 => kernel_rfl
        case cq126 => kernel_rfl
        case dq126 => exact fun _ _ _ h => h
        case yq126 =>
          refine Or.inl ⟨by rfl, ?_⟩
          intro w hSw
          (try dsimp only at hSw)
          go_simp
          try with_reducible rfl
        case sq126 => assumption
        try simp only [Act.put, lt, ly, lu]
        refine wpAnyH_take (i := 18) (v := ?vq127) (oi := ?oq127) ?eq127 ?aq127 ?bq127 ?cq127 ?dq127 ?yq127 ?sq127 ?rq127
        case eq127 => simp only [lg, lz, ls]; rfl
        case aq127 => kernel_rfl
        case bq127 => kernel_rfl
        case cq127 => kernel_rfl
        case dq127 => exact fun _ _ _ h => h
        case yq127 =>
          refine Or.inl ⟨by rfl, ?_⟩
          intro w hSw
          (try dsimp only at hSw)
          go_simp
          try with_reducible rfl
        case sq127 => assumption
        try simp only [Act.put, lt, ly, lu]
        refine wpAnyH_take (i := 19) (v := ?vq128) (oi := ?oq128) ?eq128 ?aq128 ?bq128 ?cq128 ?dq128 ?yq128 ?sq128 ?rq128
        case eq128 => simp only [lg, lz, ls]; rfl
        case aq128 => kernel_rfl
        case bq128 => kernel_rfl
        case cq128 => kernel_rfl
        case dq128 => exact fun _ _ _ h => h
        case yq128 =>
          refine Or.inl ⟨by rfl, ?_⟩
          intro w hSw
          (try dsimp only at hSw)
          go_simp
          try with_reducible rfl
        case sq128 => assumption
        try simp only [Act.put, lt, ly, lu]
        refine wpAnyH_take (i := 20) (v := ?vq129) (oi := ?oq129) ?eq129 ?aq129 ?bq129 ?cq129 ?dq129 ?yq129 ?sq129 ?rq129
        case eq129 => simp only [lg, lz, ls]; rfl
        case aq129 => kernel_rfl
        case bq129 => kernel_rfl
        case cq129 => kernel_rfl
        case dq129 => exact fun _ _ _ h => h
        case yq129 =>
          refine Or.inl ⟨by rfl, ?_⟩
          intro w hSw
          (try dsimp only at hSw)
          go_simp
          try with_reducible rfl
        case sq129 => assumption
        try simp only [Act.put, lt, ly, lu]
        refine wpAnyH_take (i := 22) (v := ?vq130) (oi := ?oq130) ?eq130 ?aq130 ?bq130 ?cq130 ?dq130 ?yq130 ?sq130 ?rq130
        case eq130 => simp only [lg, lz, ls]; rfl
        case aq130 => kernel_rfl
        case bq130 => kernel_rfl
        case cq130 => kernel_rfl
        case dq130 => exact fun _ _ _ h => h
        case yq130 =>
          refine Or.inl ⟨by rfl, ?_⟩
          intro w hSw
          (try dsimp only at hSw)
          go_simp
          try with_reducible rfl
        case sq130 => assumption
        try simp only [Act.put, lt, ly, lu]
        refine wpAnyH_ready (rs := [21]) (by kernel_rfl) (by simp) ?_
        refine AllReadyH.cons (o := ?oq131) ?eq131 ?kq131 AllReadyH.nil
        case eq131 => simp only [lg, lz, ls]; rfl
        intro K hK
        go_simp
        go_at_call 15
        refine (mul_val' e_uu.out (I13_14.out.keep (Below.step (Below.step (Below.step (Below.step (Below.step (Below.step (Below.step (Below.step b25.out b26.out) b27.out) b28.out) b29.out) b30.out) b31.out) b32.out) b33.out)) (I13_14.out.keep (Below.step (Below.step (Below.step (Below.step (Below.step (Below.step (Below.step (Below.step b25.out b26.out) b27.out) b28.out) b29.out) b30.out) b31.out) b32.out) b33.out)) z_up.out z_up.out).mono ?_
        rintro e w34 ⟨v34, rfl, hv34, b34⟩
        obtain ⟨C43, j43, C44, j44, rfl, -, -⟩ := id hv34.opened
        replace hv34 := Lib.hid hv34
        replace b34 := Lib.hid b34
        have hk34 := Held0.call hk33 (Nat.le_of_eq HSZ15.out.symm) b34.out
        have hk34' := hk34
        unfold Held0 at hk34'
        clear hHeld hk33
        refine hK.out _ _ ?_ (fun hHeld => ?_)
        · (try dsimp only)
          with_reducible exact hk34'
        clear hK K hk34'
        try simp only [Act.put, lt, ly, lu]
        refine wpAnyH_ready (rs := [23]) (by kernel_rfl) (by simp) ?_
        refine AllReadyH.cons (o := ?oq132) ?eq132 ?kq132 AllReadyH.nil
        case eq132 => simp only [lg, lz, ls]; rfl
        intro K hK
        go_simp
        go_at_call 40
        refine (lo_val (hRs24.out.keep (Below.step (Below.step (Below.step (Below.step (Below.step (Below.step (Below.step (Below.step (Below.step b25.out b26.out) b27.out) b28.out) b29.out) b30.out) b31.out) b32.out) b33.out) b34.out)) z_l.out).mono ?_
        rintro e w35 ⟨v35, rfl, hv35, b35⟩
        obtain ⟨C45, j45, C46, j46, rfl, -, -⟩ := id hv35.opened
        replace hv35 := Lib.hid hv35
        replace b35 := Lib.hid b35
        have hk35 := Held0.call hk34 (Nat.le_of_eq HSZ15.out.symm) b35.out
        have hk35' := hk35
        unfold Held0 at hk35'
        clear hHeld hk34
        refine hK.out _ _ ?_ (fun hHeld => ?_)
        · (try dsimp only)
          with_reducible exact hk35'
        clear hK K hk35'
        try simp only [Act.put, lt, ly, lu]
        refine wpAnyH_ready (rs := [24]) (by kernel_rfl) (by simp) ?_
        refine AllReadyH.cons (o := ?oq133) ?eq133 ?kq133 AllReadyH.nil
        case eq133 => simp only [lg, lz, ls]; rfl
        intro K hK
        go_simp
        go_at_call 21
        refine (cmp_val e_c5.out (hv34.out.keep b35.out) hv35.out z_uu.out z_l.out).mono ?_
        rintro e w36 ⟨rfl, b36⟩
        replace b36 := Lib.hid b36
        have hk36 := Held0.call hk35 (Nat.le_of_eq HSZ15.out.symm) b36.out
        have hk36' := hk36
        unfold Held0 at hk36'
        clear hHeld hk35
        refine hK.out _ _ ?_ (fun hHeld => ?_)
        · (try dsimp only)
          with_reducible exact hk36'
        clear hK K hk36'
        try simp only [Act.put, lt, ly, lu]
        refine wpAnyH_take (i := 25) (v := ?vq134) (oi := ?oq134) ?eq134 ?aq134 ?bq134 ?cq134 ?dq134 ?yq134 ?sq134 ?rq134
        case eq134 => simp only [lg, lz, ls]; rfl
        case aq134 => kernel_rfl
        case bq134 => kernel_rfl
        case cq134 => kernel_rfl
        case dq134 => exact fun _ _ _ h => h
        case yq134 =>
          refine Or.inl ⟨by rfl, ?_⟩
          intro w hSw
          (try dsimp only at hSw)
          go_simp
          try with_reducible rfl
        case sq134 => assumption
        try simp only [Act.put, lt, ly, lu]
        refine wpAnyH_take (i := 26) (v := ?vq135) (oi := ?oq135) ?eq135 ?aq135 ?bq135 ?cq135 ?dq135 ?yq135 ?sq135 ?rq135
        case eq135 => simp only [lg, lz, ls]; rfl
        case aq135 => kernel_rfl
        case bq135 => kernel_rfl
        case cq135 => kernel_rfl
        case dq135 => exact fun _ _ _ h => h
        case yq135 =>
          refine Or.inl ⟨by rfl, ?_⟩
          intro w hSw
          (try dsimp only at hSw)
          go_simp
          try with_reducible rfl
        case sq135 => assumption
        try simp only [Act.put, lt, ly, lu]
        refine wpAnyH_take (i := 27) (v := ?vq136) (oi := ?oq136) ?eq136 ?aq136 ?bq136 ?cq136 ?dq136 ?yq136 ?sq136 ?rq136
        case eq136 => simp only [lg, lz, ls]; rfl
        case aq136 => kernel_rfl
        case bq136 => kernel_rfl
        case cq136 => kernel_rfl
        case dq136 => exact fun _ _ _ h => h
        case yq136 =>
          refine Or.inl ⟨by rfl, ?_⟩
          intro w hSw
          (try dsimp only at hSw)
          go_simp
          try with_reducible rfl
        case sq136 => assumption
        try simp only [Act.put, lt, ly, lu]
        refine wpAnyH_take (i := 28) (v := ?vq137) (oi := ?oq137) ?eq137 ?aq137 ?bq137 ?cq137 ?dq137 ?yq137 ?sq137 ?rq137
        case eq137 => simp only [lg, lz, ls]; rfl
        case aq137 => kernel_rfl
        case bq137 => kernel_rfl
        case cq137 => kernel_rfl
        case dq137 => exact fun _ _ _ h => h
        case yq137 =>
          refine Or.inl ⟨by rfl, ?_⟩
          intro w hSw
          (try dsimp only at hSw)
          go_simp
          try with_reducible rfl
        case sq137 => assumption
        try simp only [Act.put, lt, ly, lu]
        refine wpAnyH_ready (rs := [29]) (by kernel_rfl) (by simp) ?_
        refine AllReadyH.cons (o := ?oq138) ?eq138 ?kq138 AllReadyH.nil
        case eq138 => simp only [lg, lz, ls]; rfl
        intro K hK
        go_simp
        go_at_call 20
        refine (sign_val e_nd.out (I14_14.out.keep (Below.step (Below.step (Below.step (Below.step (Below.step (Below.step (Below.step (Below.step (Below.step (Below.step (Below.step b25.out b26.out) b27.out) b28.out) b29.out) b30.out) b31.out) b32.out) b33.out) b34.out) b35.out) b36.out))).mono ?_
        rintro e w37 ⟨rfl, b37⟩
        replace b37 := Lib.hid b37
        have hk37 := Held0.call hk36 (Nat.le_of_eq HSZ15.out.symm) b37.out
        have hk37' := hk37
        unfold Held0 at hk37'
        clear hHeld hk36
        refine hK.out _ _ ?_ (fun hHeld => ?_)
        · (try dsimp only)
          with_reducible exact hk37'
        clear hK K hk37'
        try simp only [Act.put, lt, ly, lu]
        refine wpAnyH_take (i := 30) (v := ?vq139) (oi := ?oq139) ?eq139 ?aq139 ?bq139 ?cq139 ?dq139 ?yq139 ?sq139 ?rq139
        case eq139 => simp only [lg, lz, ls]; rfl
        case aq139 => kernel_rfl
        case bq139 => kernel_rfl
        case cq139 => kernel_rfl
        case dq139 => exact fun _ _ _ h => h
        case yq139 =>
          refine Or.inl ⟨by rfl, ?_⟩
          intro w hSw
          (try dsimp only at hSw)
          go_simp
          try with_reducible rfl
        case sq139 => assumption
        try simp only [Act.put, lt, ly, lu]
        refine wpAnyH_take (i := 31) (v := ?vq140) (oi := ?oq140) ?eq140 ?aq140 ?bq140 ?cq140 ?dq140 ?yq140 ?sq140 ?rq140
        case eq140 => simp only [lg, lz, ls]; rfl
        case aq140 => kernel_rfl
        case bq140 => kernel_rfl
        case cq140 => kernel_rfl
        case dq140 => exact fun _ _ _ h => h
        case yq140 =>
          refine Or.inl ⟨by rfl, ?_⟩
          intro w hSw
          (try dsimp only at hSw)
          go_simp
          try with_reducible rfl
        case sq140 => assumption
        try simp only [Act.put, lt, ly, lu]
        refine wpAnyH_take (i := 32) (v := undef) (oi := ?oq141) ?eq141 ?aq141 ?bq141 ?cq141 ?dq141 ?yq141 ?sq141 ?rq141
        case eq141 => simp only [lg, lz, ls]; rfl
        case aq141 => kernel_rfl
        case bq141 => kernel_rfl
        case cq141 => kernel_rfl
        case dq141 => exact fun _ _ _ h => h
        case yq141 => exact Or.inr ⟨by rfl, rfl⟩
        case sq141 => assumption
        try simp only [Act.put, lt, ly, lu]
        refine wpAnyH_take (i := 33) (v := undef) (oi := ?oq142) ?eq142 ?aq142 ?bq142 ?cq142 ?dq142 ?yq142 ?sq142 ?rq142
        case eq142 => simp only [lg, lz, ls]; rfl
        case aq142 => kernel_rfl
        case bq142 => kernel_rfl
        case cq142 => kernel_rfl
        case dq142 => exact fun _ _ _ h => h
        case yq142 => exact Or.inr ⟨by rfl, rfl⟩
        case sq142 => assumption
        try simp only [Act.put, lt, ly, lu]
        refine wpAnyH_take (i := 35) (v := undef) (oi := ?oq143) ?eq143 ?aq143 ?bq143 ?cq143 ?dq143 ?yq143 ?sq143 ?rq143
        case eq143 => simp only [lg, lz, ls]; rfl
        case aq143 => kernel_rfl
        case bq143 => kernel_rfl
        case cq143 => kernel_rfl
        case dq143 => exact fun _ _ _ h => h
        case yq143 => exact Or.inr ⟨by rfl, rfl⟩
        case sq143 => assumption
        try simp only [Act.put, lt, ly, lu]
        refine wpAnyH_ready (rs := [34]) (by kernel_rfl) (by simp) ?_
        refine AllReadyH.cons (o := ?oq144) ?eq144 ?kq144 AllReadyH.nil
        case eq144 => simp only [lg, lz, ls]; rfl
        intro K hK
        go_simp
        refine hK.out _ _ ?_ (fun hHeld2 => ?_)
        · (try dsimp only)
          exact hHeld
        clear hK K hHeld
        try simp only [Act.put, lt, ly, lu]
        have hHeld := hHeld2
        clear hHeld2
        refine wpAnyH_ready (rs := [36]) (by kernel_rfl) (by simp) ?_
        refine AllReadyH.cons (o := ?oq145) ?eq145 ?kq145 AllReadyH.nil
        case eq145 => simp only [lg, lz, ls]; rfl
        intro K hK
        go_simp
        refine hK.out _ _ ?_ (fun hHeld2 => ?_)
        · (try dsimp only)
          exact hHeld
        clear hK K hHeld
        try simp only [Act.put, lt, ly, lu]
        have hHeld := hHeld2
        clear hHeld2
        refine wpAnyH_ready (rs := [37]) (by kernel_rfl) (by simp) ?_
        refine AllReadyH.cons (o := ?oq146) ?eq146 ?kq146 AllReadyH.nil
        case eq146 => simp only [lg, lz, ls]; rfl
        intro K hK
        go_simp
        refine hK.out _ _ ?_ (fun hHeld2 => ?_)
        · (try dsimp only)
          exact hHeld
        clear hK K hHeld
        try simp only [Act.put, lt, ly, lu]
        have hHeld := hHeld2
        clear hHeld2
        refine wpAnyH_take (i := 38) (v := undef) (oi := ?oq147) ?eq147 ?aq147 ?bq147 ?cq147 ?dq147 ?yq147 ?sq147 ?rq147
        case eq147 => simp only [lg, lz, ls]; rfl
        case aq147 => kernel_rfl
        case bq147 => kernel_rfl
        case cq147 => kernel_rfl
        case dq147 => exact fun _ _ _ h => h
        case yq147 => exact Or.inr ⟨by rfl, rfl⟩
        case sq147 => assumption
        try simp only [Act.put, lt, ly, lu]
        refine wpAnyH_take (i := 39) (v := ?vq148) (oi := ?oq148) ?eq148 ?aq148 ?bq148 ?cq148 ?dq148 ?yq148 ?sq148 ?rq148
        case eq148 => simp only [lg, lz, ls]; rfl
        case aq148 => kernel_rfl
        case bq148 => kernel_rfl
        case cq148 => kernel_rfl
        case dq148 => exact fun _ _ _ h => h
        case yq148 =>
          refine Or.inl ⟨by rfl, ?_⟩
          intro w hSw
          (try dsimp only at hSw)
          go_simp
          try with_reducible rfl
        case sq148 => assumption
        try simp only [Act.put, lt, ly, lu]
        refine wpAnyH_take (i := 40) (v := ?vq149) (oi := ?oq149) ?eq149 ?aq149 ?bq149 ?cq149 ?dq149 ?yq149 ?sq149 ?rq149
        case eq149 => simp only [lg, lz, ls]; rfl
        case aq149 => kernel_rfl
        case bq149 => kernel_rfl
        case cq149 => kernel_rfl
        case dq149 => exact fun _ _ _ h => h
        case yq149 =>
          refine Or.inl ⟨by rfl, ?_⟩
          intro w hSw
          (try dsimp only at hSw)
          go_simp
          try with_reducible rfl
        case sq149 => assumption
        try simp only [Act.put, lt, ly, lu]
        have HKz := Lib.hid hk37
        rw [hF15.out]
        exact rest.out _ _ _ _ _ _ _ _ _ _ _ _ _ _ _ _ _ _ _ _ _ _ _ _ _ _ _ _ _ _ _ _ _ _ _ _ _ _ _ _ _ _ (by kernel_rfl) HKz
    simp only [← hA14.out, Act.put, lt, ly, lu] at st5_121314
    replace st5_121314 := Lib.hid st5_121314
    have st5_1213 : ∀ (L : Array Bool) (u : World) (v95 v97 v99 v101 v103 : Value) (n12 n13 : Nat), L = #[true, true, true, true, true, true, true, true, true, true, true, true, true, false, false, false, false] → Hid (Held0 w23 NN14 w23 u) → Hid (IsNum u v95 x) → Hid (IsNum u v99 up) → Hid (IsNum u v103 dn) → Hid (Loc u n12 ⟨false, none, 0, 0, none, 0, 0⟩) → NN14 ≤ n12 → Hid (Loc u n13 ⟨false, none, 0, 0, none, 0, 0⟩) → NN14 ≤ n13 → n12 ≠ n13 → F14 4 L (Act.put (Act.put (Act.put (Act.put (Act.put (Act.put (Act.put A14 (some 12) (.pointer (some ⟨n12, 0, none⟩))) (some 13) (.pointer (some ⟨n13, 0, none⟩))) (some 95) v95) (some 97) v97) (some 99) v99) (some 101) v101) (some 103) v103) u := by
      intro L u v95 v97 v99 v101 v103 n12 n13 hLL HK I95 I99 I103 Z12 g12 Z13 g13 ne1213
      subst hLL
      rw [← hF14.out, ← hA14.out]
      try simp only [Act.put, lt, ly, lu]
      refine wpAnyH_ready (rs := [13]) (by kernel_rfl) (by simp) ?_
      refine AllReadyH.cons (o := ?o13q150) ?e13q150 ?k13q150 AllReadyH.nil
      case e13q150 => simp only [lg, lz, ls] <;> rfl
      case k13q150 =>
        intro K hK
        go_simp
        have hb2 := zero_below u
        have HK2 := Held0.call HK.out (Nat.le_of_eq HSZ14.out.symm) hb2
        have Z2 := zero_loc u
        have hsz := Nat.le_trans (Nat.le_of_eq HSZ14.out.symm) HK.out.2.1.size
        refine hK.out _ _ ?_ (fun hHeld => ?_)
        · (try dsimp only)
          exact HK2.1
        clear hK K
        try simp only [Act.put, lt, ly, lu]
        rw [hF14.out]
        exact st5_121314.out _ _ v95 v97 v99 v101 v103 n12 n13 u.heap.size (by kernel_rfl) HK2 (I95.out.keep hb2) (I99.out.keep hb2) (I103.out.keep hb2) (Z12.out.call hb2) g12 (Z13.out.call hb2) g13 Z2 hsz ne1213 (Nat.ne_of_lt Z12.out.lt) (Nat.ne_of_lt Z13.out.lt)
    simp only [← hA14.out, Act.put, lt, ly, lu] at st5_1213
    replace st5_1213 := Lib.hid st5_1213
    have st5_1214 : ∀ (L : Array Bool) (u : World) (v95 v97 v99 v101 v103 : Value) (n12 n14 : Nat), L = #[true, true, true, true, true, true, true, true, true, true, true, true, false, true, false, false, false] → Hid (Held0 w23 NN14 w23 u) → Hid (IsNum u v95 x) → Hid (IsNum u v99 up) → Hid (IsNum u v103 dn) → Hid (Loc u n12 ⟨false, none, 0, 0, none, 0, 0⟩) → NN14 ≤ n12 → Hid (Loc u n14 ⟨false, none, 0, 0, none, 0, 0⟩) → NN14 ≤ n14 → n12 ≠ n14 → F14 4 L (Act.put (Act.put (Act.put (Act.put (Act.put (Act.put (Act.put A14 (some 12) (.pointer (some ⟨n12, 0, none⟩))) (some 14) (.pointer (some ⟨n14, 0, none⟩))) (some 95) v95) (some 97) v97) (some 99) v99) (some 101) v101) (some 103) v103) u := by
      intro L u v95 v97 v99 v101 v103 n12 n14 hLL HK I95 I99 I103 Z12 g12 Z14 g14 ne1214
      subst hLL
      rw [← hF14.out, ← hA14.out]
      try simp only [Act.put, lt, ly, lu]
      refine wpAnyH_ready (rs := [12]) (by kernel_rfl) (by simp) ?_
      refine AllReadyH.cons (o := ?o12q151) ?e12q151 ?k12q151 AllReadyH.nil
      case e12q151 => simp only [lg, lz, ls] <;> rfl
      case k12q151 =>
        intro K hK
        go_simp
        have hb2 := zero_below u
        have HK2 := Held0.call HK.out (Nat.le_of_eq HSZ14.out.symm) hb2
        have Z2 := zero_loc u
        have hsz := Nat.le_trans (Nat.le_of_eq HSZ14.out.symm) HK.out.2.1.size
        refine hK.out _ _ ?_ (fun hHeld => ?_)
        · (try dsimp only)
          exact HK2.1
        clear hK K
        try simp only [Act.put, lt, ly, lu]
        rw [hF14.out]
        exact st5_121314.out _ _ v95 v97 v99 v101 v103 n12 u.heap.size n14 (by kernel_rfl) HK2 (I95.out.keep hb2) (I99.out.keep hb2) (I103.out.keep hb2) (Z12.out.call hb2) g12 Z2 hsz (Z14.out.call hb2) g14 (Nat.ne_of_lt Z12.out.lt) ne1214 (Nat.ne_of_gt Z14.out.lt)
    simp only [← hA14.out, Act.put, lt, ly, lu] at st5_1214
    replace st5_1214 := Lib.hid st5_1214
    have st5_1314 : ∀ (L : Array Bool) (u : World) (v95 v97 v99 v101 v103 : Value) (n13 n14 : Nat), L = #[true, true, true, true, true, true, true, true, true, true, true, false, true, true, false, false, false] → Hid (Held0 w23 NN14 w23 u) → Hid (IsNum u v95 x) → Hid (IsNum u v99 up) → Hid (IsNum u v103 dn) → Hid (Loc u n13 ⟨false, none, 0, 0, none, 0, 0⟩) → NN14 ≤ n13 → Hid (Loc u n14 ⟨false, none, 0, 0, none, 0, 0⟩) → NN14 ≤ n14 → n13 ≠ n14 → F14 4 L (Act.put (Act.put (Act.put (Act.put (Act.put (Act.put (Act.put A14 (some 13) (.pointer (some ⟨n13, 0, none⟩))) (some 14) (.pointer (some ⟨n14, 0, none⟩))) (some 95) v95) (some 97) v97) (some 99) v99) (some 101) v101) (some 103) v103) u := by
      intro L u v95 v97 v99 v101 v103 n13 n14 hLL HK I95 I99 I103 Z13 g13 Z14 g14 ne1314
      subst hLL
      rw [← hF14.out, ← hA14.out]
      try simp only [Act.put, lt, ly, lu]
      refine wpAnyH_ready (rs := [11]) (by kernel_rfl) (by simp) ?_
      refine AllReadyH.cons (o := ?o11q152) ?e11q152 ?k11q152 AllReadyH.nil
      case e11q152 => simp only [lg, lz, ls] <;> rfl
      case k11q152 =>
        intro K hK
        go_simp
        have hb2 := zero_below u
        have HK2 := Held0.call HK.out (Nat.le_of_eq HSZ14.out.symm) hb2
        have Z2 := zero_loc u
        have hsz := Nat.le_trans (Nat.le_of_eq HSZ14.out.symm) HK.out.2.1.size
        refine hK.out _ _ ?_ (fun hHeld => ?_)
        · (try dsimp only)
          exact HK2.1
        clear hK K
        try simp only [Act.put, lt, ly, lu]
        rw [hF14.out]
        exact st5_121314.out _ _ v95 v97 v99 v101 v103 u.heap.size n13 n14 (by kernel_rfl) HK2 (I95.out.keep hb2) (I99.out.keep hb2) (I103.out.keep hb2) Z2 hsz (Z13.out.call hb2) g13 (Z14.out.call hb2) g14 (Nat.ne_of_gt Z13.out.lt) (Nat.ne_of_gt Z14.out.lt) ne1314
    simp only [← hA14.out, Act.put, lt, ly, lu] at st5_1314
    replace st5_1314 := Lib.hid st5_1314
    have st5_12 : ∀ (L : Array Bool) (u : World) (v95 v97 v99 v101 v103 : Value) (n12 : Nat), L = #[true, true, true, true, true, true, true, true, true, true, true, true, false, false, false, false, false] → Hid (Held0 w23 NN14 w23 u) → Hid (IsNum u v95 x) → Hid (IsNum u v99 up) → Hid (IsNum u v103 dn) → Hid (Loc u n12 ⟨false, none, 0, 0, none, 0, 0⟩) → NN14 ≤ n12 → F14 5 L (Act.put (Act.put (Act.put (Act.put (Act.put (Act.put A14 (some 12) (.pointer (some ⟨n12, 0, none⟩))) (some 95) v95) (some 97) v97) (some 99) v99) (some 101) v101) (some 103) v103) u := by
      intro L u v95 v97 v99 v101 v103 n12 hLL HK I95 I99 I103 Z12 g12
      subst hLL
      rw [← hF14.out, ← hA14.out]
      try simp only [Act.put, lt, ly, lu]
      refine wpAnyH_ready (rs := [12, 13]) (by kernel_rfl) (by simp) ?_
      refine AllReadyH.cons (o := ?o12q153) ?e12q153 ?k12q153 (AllReadyH.cons (o := ?o13q153) ?e13q153 ?k13q153 AllReadyH.nil)
      case e12q153 => simp only [lg, lz, ls] <;> rfl
      case e13q153 => simp only [lg, lz, ls] <;> rfl
      case k12q153 =>
        intro K hK
        go_simp
        have hb2 := zero_below u
        have HK2 := Held0.call HK.out (Nat.le_of_eq HSZ14.out.symm) hb2
        have Z2 := zero_loc u
        have hsz := Nat.le_trans (Nat.le_of_eq HSZ14.out.symm) HK.out.2.1.size
        refine hK.out _ _ ?_ (fun hHeld => ?_)
        · (try dsimp only)
          exact HK2.1
        clear hK K
        try simp only [Act.put, lt, ly, lu]
        rw [hF14.out]
        exact st5_1213.out _ _ v95 v97 v99 v101 v103 n12 u.heap.size (by kernel_rfl) HK2 (I95.out.keep hb2) (I99.out.keep hb2) (I103.out.keep hb2) (Z12.out.call hb2) g12 Z2 hsz (Nat.ne_of_lt Z12.out.lt)
      case k13q153 =>
        intro K hK
        go_simp
        have hb2 := zero_below u
        have HK2 := Held0.call HK.out (Nat.le_of_eq HSZ14.out.symm) hb2
        have Z2 := zero_loc u
        have hsz := Nat.le_trans (Nat.le_of_eq HSZ14.out.symm) HK.out.2.1.size
        refine hK.out _ _ ?_ (fun hHeld => ?_)
        · (try dsimp only)
          exact HK2.1
        clear hK K
        try simp only [Act.put, lt, ly, lu]
        rw [hF14.out]
        exact st5_1214.out _ _ v95 v97 v99 v101 v103 n12 u.heap.size (by kernel_rfl) HK2 (I95.out.keep hb2) (I99.out.keep hb2) (I103.out.keep hb2) (Z12.out.call hb2) g12 Z2 hsz (Nat.ne_of_lt Z12.out.lt)
    simp only [← hA14.out, Act.put, lt, ly, lu] at st5_12
    replace st5_12 := Lib.hid st5_12
    have st5_13 : ∀ (L : Array Bool) (u : World) (v95 v97 v99 v101 v103 : Value) (n13 : Nat), L = #[true, true, true, true, true, true, true, true, true, true, true, false, true, false, false, false, false] → Hid (Held0 w23 NN14 w23 u) → Hid (IsNum u v95 x) → Hid (IsNum u v99 up) → Hid (IsNum u v103 dn) → Hid (Loc u n13 ⟨false, none, 0, 0, none, 0, 0⟩) → NN14 ≤ n13 → F14 5 L (Act.put (Act.put (Act.put (Act.put (Act.put (Act.put A14 (some 13) (.pointer (some ⟨n13, 0, none⟩))) (some 95) v95) (some 97) v97) (some 99) v99) (some 101) v101) (some 103) v103) u := by
      intro L u v95 v97 v99 v101 v103 n13 hLL HK I95 I99 I103 Z13 g13
      subst hLL
      rw [← hF14.out, ← hA14.out]
      try simp only [Act.put, lt, ly, lu]
      refine wpAnyH_ready (rs := [11, 13]) (by kernel_rfl) (by simp) ?_
      refine AllReadyH.cons (o := ?o11q154) ?e11q154 ?k11q154 (AllReadyH.cons (o := ?o13q154) ?e13q154 ?k13q154 AllReadyH.nil)
      case e11q154 => simp only [lg, lz, ls] <;> rfl
      case e13q154 => simp only [lg, lz, ls] <;> rfl
      case k11q154 =>
        intro K hK
        go_simp
        have hb2 := zero_below u
        have HK2 := Held0.call HK.out (Nat.le_of_eq HSZ14.out.symm) hb2
        have Z2 := zero_loc u
        have hsz := Nat.le_trans (Nat.le_of_eq HSZ14.out.symm) HK.out.2.1.size
        refine hK.out _ _ ?_ (fun hHeld => ?_)
        · (try dsimp only)
          exact HK2.1
        clear hK K
        try simp only [Act.put, lt, ly, lu]
        rw [hF14.out]
        exact st5_1213.out _ _ v95 v97 v99 v101 v103 u.heap.size n13 (by kernel_rfl) HK2 (I95.out.keep hb2) (I99.out.keep hb2) (I103.out.keep hb2) Z2 hsz (Z13.out.call hb2) g13 (Nat.ne_of_gt Z13.out.lt)
      case k13q154 =>
        intro K hK
        go_simp
        have hb2 := zero_below u
        have HK2 := Held0.call HK.out (Nat.le_of_eq HSZ14.out.symm) hb2
        have Z2 := zero_loc u
        have hsz := Nat.le_trans (Nat.le_of_eq HSZ14.out.symm) HK.out.2.1.size
        refine hK.out _ _ ?_ (fun hHeld => ?_)
        · (try dsimp only)
          exact HK2.1
        clear hK K
        try simp only [Act.put, lt, ly, lu]
        rw [hF14.out]
        exact st5_1314.out _ _ v95 v97 v99 v101 v103 n13 u.heap.size (by kernel_rfl) HK2 (I95.out.keep hb2) (I99.out.keep hb2) (I103.out.keep hb2) (Z13.out.call hb2) g13 Z2 hsz (Nat.ne_of_lt Z13.out.lt)
    simp only [← hA14.out, Act.put, lt, ly, lu] at st5_13
    replace st5_13 := Lib.hid st5_13
    have st5_14 : ∀ (L : Array Bool) (u : World) (v95 v97 v99 v101 v103 : Value) (n14 : Nat), L = #[true, true, true, true, true, true, true, true, true, true, true, false, false, true, false, false, false] → Hid (Held0 w23 NN14 w23 u) → Hid (IsNum u v95 x) → Hid (IsNum u v99 up) → Hid (IsNum u v103 dn) → Hid (Loc u n14 ⟨false, none, 0, 0, none, 0, 0⟩) → NN14 ≤ n14 → F14 5 L (Act.put (Act.put (Act.put (Act.put (Act.put (Act.put A14 (some 14) (.pointer (some ⟨n14, 0, none⟩))) (some 95) v95) (some 97) v97) (some 99) v99) (some 101) v101) (some 103) v103) u := by
      intro L u v95 v97 v99 v101 v103 n14 hLL HK I95 I99 I103 Z14 g14
      subst hLL
      rw [← hF14.out, ← hA14.out]
      try simp only [Act.put, lt, ly, lu]
      refine wpAnyH_ready (rs := [11, 12]) (by kernel_rfl) (by simp) ?_
      refine AllReadyH.cons (o := ?o11q155) ?e11q155 ?k11q155 (AllReadyH.cons (o := ?o12q155) ?e12q155 ?k12q155 AllReadyH.nil)
      case e11q155 => simp only [lg, lz, ls] <;> rfl
      case e12q155 => simp only [lg, lz, ls] <;> rfl
      case k11q155 =>
        intro K hK
        go_simp
        have hb2 := zero_below u
        have HK2 := Held0.call HK.out (Nat.le_of_eq HSZ14.out.symm) hb2
        have Z2 := zero_loc u
        have hsz := Nat.le_trans (Nat.le_of_eq HSZ14.out.symm) HK.out.2.1.size
        refine hK.out _ _ ?_ (fun hHeld => ?_)
        · (try dsimp only)
          exact HK2.1
        clear hK K
        try simp only [Act.put, lt, ly, lu]
        rw [hF14.out]
        exact st5_1214.out _ _ v95 v97 v99 v101 v103 u.heap.size n14 (by kernel_rfl) HK2 (I95.out.keep hb2) (I99.out.keep hb2) (I103.out.keep hb2) Z2 hsz (Z14.out.call hb2) g14 (Nat.ne_of_gt Z14.out.lt)
      case k12q155 =>
        intro K hK
        go_simp
        have hb2 := zero_below u
        have HK2 := Held0.call HK.out (Nat.le_of_eq HSZ14.out.symm) hb2
        have Z2 := zero_loc u
        have hsz := Nat.le_trans (Nat.le_of_eq HSZ14.out.symm) HK.out.2.1.size
        refine hK.out _ _ ?_ (fun hHeld => ?_)
        · (try dsimp only)
          exact HK2.1
        clear hK K
        try simp only [Act.put, lt, ly, lu]
        rw [hF14.out]
        exact st5_1314.out _ _ v95 v97 v99 v101 v103 u.heap.size n14 (by kernel_rfl) HK2 (I95.out.keep hb2) (I99.out.keep hb2) (I103.out.keep hb2) Z2 hsz (Z14.out.call hb2) g14 (Nat.ne_of_gt Z14.out.lt)
    simp only [← hA14.out, Act.put, lt, ly, lu] at st5_14
    replace st5_14 := Lib.hid st5_14
    have st5_n : ∀ (L : Array Bool) (u : World) (v95 v97 v99 v101 v103 : Value), L = #[true, true, true, true, true, true, true, true, true, true, true, false, false, false, false, false, false] → Hid (Held0 w23 NN14 w23 u) → Hid (IsNum u v95 x) → Hid (IsNum u v99 up) → Hid (IsNum u v103 dn) → F14 6 L (Act.put (Act.put (Act.put (Act.put (Act.put A14 (some 95) v95) (some 97) v97) (some 99) v99) (some 101) v101) (some 103) v103) u := by
      intro L u v95 v97 v99 v101 v103 hLL HK I95 I99 I103
      subst hLL
      rw [← hF14.out, ← hA14.out]
      try simp only [Act.put, lt, ly, lu]
      refine wpAnyH_ready (rs := [11, 12, 13]) (by kernel_rfl) (by simp) ?_
      refine AllReadyH.cons (o := ?o11q156) ?e11q156 ?k11q156 (AllReadyH.cons (o := ?o12q156) ?e12q156 ?k12q156 (AllReadyH.cons (o := ?o13q156) ?e13q156 ?k13q156 AllReadyH.nil))
      case e11q156 => simp only [lg, lz, ls] <;> rfl
      case e12q156 => simp only [lg, lz, ls] <;> rfl
      case e13q156 => simp only [lg, lz, ls] <;> rfl
      case k11q156 =>
        intro K hK
        go_simp
        have hb2 := zero_below u
        have HK2 := Held0.call HK.out (Nat.le_of_eq HSZ14.out.symm) hb2
        have Z2 := zero_loc u
        have hsz := Nat.le_trans (Nat.le_of_eq HSZ14.out.symm) HK.out.2.1.size
        refine hK.out _ _ ?_ (fun hHeld => ?_)
        · (try dsimp only)
          exact HK2.1
        clear hK K
        try simp only [Act.put, lt, ly, lu]
        rw [hF14.out]
        exact st5_12.out _ _ v95 v97 v99 v101 v103 u.heap.size (by kernel_rfl) HK2 (I95.out.keep hb2) (I99.out.keep hb2) (I103.out.keep hb2) Z2 hsz
      case k12q156 =>
        intro K hK
        go_simp
        have hb2 := zero_below u
        have HK2 := Held0.call HK.out (Nat.le_of_eq HSZ14.out.symm) hb2
        have Z2 := zero_loc u
        have hsz := Nat.le_trans (Nat.le_of_eq HSZ14.out.symm) HK.out.2.1.size
        refine hK.out _ _ ?_ (fun hHeld => ?_)
        · (try dsimp only)
          exact HK2.1
        clear hK K
        try simp only [Act.put, lt, ly, lu]
        rw [hF14.out]
        exact st5_13.out _ _ v95 v97 v99 v101 v103 u.heap.size (by kernel_rfl) HK2 (I95.out.keep hb2) (I99.out.keep hb2) (I103.out.keep hb2) Z2 hsz
      case k13q156 =>
        intro K hK
        go_simp
        have hb2 := zero_below u
        have HK2 := Held0.call HK.out (Nat.le_of_eq HSZ14.out.symm) hb2
        have Z2 := zero_loc u
        have hsz := Nat.le_trans (Nat.le_of_eq HSZ14.out.symm) HK.out.2.1.size
        refine hK.out _ _ ?_ (fun hHeld => ?_)
        · (try dsimp only)
          exact HK2.1
        clear hK K
        try simp only [Act.put, lt, ly, lu]
        rw [hF14.out]
        exact st5_14.out _ _ v95 v97 v99 v101 v103 u.heap.size (by kernel_rfl) HK2 (I95.out.keep hb2) (I99.out.keep hb2) (I103.out.keep hb2) Z2 hsz
    simp only [← hA14.out, Act.put, lt, ly, lu] at st5_n
    replace st5_n := Lib.hid st5_n
    have st4_121314 : ∀ (L : Array Bool) (u : World) (v95 v97 v99 v101 : Value) (n12 n13 n14 : Nat), L = #[true, true, true, true, true, true, true, true, true, true, false, true, true, true, false, false, false] → Hid (Held0 w23 NN14 w23 u) → Hid (IsNum u v95 x) → Hid (IsNum u v99 up) → Hid (IsNum u v101 r2) → Hid (Loc u n12 ⟨false, none, 0, 0, none, 0, 0⟩) → NN14 ≤ n12 → Hid (Loc u n13 ⟨false, none, 0, 0, none, 0, 0⟩) → NN14 ≤ n13 → Hid (Loc u n14 ⟨false, none, 0, 0, none, 0, 0⟩) → NN14 ≤ n14 → n12 ≠ n13 → n12 ≠ n14 → n13 ≠ n14 → F14 4 L (Act.put (Act.put (Act.put (Act.put (Act.put (Act.put (Act.put A14 (some 12) (.pointer (some ⟨n12, 0, none⟩))) (some 13) (.pointer (some ⟨n13, 0, none⟩))) (some 14) (.pointer (some ⟨n14, 0, none⟩))) (some 95) v95) (some 97) v97) (some 99) v99) (some 101) v101) u := by
      intro L u v95 v97 v99 v101 n12 n13 n14 hLL HK I95 I99 I101 Z12 g12 Z13 g13 Z14 g14 ne1213 ne1214 ne1314
      subst hLL
      rw [← hF14.out, ← hA14.out]
      try simp only [Act.put, lt, ly, lu]
      refine wpAnyH_ready (rs := [10]) (by kernel_rfl) (by simp) ?_
      refine AllReadyH.cons (o := ?o10q157) ?e10q157 ?k10q157 AllReadyH.nil
      case e10q157 => simp only [lg, lz, ls] <;> rfl
      case k10q157 =>
        intro K hK
        go_simp
        go_at_call 16
        refine (sub_val e_dn.out I101.out (HK.out.2.2.num hRg23.out) z_r2.out z_g.out).mono ?_
        rintro e u2 ⟨v2, rfl, hv2, hb2⟩
        have HK2 := Held0.call HK.out (Nat.le_of_eq HSZ14.out.symm) hb2
        refine hK.out _ _ ?_ (fun hHeld => ?_)
        · (try dsimp only)
          exact HK2.1
        clear hK K
        try simp only [Act.put, lt, ly, lu]
        rw [hF14.out]
        exact st5_121314.out _ u2 v95 v97 v99 v101 v2 n12 n13 n14 (by kernel_rfl) HK2 (I95.out.keep hb2) (I99.out.keep hb2) hv2 (Z12.out.call hb2) g12 (Z13.out.call hb2) g13 (Z14.out.call hb2) g14 ne1213 ne1214 ne1314
    simp only [← hA14.out, Act.put, lt, ly, lu] at st4_121314
    replace st4_121314 := Lib.hid st4_121314
    have st4_1213 : ∀ (L : Array Bool) (u : World) (v95 v97 v99 v101 : Value) (n12 n13 : Nat), L = #[true, true, true, true, true, true, true, true, true, true, false, true, true, false, false, false, false] → Hid (Held0 w23 NN14 w23 u) → Hid (IsNum u v95 x) → Hid (IsNum u v99 up) → Hid (IsNum u v101 r2) → Hid (Loc u n12 ⟨false, none, 0, 0, none, 0, 0⟩) → NN14 ≤ n12 → Hid (Loc u n13 ⟨false, none, 0, 0, none, 0, 0⟩) → NN14 ≤ n13 → n12 ≠ n13 → F14 5 L (Act.put (Act.put (Act.put (Act.put (Act.put (Act.put A14 (some 12) (.pointer (some ⟨n12, 0, none⟩))) (some 13) (.pointer (some ⟨n13, 0, none⟩))) (some 95) v95) (some 97) v97) (some 99) v99) (some 101) v101) u := by
      intro L u v95 v97 v99 v101 n12 n13 hLL HK I95 I99 I101 Z12 g12 Z13 g13 ne1213
      subst hLL
      rw [← hF14.out, ← hA14.out]
      try simp only [Act.put, lt, ly, lu]
      refine wpAnyH_ready (rs := [10, 13]) (by kernel_rfl) (by simp) ?_
      refine AllReadyH.cons (o := ?o10q158) ?e10q158 ?k10q158 (AllReadyH.cons (o := ?o13q158) ?e13q158 ?k13q158 AllReadyH.nil)
      case e10q158 => simp only [lg, lz, ls] <;> rfl
      case e13q158 => simp only [lg, lz, ls] <;> rfl
      case k10q158 =>
        intro K hK
        go_simp
        go_at_call 16
        refine (sub_val e_dn.out I101.out (HK.out.2.2.num hRg23.out) z_r2.out z_g.out).mono ?_
        rintro e u2 ⟨v2, rfl, hv2, hb2⟩
        have HK2 := Held0.call HK.out (Nat.le_of_eq HSZ14.out.symm) hb2
        refine hK.out _ _ ?_ (fun hHeld => ?_)
        · (try dsimp only)
          exact HK2.1
        clear hK K
        try simp only [Act.put, lt, ly, lu]
        rw [hF14.out]
        exact st5_1213.out _ u2 v95 v97 v99 v101 v2 n12 n13 (by kernel_rfl) HK2 (I95.out.keep hb2) (I99.out.keep hb2) hv2 (Z12.out.call hb2) g12 (Z13.out.call hb2) g13 ne1213
      case k13q158 =>
        intro K hK
        go_simp
        have hb2 := zero_below u
        have HK2 := Held0.call HK.out (Nat.le_of_eq HSZ14.out.symm) hb2
        have Z2 := zero_loc u
        have hsz := Nat.le_trans (Nat.le_of_eq HSZ14.out.symm) HK.out.2.1.size
        refine hK.out _ _ ?_ (fun hHeld => ?_)
        · (try dsimp only)
          exact HK2.1
        clear hK K
        try simp only [Act.put, lt, ly, lu]
        rw [hF14.out]
        exact st4_121314.out _ _ v95 v97 v99 v101 n12 n13 u.heap.size (by kernel_rfl) HK2 (I95.out.keep hb2) (I99.out.keep hb2) (I101.out.keep hb2) (Z12.out.call hb2) g12 (Z13.out.call hb2) g13 Z2 hsz ne1213 (Nat.ne_of_lt Z12.out.lt) (Nat.ne_of_lt Z13.out.lt)
    simp only [← hA14.out, Act.put, lt, ly, lu] at st4_1213
    replace st4_1213 := Lib.hid st4_1213
    have st4_1214 : ∀ (L : Array Bool) (u : World) (v95 v97 v99 v101 : Value) (n12 n14 : Nat), L = #[true, true, true, true, true, true, true, true, true, true, false, true, false, true, false, false, false] → Hid (Held0 w23 NN14 w23 u) → Hid (IsNum u v95 x) → Hid (IsNum u v99 up) → Hid (IsNum u v101 r2) → Hid (Loc u n12 ⟨false, none, 0, 0, none, 0, 0⟩) → NN14 ≤ n12 → Hid (Loc u n14 ⟨false, none, 0, 0, none, 0, 0⟩) → NN14 ≤ n14 → n12 ≠ n14 → F14 5 L (Act.put (Act.put (Act.put (Act.put (Act.put (Act.put A14 (some 12) (.pointer (some ⟨n12, 0, none⟩))) (some 14) (.pointer (some ⟨n14, 0, none⟩))) (some 95) v95) (some 97) v97) (some 99) v99) (some 101) v101) u := by
      intro L u v95 v97 v99 v101 n12 n14 hLL HK I95 I99 I101 Z12 g12 Z14 g14 ne1214
      subst hLL
      rw [← hF14.out, ← hA14.out]
      try simp only [Act.put, lt, ly, lu]
      refine wpAnyH_ready (rs := [10, 12]) (by kernel_rfl) (by simp) ?_
      refine AllReadyH.cons (o := ?o10q159) ?e10q159 ?k10q159 (AllReadyH.cons (o := ?o12q159) ?e12q159 ?k12q159 AllReadyH.nil)
      case e10q159 => simp only [lg, lz, ls] <;> rfl
      case e12q159 => simp only [lg, lz, ls] <;> rfl
      case k10q159 =>
        intro K hK
        go_simp
        go_at_call 16
        refine (sub_val e_dn.out I101.out (HK.out.2.2.num hRg23.out) z_r2.out z_g.out).mono ?_
        rintro e u2 ⟨v2, rfl, hv2, hb2⟩
        have HK2 := Held0.call HK.out (Nat.le_of_eq HSZ14.out.symm) hb2
        refine hK.out _ _ ?_ (fun hHeld => ?_)
        · (try dsimp only)
          exact HK2.1
        clear hK K
        try simp only [Act.put, lt, ly, lu]
        rw [hF14.out]
        exact st5_1214.out _ u2 v95 v97 v99 v101 v2 n12 n14 (by kernel_rfl) HK2 (I95.out.keep hb2) (I99.out.keep hb2) hv2 (Z12.out.call hb2) g12 (Z14.out.call hb2) g14 ne1214
      case k12q159 =>
        intro K hK
        go_simp
        have hb2 := zero_below u
        have HK2 := Held0.call HK.out (Nat.le_of_eq HSZ14.out.symm) hb2
        have Z2 := zero_loc u
        have hsz := Nat.le_trans (Nat.le_of_eq HSZ14.out.symm) HK.out.2.1.size
        refine hK.out _ _ ?_ (fun hHeld => ?_)
        · (try dsimp only)
          exact HK2.1
        clear hK K
        try simp only [Act.put, lt, ly, lu]
        rw [hF14.out]
        exact st4_121314.out _ _ v95 v97 v99 v101 n12 u.heap.size n14 (by kernel_rfl) HK2 (I95.out.keep hb2) (I99.out.keep hb2) (I101.out.keep hb2) (Z12.out.call hb2) g12 Z2 hsz (Z14.out.call hb2) g14 (Nat.ne_of_lt Z12.out.lt) ne1214 (Nat.ne_of_gt Z14.out.lt)
    simp only [← hA14.out, Act.put, lt, ly, lu] at st4_1214
    replace st4_1214 := Lib.hid st4_1214
    have st4_1314 : ∀ (L : Array Bool) (u : World) (v95 v97 v99 v101 : Value) (n13 n14 : Nat), L = #[true, true, true, true, true, true, true, true, true, true, false, false, true, true, false, false, false] → Hid (Held0 w23 NN14 w23 u) → Hid (IsNum u v95 x) → Hid (IsNum u v99 up) → Hid (IsNum u v101 r2) → Hid (Loc u n13 ⟨false, none, 0, 0, none, 0, 0⟩) → NN14 ≤ n13 → Hid (Loc u n14 ⟨false, none, 0, 0, none, 0, 0⟩) → NN14 ≤ n14 → n13 ≠ n14 → F14 5 L (Act.put (Act.put (Act.put (Act.put (Act.put (Act.put A14 (some 13) (.pointer (some ⟨n13, 0, none⟩))) (some 14) (.pointer (some ⟨n14, 0, none⟩))) (some 95) v95) (some 97) v97) (some 99) v99) (some 101) v101) u := by
      intro L u v95 v97 v99 v101 n13 n14 hLL HK I95 I99 I101 Z13 g13 Z14 g14 ne1314
      subst hLL
      rw [← hF14.out, ← hA14.out]
      try simp only [Act.put, lt, ly, lu]
      refine wpAnyH_ready (rs := [10, 11]) (by kernel_rfl) (by simp) ?_
      refine AllReadyH.cons (o := ?o10q160) ?e10q160 ?k10q160 (AllReadyH.cons (o := ?o11q160) ?e11q160 ?k11q160 AllReadyH.nil)
      case e10q160 => simp only [lg, lz, ls] <;> rfl
      case e11q160 => simp only [lg, lz, ls] <;> rfl
      case k10q160 =>
        intro K hK
        go_simp
        go_at_call 16
        refine (sub_val e_dn.out I101.out (HK.out.2.2.num hRg23.out) z_r2.out z_g.out).mono ?_
        rintro e u2 ⟨v2, rfl, hv2, hb2⟩
        have HK2 := Held0.call HK.out (Nat.le_of_eq HSZ14.out.symm) hb2
        refine hK.out _ _ ?_ (fun hHeld => ?_)
        · (try dsimp only)
          exact HK2.1
        clear hK K
        try simp only [Act.put, lt, ly, lu]
        rw [hF14.out]
        exact st5_1314.out _ u2 v95 v97 v99 v101 v2 n13 n14 (by kernel_rfl) HK2 (I95.out.keep hb2) (I99.out.keep hb2) hv2 (Z13.out.call hb2) g13 (Z14.out.call hb2) g14 ne1314
      case k11q160 =>
        intro K hK
        go_simp
        have hb2 := zero_below u
        have HK2 := Held0.call HK.out (Nat.le_of_eq HSZ14.out.symm) hb2
        have Z2 := zero_loc u
        have hsz := Nat.le_trans (Nat.le_of_eq HSZ14.out.symm) HK.out.2.1.size
        refine hK.out _ _ ?_ (fun hHeld => ?_)
        · (try dsimp only)
          exact HK2.1
        clear hK K
        try simp only [Act.put, lt, ly, lu]
        rw [hF14.out]
        exact st4_121314.out _ _ v95 v97 v99 v101 u.heap.size n13 n14 (by kernel_rfl) HK2 (I95.out.keep hb2) (I99.out.keep hb2) (I101.out.keep hb2) Z2 hsz (Z13.out.call hb2) g13 (Z14.out.call hb2) g14 (Nat.ne_of_gt Z13.out.lt) (Nat.ne_of_gt Z14.out.lt) ne1314
    simp only [← hA14.out, Act.put, lt, ly, lu] at st4_1314
    replace st4_1314 := Lib.hid st4_1314
    have st4_12 : ∀ (L : Array Bool) (u : World) (v95 v97 v99 v101 : Value) (n12 : Nat), L = #[true, true, true, true, true, true, true, true, true, true, false, true, false, false, false, false, false] → Hid (Held0 w23 NN14 w23 u) → Hid (IsNum u v95 x) → Hid (IsNum u v99 up) → Hid (IsNum u v101 r2) → Hid (Loc u n12 ⟨false, none, 0, 0, none, 0, 0⟩) → NN14 ≤ n12 → F14 6 L (Act.put (Act.put (Act.put (Act.put (Act.put A14 (some 12) (.pointer (some ⟨n12, 0, none⟩))) (some 95) v95) (some 97) v97) (some 99) v99) (some 101) v101) u := by
      intro L u v95 v97 v99 v101 n12 hLL HK I95 I99 I101 Z12 g12
      subst hLL
      rw [← hF14.out, ← hA14.out]
      try simp only [Act.put, lt, ly, lu]
      refine wpAnyH_ready (rs := [10, 12, 13]) (by kernel_rfl) (by simp) ?_
      refine AllReadyH.cons (o := ?o10q161) ?e10q161 ?k10q161 (AllReadyH.cons (o := ?o12q161) ?e12q161 ?k12q161 (AllReadyH.cons (o := ?o13q161) ?e13q161 ?k13q161 AllReadyH.nil))
      case e10q161 => simp only [lg, lz, ls] <;> rfl
      case e12q161 => simp only [lg, lz, ls] <;> rfl
      case e13q161 => simp only [lg, lz, ls] <;> rfl
      case k10q161 =>
        intro K hK
        go_simp
        go_at_call 16
        refine (sub_val e_dn.out I101.out (HK.out.2.2.num hRg23.out) z_r2.out z_g.out).mono ?_
        rintro e u2 ⟨v2, rfl, hv2, hb2⟩
        have HK2 := Held0.call HK.out (Nat.le_of_eq HSZ14.out.symm) hb2
        refine hK.out _ _ ?_ (fun hHeld => ?_)
        · (try dsimp only)
          exact HK2.1
        clear hK K
        try simp only [Act.put, lt, ly, lu]
        rw [hF14.out]
        exact st5_12.out _ u2 v95 v97 v99 v101 v2 n12 (by kernel_rfl) HK2 (I95.out.keep hb2) (I99.out.keep hb2) hv2 (Z12.out.call hb2) g12
      case k12q161 =>
        intro K hK
        go_simp
        have hb2 := zero_below u
        have HK2 := Held0.call HK.out (Nat.le_of_eq HSZ14.out.symm) hb2
        have Z2 := zero_loc u
        have hsz := Nat.le_trans (Nat.le_of_eq HSZ14.out.symm) HK.out.2.1.size
        refine hK.out _ _ ?_ (fun hHeld => ?_)
        · (try dsimp only)
          exact HK2.1
        clear hK K
        try simp only [Act.put, lt, ly, lu]
        rw [hF14.out]
        exact st4_1213.out _ _ v95 v97 v99 v101 n12 u.heap.size (by kernel_rfl) HK2 (I95.out.keep hb2) (I99.out.keep hb2) (I101.out.keep hb2) (Z12.out.call hb2) g12 Z2 hsz (Nat.ne_of_lt Z12.out.lt)
      case k13q161 =>
        intro K hK
        go_simp
        have hb2 := zero_below u
        have HK2 := Held0.call HK.out (Nat.le_of_eq HSZ14.out.symm) hb2
        have Z2 := zero_loc u
        have hsz := Nat.le_trans (Nat.le_of_eq HSZ14.out.symm) HK.out.2.1.size
        refine hK.out _ _ ?_ (fun hHeld => ?_)
        · (try dsimp only)
          exact HK2.1
        clear hK K
        try simp only [Act.put, lt, ly, lu]
        rw [hF14.out]
        exact st4_1214.out _ _ v95 v97 v99 v101 n12 u.heap.size (by kernel_rfl) HK2 (I95.out.keep hb2) (I99.out.keep hb2) (I101.out.keep hb2) (Z12.out.call hb2) g12 Z2 hsz (Nat.ne_of_lt Z12.out.lt)
    simp only [← hA14.out, Act.put, lt, ly, lu] at st4_12
    replace st4_12 := Lib.hid st4_12
    have st4_13 : ∀ (L : Array Bool) (u : World) (v95 v97 v99 v101 : Value) (n13 : Nat), L = #[true, true, true, true, true, true, true, true, true, true, false, false, true, false, false, false, false] → Hid (Held0 w23 NN14 w23 u) → Hid (IsNum u v95 x) → Hid (IsNum u v99 up) → Hid (IsNum u v101 r2) → Hid (Loc u n13 ⟨false, none, 0, 0, none, 0, 0⟩) → NN14 ≤ n13 → F14 6 L (Act.put (Act.put (Act.put (Act.put (Act.put A14 (some 13) (.pointer (some ⟨n13, 0, none⟩))) (some 95) v95) (some 97) v97) (some 99) v99) (some 101) v101) u := by
      intro L u v95 v97 v99 v101 n13 hLL HK I95 I99 I101 Z13 g13
      subst hLL
      rw [← hF14.out, ← hA14.out]
      try simp only [Act.put, lt, ly, lu]
      refine wpAnyH_ready (rs := [10, 11, 13]) (by kernel_rfl) (by simp) ?_
      refine AllReadyH.cons (o := ?o10q162) ?e10q162 ?k10q162 (AllReadyH.cons (o := ?o11q162) ?e11q162 ?k11q162 (AllReadyH.cons (o := ?o13q162) ?e13q162 ?k13q162 AllReadyH.nil))
      case e10q162 => simp only [lg, lz, ls] <;> rfl
      case e11q162 => simp only [lg, lz, ls] <;> rfl
      case e13q162 => simp only [lg, lz, ls] <;> rfl
      case k10q162 =>
        intro K hK
        go_simp
        go_at_call 16
        refine (sub_val e_dn.out I101.out (HK.out.2.2.num hRg23.out) z_r2.out z_g.out).mono ?_
        rintro e u2 ⟨v2, rfl, hv2, hb2⟩
        have HK2 := Held0.call HK.out (Nat.le_of_eq HSZ14.out.symm) hb2
        refine hK.out _ _ ?_ (fun hHeld => ?_)
        · (try dsimp only)
          exact HK2.1
        clear hK K
        try simp only [Act.put, lt, ly, lu]
        rw [hF14.out]
        exact st5_13.out _ u2 v95 v97 v99 v101 v2 n13 (by kernel_rfl) HK2 (I95.out.keep hb2) (I99.out.keep hb2) hv2 (Z13.out.call hb2) g13
      case k11q162 =>
        intro K hK
        go_simp
        have hb2 := zero_below u
        have HK2 := Held0.call HK.out (Nat.le_of_eq HSZ14.out.symm) hb2
        have Z2 := zero_loc u
        have hsz := Nat.le_trans (Nat.le_of_eq HSZ14.out.symm) HK.out.2.1.size
        refine hK.out _ _ ?_ (fun hHeld => ?_)
        · (try dsimp only)
          exact HK2.1
        clear hK K
        try simp only [Act.put, lt, ly, lu]
        rw [hF14.out]
        exact st4_1213.out _ _ v95 v97 v99 v101 u.heap.size n13 (by kernel_rfl) HK2 (I95.out.keep hb2) (I99.out.keep hb2) (I101.out.keep hb2) Z2 hsz (Z13.out.call hb2) g13 (Nat.ne_of_gt Z13.out.lt)
      case k13q162 =>
        intro K hK
        go_simp
        have hb2 := zero_below u
        have HK2 := Held0.call HK.out (Nat.le_of_eq HSZ14.out.symm) hb2
        have Z2 := zero_loc u
        have hsz := Nat.le_trans (Nat.le_of_eq HSZ14.out.symm) HK.out.2.1.size
        refine hK.out _ _ ?_ (fun hHeld => ?_)
        · (try dsimp only)
          exact HK2.1
        clear hK K
        try simp only [Act.put, lt, ly, lu]
        rw [hF14.out]
        exact st4_1314.out _ _ v95 v97 v99 v101 n13 u.heap.size (by kernel_rfl) HK2 (I95.out.keep hb2) (I99.out.keep hb2) (I101.out.keep hb2) (Z13.out.call hb2) g13 Z2 hsz (Nat.ne_of_lt Z13.out.lt)
    simp only [← hA14.out, Act.put, lt, ly, lu] at st4_13
    replace st4_13 := Lib.hid st4_13
    have st4_14 : ∀ (L : Array Bool) (u : World) (v95 v97 v99 v101 : Value) (n14 : Nat), L = #[true, true, true, true, true, true, true, true, true, true, false, false, false, true, false, false, false] → Hid (Held0 w23 NN14 w23 u) → Hid (IsNum u v95 x) → Hid (IsNum u v99 up) → Hid (IsNum u v101 r2) → Hid (Loc u n14 ⟨false, none, 0, 0, none, 0, 0⟩) → NN14 ≤ n14 → F14 6 L (Act.put (Act.put (Act.put (Act.put (Act.put A14 (some 14) (.pointer (some ⟨n14, 0, none⟩))) (some 95) v95) (some 97) v97) (some 99) v99) (some 101) v101) u := by
      intro L u v95 v97 v99 v101 n14 hLL HK I95 I99 I101 Z14 g14
      subst hLL
      rw [← hF14.out, ← hA14.out]
      try simp only [Act.put, lt, ly, lu]
      refine wpAnyH_ready (rs := [10, 11, 12]) (by kernel_rfl) (by simp) ?_
      refine AllReadyH.cons (o := ?o10q163) ?e10q163 ?k10q163 (AllReadyH.cons (o := ?o11q163) ?e11q163 ?k11q163 (AllReadyH.cons (o := ?o12q163) ?e12q163 ?k12q163 AllReadyH.nil))
      case e10q163 => simp only [lg, lz, ls] <;> rfl
      case e11q163 => simp only [lg, lz, ls] <;> rfl
      case e12q163 => simp only [lg, lz, ls] <;> rfl
      case k10q163 =>
        intro K hK
        go_simp
        go_at_call 16
        refine (sub_val e_dn.out I101.out (HK.out.2.2.num hRg23.out) z_r2.out z_g.out).mono ?_
        rintro e u2 ⟨v2, rfl, hv2, hb2⟩
        have HK2 := Held0.call HK.out (Nat.le_of_eq HSZ14.out.symm) hb2
        refine hK.out _ _ ?_ (fun hHeld => ?_)
        · (try dsimp only)
          exact HK2.1
        clear hK K
        try simp only [Act.put, lt, ly, lu]
        rw [hF14.out]
        exact st5_14.out _ u2 v95 v97 v99 v101 v2 n14 (by kernel_rfl) HK2 (I95.out.keep hb2) (I99.out.keep hb2) hv2 (Z14.out.call hb2) g14
      case k11q163 =>
        intro K hK
        go_simp
        have hb2 := zero_below u
        have HK2 := Held0.call HK.out (Nat.le_of_eq HSZ14.out.symm) hb2
        have Z2 := zero_loc u
        have hsz := Nat.le_trans (Nat.le_of_eq HSZ14.out.symm) HK.out.2.1.size
        refine hK.out _ _ ?_ (fun hHeld => ?_)
        · (try dsimp only)
          exact HK2.1
        clear hK K
        try simp only [Act.put, lt, ly, lu]
        rw [hF14.out]
        exact st4_1214.out _ _ v95 v97 v99 v101 u.heap.size n14 (by kernel_rfl) HK2 (I95.out.keep hb2) (I99.out.keep hb2) (I101.out.keep hb2) Z2 hsz (Z14.out.call hb2) g14 (Nat.ne_of_gt Z14.out.lt)
      case k12q163 =>
        intro K hK
        go_simp
        have hb2 := zero_below u
        have HK2 := Held0.call HK.out (Nat.le_of_eq HSZ14.out.symm) hb2
        have Z2 := zero_loc u
        have hsz := Nat.le_trans (Nat.le_of_eq HSZ14.out.symm) HK.out.2.1.size
        refine hK.out _ _ ?_ (fun hHeld => ?_)
        · (try dsimp only)
          exact HK2.1
        clear hK K
        try simp only [Act.put, lt, ly, lu]
        rw [hF14.out]
        exact st4_1314.out _ _ v95 v97 v99 v101 u.heap.size n14 (by kernel_rfl) HK2 (I95.out.keep hb2) (I99.out.keep hb2) (I101.out.keep hb2) Z2 hsz (Z14.out.call hb2) g14 (Nat.ne_of_gt Z14.out.lt)
    simp only [← hA14.out, Act.put, lt, ly, lu] at st4_14
    replace st4_14 := Lib.hid st4_14
    have st4_n : ∀ (L : Array Bool) (u : World) (v95 v97 v99 v101 : Value), L = #[true, true, true, true, true, true, true, true, true, true, false, false, false, false, false, false, false] → Hid (Held0 w23 NN14 w23 u) → Hid (IsNum u v95 x) → Hid (IsNum u v99 up) → Hid (IsNum u v101 r2) → F14 7 L (Act.put (Act.put (Act.put (Act.put A14 (some 95) v95) (some 97) v97) (some 99) v99) (some 101) v101) u := by
      intro L u v95 v97 v99 v101 hLL HK I95 I99 I101
      subst hLL
      rw [← hF14.out, ← hA14.out]
      try simp only [Act.put, lt, ly, lu]
      refine wpAnyH_ready (rs := [10, 11, 12, 13]) (by kernel_rfl) (by simp) ?_
      refine AllReadyH.cons (o := ?o10q164) ?e10q164 ?k10q164 (AllReadyH.cons (o := ?o11q164) ?e11q164 ?k11q164 (AllReadyH.cons (o := ?o12q164) ?e12q164 ?k12q164 (AllReadyH.cons (o := ?o13q164) ?e13q164 ?k13q164 AllReadyH.nil)))
      case e10q164 => simp only [lg, lz, ls] <;> rfl
      case e11q164 => simp only [lg, lz, ls] <;> rfl
      case e12q164 => simp only [lg, lz, ls] <;> rfl
      case e13q164 => simp only [lg, lz, ls] <;> rfl
      case k10q164 =>
        intro K hK
        go_simp
        go_at_call 16
        refine (sub_val e_dn.out I101.out (HK.out.2.2.num hRg23.out) z_r2.out z_g.out).mono ?_
        rintro e u2 ⟨v2, rfl, hv2, hb2⟩
        have HK2 := Held0.call HK.out (Nat.le_of_eq HSZ14.out.symm) hb2
        refine hK.out _ _ ?_ (fun hHeld => ?_)
        · (try dsimp only)
          exact HK2.1
        clear hK K
        try simp only [Act.put, lt, ly, lu]
        rw [hF14.out]
        exact st5_n.out _ u2 v95 v97 v99 v101 v2 (by kernel_rfl) HK2 (I95.out.keep hb2) (I99.out.keep hb2) hv2
      case k11q164 =>
        intro K hK
        go_simp
        have hb2 := zero_below u
        have HK2 := Held0.call HK.out (Nat.le_of_eq HSZ14.out.symm) hb2
        have Z2 := zero_loc u
        have hsz := Nat.le_trans (Nat.le_of_eq HSZ14.out.symm) HK.out.2.1.size
        refine hK.out _ _ ?_ (fun hHeld => ?_)
        · (try dsimp only)
          exact HK2.1
        clear hK K
        try simp only [Act.put, lt, ly, lu]
        rw [hF14.out]
        exact st4_12.out _ _ v95 v97 v99 v101 u.heap.size (by kernel_rfl) HK2 (I95.out.keep hb2) (I99.out.keep hb2) (I101.out.keep hb2) Z2 hsz
      case k12q164 =>
        intro K hK
        go_simp
        have hb2 := zero_below u
        have HK2 := Held0.call HK.out (Nat.le_of_eq HSZ14.out.symm) hb2
        have Z2 := zero_loc u
        have hsz := Nat.le_trans (Nat.le_of_eq HSZ14.out.symm) HK.out.2.1.size
        refine hK.out _ _ ?_ (fun hHeld => ?_)
        · (try dsimp only)
          exact HK2.1
        clear hK K
        try simp only [Act.put, lt, ly, lu]
        rw [hF14.out]
        exact st4_13.out _ _ v95 v97 v99 v101 u.heap.size (by kernel_rfl) HK2 (I95.out.keep hb2) (I99.out.keep hb2) (I101.out.keep hb2) Z2 hsz
      case k13q164 =>
        intro K hK
        go_simp
        have hb2 := zero_below u
        have HK2 := Held0.call HK.out (Nat.le_of_eq HSZ14.out.symm) hb2
        have Z2 := zero_loc u
        have hsz := Nat.le_trans (Nat.le_of_eq HSZ14.out.symm) HK.out.2.1.size
        refine hK.out _ _ ?_ (fun hHeld => ?_)
        · (try dsimp only)
          exact HK2.1
        clear hK K
        try simp only [Act.put, lt, ly, lu]
        rw [hF14.out]
        exact st4_14.out _ _ v95 v97 v99 v101 u.heap.size (by kernel_rfl) HK2 (I95.out.keep hb2) (I99.out.keep hb2) (I101.out.keep hb2) Z2 hsz
    simp only [← hA14.out, Act.put, lt, ly, lu] at st4_n
    replace st4_n := Lib.hid st4_n
    have st3_121314 : ∀ (L : Array Bool) (u : World) (v95 v97 v99 : Value) (n12 n13 n14 : Nat), L = #[true, true, true, true, true, true, true, true, false, true, false, true, true, true, false, false, false] → Hid (Held0 w23 NN14 w23 u) → Hid (IsNum u v95 x) → Hid (IsNum u v99 up) → Hid (Loc u n12 ⟨false, none, 0, 0, none, 0, 0⟩) → NN14 ≤ n12 → Hid (Loc u n13 ⟨false, none, 0, 0, none, 0, 0⟩) → NN14 ≤ n13 → Hid (Loc u n14 ⟨false, none, 0, 0, none, 0, 0⟩) → NN14 ≤ n14 → n12 ≠ n13 → n12 ≠ n14 → n13 ≠ n14 → F14 5 L (Act.put (Act.put (Act.put (Act.put (Act.put (Act.put A14 (some 12) (.pointer (some ⟨n12, 0, none⟩))) (some 13) (.pointer (some ⟨n13, 0, none⟩))) (some 14) (.pointer (some ⟨n14, 0, none⟩))) (some 95) v95) (some 97) v97) (some 99) v99) u := by
      intro L u v95 v97 v99 n12 n13 n14 hLL HK I95 I99 Z12 g12 Z13 g13 Z14 g14 ne1213 ne1214 ne1314
      subst hLL
      rw [← hF14.out, ← hA14.out]
      try simp only [Act.put, lt, ly, lu]
      refine wpAnyH_ready (rs := [8]) (by kernel_rfl) (by simp) ?_
      refine AllReadyH.cons (o := ?o8q165) ?e8q165 ?k8q165 AllReadyH.nil
      case e8q165 => simp only [lg, lz, ls] <;> rfl
      case k8q165 =>
        intro K hK
        go_simp
        go_at_call 41
        refine (hi_val (HK.out.2.2.box hRr23.out) z_r2.out).mono ?_
        rintro e u2 ⟨v2, rfl, hv2, hb2⟩
        have HK2 := Held0.call HK.out (Nat.le_of_eq HSZ14.out.symm) hb2
        refine hK.out _ _ ?_ (fun hHeld => ?_)
        · (try dsimp only)
          exact HK2.1
        clear hK K
        try simp only [Act.put, lt, ly, lu]
        rw [hF14.out]
        exact st4_121314.out _ u2 v95 v97 v99 v2 n12 n13 n14 (by kernel_rfl) HK2 (I95.out.keep hb2) (I99.out.keep hb2) hv2 (Z12.out.call hb2) g12 (Z13.out.call hb2) g13 (Z14.out.call hb2) g14 ne1213 ne1214 ne1314
    simp only [← hA14.out, Act.put, lt, ly, lu] at st3_121314
    replace st3_121314 := Lib.hid st3_121314
    have st3_1213 : ∀ (L : Array Bool) (u : World) (v95 v97 v99 : Value) (n12 n13 : Nat), L = #[true, true, true, true, true, true, true, true, false, true, false, true, true, false, false, false, false] → Hid (Held0 w23 NN14 w23 u) → Hid (IsNum u v95 x) → Hid (IsNum u v99 up) → Hid (Loc u n12 ⟨false, none, 0, 0, none, 0, 0⟩) → NN14 ≤ n12 → Hid (Loc u n13 ⟨false, none, 0, 0, none, 0, 0⟩) → NN14 ≤ n13 → n12 ≠ n13 → F14 6 L (Act.put (Act.put (Act.put (Act.put (Act.put A14 (some 12) (.pointer (some ⟨n12, 0, none⟩))) (some 13) (.pointer (some ⟨n13, 0, none⟩))) (some 95) v95) (some 97) v97) (some 99) v99) u := by
      intro L u v95 v97 v99 n12 n13 hLL HK I95 I99 Z12 g12 Z13 g13 ne1213
      subst hLL
      rw [← hF14.out, ← hA14.out]
      try simp only [Act.put, lt, ly, lu]
      refine wpAnyH_ready (rs := [8, 13]) (by kernel_rfl) (by simp) ?_
      refine AllReadyH.cons (o := ?o8q166) ?e8q166 ?k8q166 (AllReadyH.cons (o := ?o13q166) ?e13q166 ?k13q166 AllReadyH.nil)
      case e8q166 => simp only [lg, lz, ls] <;> rfl
      case e13q166 => simp only [lg, lz, ls] <;> rfl
      case k8q166 =>
        intro K hK
        go_simp
        go_at_call 41
        refine (hi_val (HK.out.2.2.box hRr23.out) z_r2.out).mono ?_
        rintro e u2 ⟨v2, rfl, hv2, hb2⟩
        have HK2 := Held0.call HK.out (Nat.le_of_eq HSZ14.out.symm) hb2
        refine hK.out _ _ ?_ (fun hHeld => ?_)
        · (try dsimp only)
          exact HK2.1
        clear hK K
        try simp only [Act.put, lt, ly, lu]
        rw [hF14.out]
        exact st4_1213.out _ u2 v95 v97 v99 v2 n12 n13 (by kernel_rfl) HK2 (I95.out.keep hb2) (I99.out.keep hb2) hv2 (Z12.out.call hb2) g12 (Z13.out.call hb2) g13 ne1213
      case k13q166 =>
        intro K hK
        go_simp
        have hb2 := zero_below u
        have HK2 := Held0.call HK.out (Nat.le_of_eq HSZ14.out.symm) hb2
        have Z2 := zero_loc u
        have hsz := Nat.le_trans (Nat.le_of_eq HSZ14.out.symm) HK.out.2.1.size
        refine hK.out _ _ ?_ (fun hHeld => ?_)
        · (try dsimp only)
          exact HK2.1
        clear hK K
        try simp only [Act.put, lt, ly, lu]
        rw [hF14.out]
        exact st3_121314.out _ _ v95 v97 v99 n12 n13 u.heap.size (by kernel_rfl) HK2 (I95.out.keep hb2) (I99.out.keep hb2) (Z12.out.call hb2) g12 (Z13.out.call hb2) g13 Z2 hsz ne1213 (Nat.ne_of_lt Z12.out.lt) (Nat.ne_of_lt Z13.out.lt)
    simp only [← hA14.out, Act.put, lt, ly, lu] at st3_1213
    replace st3_1213 := Lib.hid st3_1213
    have st3_1214 : ∀ (L : Array Bool) (u : World) (v95 v97 v99 : Value) (n12 n14 : Nat), L = #[true, true, true, true, true, true, true, true, false, true, false, true, false, true, false, false, false] → Hid (Held0 w23 NN14 w23 u) → Hid (IsNum u v95 x) → Hid (IsNum u v99 up) → Hid (Loc u n12 ⟨false, none, 0, 0, none, 0, 0⟩) → NN14 ≤ n12 → Hid (Loc u n14 ⟨false, none, 0, 0, none, 0, 0⟩) → NN14 ≤ n14 → n12 ≠ n14 → F14 6 L (Act.put (Act.put (Act.put (Act.put (Act.put A14 (some 12) (.pointer (some ⟨n12, 0, none⟩))) (some 14) (.pointer (some ⟨n14, 0, none⟩))) (some 95) v95) (some 97) v97) (some 99) v99) u := by
      intro L u v95 v97 v99 n12 n14 hLL HK I95 I99 Z12 g12 Z14 g14 ne1214
      subst hLL
      rw [← hF14.out, ← hA14.out]
      try simp only [Act.put, lt, ly, lu]
      refine wpAnyH_ready (rs := [8, 12]) (by kernel_rfl) (by simp) ?_
      refine AllReadyH.cons (o := ?o8q167) ?e8q167 ?k8q167 (AllReadyH.cons (o := ?o12q167) ?e12q167 ?k12q167 AllReadyH.nil)
      case e8q167 => simp only [lg, lz, ls] <;> rfl
      case e12q167 => simp only [lg, lz, ls] <;> rfl
      case k8q167 =>
        intro K hK
        go_simp
        go_at_call 41
        refine (hi_val (HK.out.2.2.box hRr23.out) z_r2.out).mono ?_
        rintro e u2 ⟨v2, rfl, hv2, hb2⟩
        have HK2 := Held0.call HK.out (Nat.le_of_eq HSZ14.out.symm) hb2
        refine hK.out _ _ ?_ (fun hHeld => ?_)
        · (try dsimp only)
          exact HK2.1
        clear hK K
        try simp only [Act.put, lt, ly, lu]
        rw [hF14.out]
        exact st4_1214.out _ u2 v95 v97 v99 v2 n12 n14 (by kernel_rfl) HK2 (I95.out.keep hb2) (I99.out.keep hb2) hv2 (Z12.out.call hb2) g12 (Z14.out.call hb2) g14 ne1214
      case k12q167 =>
        intro K hK
        go_simp
        have hb2 := zero_below u
        have HK2 := Held0.call HK.out (Nat.le_of_eq HSZ14.out.symm) hb2
        have Z2 := zero_loc u
        have hsz := Nat.le_trans (Nat.le_of_eq HSZ14.out.symm) HK.out.2.1.size
        refine hK.out _ _ ?_ (fun hHeld => ?_)
        · (try dsimp only)
          exact HK2.1
        clear hK K
        try simp only [Act.put, lt, ly, lu]
        rw [hF14.out]
        exact st3_121314.out _ _ v95 v97 v99 n12 u.heap.size n14 (by kernel_rfl) HK2 (I95.out.keep hb2) (I99.out.keep hb2) (Z12.out.call hb2) g12 Z2 hsz (Z14.out.call hb2) g14 (Nat.ne_of_lt Z12.out.lt) ne1214 (Nat.ne_of_gt Z14.out.lt)
    simp only [← hA14.out, Act.put, lt, ly, lu] at st3_1214
    replace st3_1214 := Lib.hid st3_1214
    have st3_1314 : ∀ (L : Array Bool) (u : World) (v95 v97 v99 : Value) (n13 n14 : Nat), L = #[true, true, true, true, true, true, true, true, false, true, false, false, true, true, false, false, false] → Hid (Held0 w23 NN14 w23 u) → Hid (IsNum u v95 x) → Hid (IsNum u v99 up) → Hid (Loc u n13 ⟨false, none, 0, 0, none, 0, 0⟩) → NN14 ≤ n13 → Hid (Loc u n14 ⟨false, none, 0, 0, none, 0, 0⟩) → NN14 ≤ n14 → n13 ≠ n14 → F14 6 L (Act.put (Act.put (Act.put (Act.put (Act.put A14 (some 13) (.pointer (some ⟨n13, 0, none⟩))) (some 14) (.pointer (some ⟨n14, 0, none⟩))) (some 95) v95) (some 97) v97) (some 99) v99) u := by
      intro L u v95 v97 v99 n13 n14 hLL HK I95 I99 Z13 g13 Z14 g14 ne1314
      subst hLL
      rw [← hF14.out, ← hA14.out]
      try simp only [Act.put, lt, ly, lu]
      refine wpAnyH_ready (rs := [8, 11]) (by kernel_rfl) (by simp) ?_
      refine AllReadyH.cons (o := ?o8q168) ?e8q168 ?k8q168 (AllReadyH.cons (o := ?o11q168) ?e11q168 ?k11q168 AllReadyH.nil)
      case e8q168 => simp only [lg, lz, ls] <;> rfl
      case e11q168 => simp only [lg, lz, ls] <;> rfl
      case k8q168 =>
        intro K hK
        go_simp
        go_at_call 41
        refine (hi_val (HK.out.2.2.box hRr23.out) z_r2.out).mono ?_
        rintro e u2 ⟨v2, rfl, hv2, hb2⟩
        have HK2 := Held0.call HK.out (Nat.le_of_eq HSZ14.out.symm) hb2
        refine hK.out _ _ ?_ (fun hHeld => ?_)
        · (try dsimp only)
          exact HK2.1
        clear hK K
        try simp only [Act.put, lt, ly, lu]
        rw [hF14.out]
        exact st4_1314.out _ u2 v95 v97 v99 v2 n13 n14 (by kernel_rfl) HK2 (I95.out.keep hb2) (I99.out.keep hb2) hv2 (Z13.out.call hb2) g13 (Z14.out.call hb2) g14 ne1314
      case k11q168 =>
        intro K hK
        go_simp
        have hb2 := zero_below u
        have HK2 := Held0.call HK.out (Nat.le_of_eq HSZ14.out.symm) hb2
        have Z2 := zero_loc u
        have hsz := Nat.le_trans (Nat.le_of_eq HSZ14.out.symm) HK.out.2.1.size
        refine hK.out _ _ ?_ (fun hHeld => ?_)
        · (try dsimp only)
          exact HK2.1
        clear hK K
        try simp only [Act.put, lt, ly, lu]
        rw [hF14.out]
        exact st3_121314.out _ _ v95 v97 v99 u.heap.size n13 n14 (by kernel_rfl) HK2 (I95.out.keep hb2) (I99.out.keep hb2) Z2 hsz (Z13.out.call hb2) g13 (Z14.out.call hb2) g14 (Nat.ne_of_gt Z13.out.lt) (Nat.ne_of_gt Z14.out.lt) ne1314
    simp only [← hA14.out, Act.put, lt, ly, lu] at st3_1314
    replace st3_1314 := Lib.hid st3_1314
    have st3_12 : ∀ (L : Array Bool) (u : World) (v95 v97 v99 : Value) (n12 : Nat), L = #[true, true, true, true, true, true, true, true, false, true, false, true, false, false, false, false, false] → Hid (Held0 w23 NN14 w23 u) → Hid (IsNum u v95 x) → Hid (IsNum u v99 up) → Hid (Loc u n12 ⟨false, none, 0, 0, none, 0, 0⟩) → NN14 ≤ n12 → F14 7 L (Act.put (Act.put (Act.put (Act.put A14 (some 12) (.pointer (some ⟨n12, 0, none⟩))) (some 95) v95) (some 97) v97) (some 99) v99) u := by
      intro L u v95 v97 v99 n12 hLL HK I95 I99 Z12 g12
      subst hLL
      rw [← hF14.out, ← hA14.out]
      try simp only [Act.put, lt, ly, lu]
      refine wpAnyH_ready (rs := [8, 12, 13]) (by kernel_rfl) (by simp) ?_
      refine AllReadyH.cons (o := ?o8q169) ?e8q169 ?k8q169 (AllReadyH.cons (o := ?o12q169) ?e12q169 ?k12q169 (AllReadyH.cons (o := ?o13q169) ?e13q169 ?k13q169 AllReadyH.nil))
      case e8q169 => simp only [lg, lz, ls] <;> rfl
      case e12q169 => simp only [lg, lz, ls] <;> rfl
      case e13q169 => simp only [lg, lz, ls] <;> rfl
      case k8q169 =>
        intro K hK
        go_simp
        go_at_call 41
        refine (hi_val (HK.out.2.2.box hRr23.out) z_r2.out).mono ?_
        rintro e u2 ⟨v2, rfl, hv2, hb2⟩
        have HK2 := Held0.call HK.out (Nat.le_of_eq HSZ14.out.symm) hb2
        refine hK.out _ _ ?_ (fun hHeld => ?_)
        · (try dsimp only)
          exact HK2.1
        clear hK K
        try simp only [Act.put, lt, ly, lu]
        rw [hF14.out]
        exact st4_12.out _ u2 v95 v97 v99 v2 n12 (by kernel_rfl) HK2 (I95.out.keep hb2) (I99.out.keep hb2) hv2 (Z12.out.call hb2) g12
      case k12q169 =>
        intro K hK
        go_simp
        have hb2 := zero_below u
        have HK2 := Held0.call HK.out (Nat.le_of_eq HSZ14.out.symm) hb2
        have Z2 := zero_loc u
        have hsz := Nat.le_trans (Nat.le_of_eq HSZ14.out.symm) HK.out.2.1.size
        refine hK.out _ _ ?_ (fun hHeld => ?_)
        · (try dsimp only)
          exact HK2.1
        clear hK K
        try simp only [Act.put, lt, ly, lu]
        rw [hF14.out]
        exact st3_1213.out _ _ v95 v97 v99 n12 u.heap.size (by kernel_rfl) HK2 (I95.out.keep hb2) (I99.out.keep hb2) (Z12.out.call hb2) g12 Z2 hsz (Nat.ne_of_lt Z12.out.lt)
      case k13q169 =>
        intro K hK
        go_simp
        have hb2 := zero_below u
        have HK2 := Held0.call HK.out (Nat.le_of_eq HSZ14.out.symm) hb2
        have Z2 := zero_loc u
        have hsz := Nat.le_trans (Nat.le_of_eq HSZ14.out.symm) HK.out.2.1.size
        refine hK.out _ _ ?_ (fun hHeld => ?_)
        · (try dsimp only)
          exact HK2.1
        clear hK K
        try simp only [Act.put, lt, ly, lu]
        rw [hF14.out]
        exact st3_1214.out _ _ v95 v97 v99 n12 u.heap.size (by kernel_rfl) HK2 (I95.out.keep hb2) (I99.out.keep hb2) (Z12.out.call hb2) g12 Z2 hsz (Nat.ne_of_lt Z12.out.lt)
    simp only [← hA14.out, Act.put, lt, ly, lu] at st3_12
    replace st3_12 := Lib.hid st3_12
    have st3_13 : ∀ (L : Array Bool) (u : World) (v95 v97 v99 : Value) (n13 : Nat), L = #[true, true, true, true, true, true, true, true, false, true, false, false, true, false, false, false, false] → Hid (Held0 w23 NN14 w23 u) → Hid (IsNum u v95 x) → Hid (IsNum u v99 up) → Hid (Loc u n13 ⟨false, none, 0, 0, none, 0, 0⟩) → NN14 ≤ n13 → F14 7 L (Act.put (Act.put (Act.put (Act.put A14 (some 13) (.pointer (some ⟨n13, 0, none⟩))) (some 95) v95) (some 97) v97) (some 99) v99) u := by
      intro L u v95 v97 v99 n13 hLL HK I95 I99 Z13 g13
      subst hLL
      rw [← hF14.out, ← hA14.out]
      try simp only [Act.put, lt, ly, lu]
      refine wpAnyH_ready (rs := [8, 11, 13]) (by kernel_rfl) (by simp) ?_
      refine AllReadyH.cons (o := ?o8q170) ?e8q170 ?k8q170 (AllReadyH.cons (o := ?o11q170) ?e11q170 ?k11q170 (AllReadyH.cons (o := ?o13q170) ?e13q170 ?k13q170 AllReadyH.nil))
      case e8q170 => simp only [lg, lz, ls] <;> rfl
      case e11q170 => simp only [lg, lz, ls] <;> rfl
      case e13q170 => simp only [lg, lz, ls] <;> rfl
      case k8q170 =>
        intro K hK
        go_simp
        go_at_call 41
        refine (hi_val (HK.out.2.2.box hRr23.out) z_r2.out).mono ?_
        rintro e u2 ⟨v2, rfl, hv2, hb2⟩
        have HK2 := Held0.call HK.out (Nat.le_of_eq HSZ14.out.symm) hb2
        refine hK.out _ _ ?_ (fun hHeld => ?_)
        · (try dsimp only)
          exact HK2.1
        clear hK K
        try simp only [Act.put, lt, ly, lu]
        rw [hF14.out]
        exact st4_13.out _ u2 v95 v97 v99 v2 n13 (by kernel_rfl) HK2 (I95.out.keep hb2) (I99.out.keep hb2) hv2 (Z13.out.call hb2) g13
      case k11q170 =>
        intro K hK
        go_simp
        have hb2 := zero_below u
        have HK2 := Held0.call HK.out (Nat.le_of_eq HSZ14.out.symm) hb2
        have Z2 := zero_loc u
        have hsz := Nat.le_trans (Nat.le_of_eq HSZ14.out.symm) HK.out.2.1.size
        refine hK.out _ _ ?_ (fun hHeld => ?_)
        · (try dsimp only)
          exact HK2.1
        clear hK K
        try simp only [Act.put, lt, ly, lu]
        rw [hF14.out]
        exact st3_1213.out _ _ v95 v97 v99 u.heap.size n13 (by kernel_rfl) HK2 (I95.out.keep hb2) (I99.out.keep hb2) Z2 hsz (Z13.out.call hb2) g13 (Nat.ne_of_gt Z13.out.lt)
      case k13q170 =>
        intro K hK
        go_simp
        have hb2 := zero_below u
        have HK2 := Held0.call HK.out (Nat.le_of_eq HSZ14.out.symm) hb2
        have Z2 := zero_loc u
        have hsz := Nat.le_trans (Nat.le_of_eq HSZ14.out.symm) HK.out.2.1.size
        refine hK.out _ _ ?_ (fun hHeld => ?_)
        · (try dsimp only)
          exact HK2.1
        clear hK K
        try simp only [Act.put, lt, ly, lu]
        rw [hF14.out]
        exact st3_1314.out _ _ v95 v97 v99 n13 u.heap.size (by kernel_rfl) HK2 (I95.out.keep hb2) (I99.out.keep hb2) (Z13.out.call hb2) g13 Z2 hsz (Nat.ne_of_lt Z13.out.lt)
    simp only [← hA14.out, Act.put, lt, ly, lu] at st3_13
    replace st3_13 := Lib.hid st3_13
    have st3_14 : ∀ (L : Array Bool) (u : World) (v95 v97 v99 : Value) (n14 : Nat), L = #[true, true, true, true, true, true, true, true, false, true, false, false, false, true, false, false, false] → Hid (Held0 w23 NN14 w23 u) → Hid (IsNum u v95 x) → Hid (IsNum u v99 up) → Hid (Loc u n14 ⟨false, none, 0, 0, none, 0, 0⟩) → NN14 ≤ n14 → F14 7 L (Act.put (Act.put (Act.put (Act.put A14 (some 14) (.pointer (some ⟨n14, 0, none⟩))) (some 95) v95) (some 97) v97) (some 99) v99) u := by
      intro L u v95 v97 v99 n14 hLL HK I95 I99 Z14 g14
      subst hLL
      rw [← hF14.out, ← hA14.out]
      try simp only [Act.put, lt, ly, lu]
      refine wpAnyH_ready (rs := [8, 11, 12]) (by kernel_rfl) (by simp) ?_
      refine AllReadyH.cons (o := ?o8q171) ?e8q171 ?k8q171 (AllReadyH.cons (o := ?o11q171) ?e11q171 ?k11q171 (AllReadyH.cons (o := ?o12q171) ?e12q171 ?k12q171 AllReadyH.nil))
      case e8q171 => simp only [lg, lz, ls] <;> rfl
      case e11q171 => simp only [lg, lz, ls] <;> rfl
      case e12q171 => simp only [lg, lz, ls] <;> rfl
      case k8q171 =>
        intro K hK
        go_simp
        go_at_call 41
        refine (hi_val (HK.out.2.2.box hRr23.out) z_r2.out).mono ?_
        rintro e u2 ⟨v2, rfl, hv2, hb2⟩
        have HK2 := Held0.call HK.out (Nat.le_of_eq HSZ14.out.symm) hb2
        refine hK.out _ _ ?_ (fun hHeld => ?_)
        · (try dsimp only)
          exact HK2.1
        clear hK K
        try simp only [Act.put, lt, ly, lu]
        rw [hF14.out]
        exact st4_14.out _ u2 v95 v97 v99 v2 n14 (by kernel_rfl) HK2 (I95.out.keep hb2) (I99.out.keep hb2) hv2 (Z14.out.call hb2) g14
      case k11q171 =>
        intro K hK
        go_simp
        have hb2 := zero_below u
        have HK2 := Held0.call HK.out (Nat.le_of_eq HSZ14.out.symm) hb2
        have Z2 := zero_loc u
        have hsz := Nat.le_trans (Nat.le_of_eq HSZ14.out.symm) HK.out.2.1.size
        refine hK.out _ _ ?_ (fun hHeld => ?_)
        · (try dsimp only)
          exact HK2.1
        clear hK K
        try simp only [Act.put, lt, ly, lu]
        rw [hF14.out]
        exact st3_1214.out _ _ v95 v97 v99 u.heap.size n14 (by kernel_rfl) HK2 (I95.out.keep hb2) (I99.out.keep hb2) Z2 hsz (Z14.out.call hb2) g14 (Nat.ne_of_gt Z14.out.lt)
      case k12q171 =>
        intro K hK
        go_simp
        have hb2 := zero_below u
        have HK2 := Held0.call HK.out (Nat.le_of_eq HSZ14.out.symm) hb2
        have Z2 := zero_loc u
        have hsz := Nat.le_trans (Nat.le_of_eq HSZ14.out.symm) HK.out.2.1.size
        refine hK.out _ _ ?_ (fun hHeld => ?_)
        · (try dsimp only)
          exact HK2.1
        clear hK K
        try simp only [Act.put, lt, ly, lu]
        rw [hF14.out]
        exact st3_1314.out _ _ v95 v97 v99 u.heap.size n14 (by kernel_rfl) HK2 (I95.out.keep hb2) (I99.out.keep hb2) Z2 hsz (Z14.out.call hb2) g14 (Nat.ne_of_gt Z14.out.lt)
    simp only [← hA14.out, Act.put, lt, ly, lu] at st3_14
    replace st3_14 := Lib.hid st3_14
    have st3_n : ∀ (L : Array Bool) (u : World) (v95 v97 v99 : Value), L = #[true, true, true, true, true, true, true, true, false, true, false, false, false, false, false, false, false] → Hid (Held0 w23 NN14 w23 u) → Hid (IsNum u v95 x) → Hid (IsNum u v99 up) → F14 8 L (Act.put (Act.put (Act.put A14 (some 95) v95) (some 97) v97) (some 99) v99) u := by
      intro L u v95 v97 v99 hLL HK I95 I99
      subst hLL
      rw [← hF14.out, ← hA14.out]
      try simp only [Act.put, lt, ly, lu]
      refine wpAnyH_ready (rs := [8, 11, 12, 13]) (by kernel_rfl) (by simp) ?_
      refine AllReadyH.cons (o := ?o8q172) ?e8q172 ?k8q172 (AllReadyH.cons (o := ?o11q172) ?e11q172 ?k11q172 (AllReadyH.cons (o := ?o12q172) ?e12q172 ?k12q172 (AllReadyH.cons (o := ?o13q172) ?e13q172 ?k13q172 AllReadyH.nil)))
      case e8q172 => simp only [lg, lz, ls] <;> rfl
      case e11q172 => simp only [lg, lz, ls] <;> rfl
      case e12q172 => simp only [lg, lz, ls] <;> rfl
      case e13q172 => simp only [lg, lz, ls] <;> rfl
      case k8q172 =>
        intro K hK
        go_simp
        go_at_call 41
        refine (hi_val (HK.out.2.2.box hRr23.out) z_r2.out).mono ?_
        rintro e u2 ⟨v2, rfl, hv2, hb2⟩
        have HK2 := Held0.call HK.out (Nat.le_of_eq HSZ14.out.symm) hb2
        refine hK.out _ _ ?_ (fun hHeld => ?_)
        · (try dsimp only)
          exact HK2.1
        clear hK K
        try simp only [Act.put, lt, ly, lu]
        rw [hF14.out]
        exact st4_n.out _ u2 v95 v97 v99 v2 (by kernel_rfl) HK2 (I95.out.keep hb2) (I99.out.keep hb2) hv2
      case k11q172 =>
        intro K hK
        go_simp
        have hb2 := zero_below u
        have HK2 := Held0.call HK.out (Nat.le_of_eq HSZ14.out.symm) hb2
        have Z2 := zero_loc u
        have hsz := Nat.le_trans (Nat.le_of_eq HSZ14.out.symm) HK.out.2.1.size
        refine hK.out _ _ ?_ (fun hHeld => ?_)
        · (try dsimp only)
          exact HK2.1
        clear hK K
        try simp only [Act.put, lt, ly, lu]
        rw [hF14.out]
        exact st3_12.out _ _ v95 v97 v99 u.heap.size (by kernel_rfl) HK2 (I95.out.keep hb2) (I99.out.keep hb2) Z2 hsz
      case k12q172 =>
        intro K hK
        go_simp
        have hb2 := zero_below u
        have HK2 := Held0.call HK.out (Nat.le_of_eq HSZ14.out.symm) hb2
        have Z2 := zero_loc u
        have hsz := Nat.le_trans (Nat.le_of_eq HSZ14.out.symm) HK.out.2.1.size
        refine hK.out _ _ ?_ (fun hHeld => ?_)
        · (try dsimp only)
          exact HK2.1
        clear hK K
        try simp only [Act.put, lt, ly, lu]
        rw [hF14.out]
        exact st3_13.out _ _ v95 v97 v99 u.heap.size (by kernel_rfl) HK2 (I95.out.keep hb2) (I99.out.keep hb2) Z2 hsz
      case k13q172 =>
        intro K hK
        go_simp
        have hb2 := zero_below u
        have HK2 := Held0.call HK.out (Nat.le_of_eq HSZ14.out.symm) hb2
        have Z2 := zero_loc u
        have hsz := Nat.le_trans (Nat.le_of_eq HSZ14.out.symm) HK.out.2.1.size
        refine hK.out _ _ ?_ (fun hHeld => ?_)
        · (try dsimp only)
          exact HK2.1
        clear hK K
        try simp only [Act.put, lt, ly, lu]
        rw [hF14.out]
        exact st3_14.out _ _ v95 v97 v99 u.heap.size (by kernel_rfl) HK2 (I95.out.keep hb2) (I99.out.keep hb2) Z2 hsz
    simp only [← hA14.out, Act.put, lt, ly, lu] at st3_n
    replace st3_n := Lib.hid st3_n
    have st2_121314 : ∀ (L : Array Bool) (u : World) (v95 v97 : Value) (n12 n13 n14 : Nat), L = #[true, true, true, true, true, true, false, true, false, true, false, true, true, true, false, false, false] → Hid (Held0 w23 NN14 w23 u) → Hid (IsNum u v95 x) → Hid (IsNum u v97 r1) → Hid (Loc u n12 ⟨false, none, 0, 0, none, 0, 0⟩) → NN14 ≤ n12 → Hid (Loc u n13 ⟨false, none, 0, 0, none, 0, 0⟩) → NN14 ≤ n13 → Hid (Loc u n14 ⟨false, none, 0, 0, none, 0, 0⟩) → NN14 ≤ n14 → n12 ≠ n13 → n12 ≠ n14 → n13 ≠ n14 → F14 6 L (Act.put (Act.put (Act.put (Act.put (Act.put A14 (some 12) (.pointer (some ⟨n12, 0, none⟩))) (some 13) (.pointer (some ⟨n13, 0, none⟩))) (some 14) (.pointer (some ⟨n14, 0, none⟩))) (some 95) v95) (some 97) v97) u := by
      intro L u v95 v97 n12 n13 n14 hLL HK I95 I97 Z12 g12 Z13 g13 Z14 g14 ne1213 ne1214 ne1314
      subst hLL
      rw [← hF14.out, ← hA14.out]
      try simp only [Act.put, lt, ly, lu]
      refine wpAnyH_ready (rs := [6]) (by kernel_rfl) (by simp) ?_
      refine AllReadyH.cons (o := ?o6q173) ?e6q173 ?k6q173 AllReadyH.nil
      case e6q173 => simp only [lg, lz, ls] <;> rfl
      case k6q173 =>
        intro K hK
        go_simp
        go_at_call 14
        refine (add_val e_up.out I97.out (HK.out.2.2.num hRg23.out) z_r1.out z_g.out).mono ?_
        rintro e u2 ⟨v2, rfl, hv2, hb2⟩
        have HK2 := Held0.call HK.out (Nat.le_of_eq HSZ14.out.symm) hb2
        refine hK.out _ _ ?_ (fun hHeld => ?_)
        · (try dsimp only)
          exact HK2.1
        clear hK K
        try simp only [Act.put, lt, ly, lu]
        rw [hF14.out]
        exact st3_121314.out _ u2 v95 v97 v2 n12 n13 n14 (by kernel_rfl) HK2 (I95.out.keep hb2) hv2 (Z12.out.call hb2) g12 (Z13.out.call hb2) g13 (Z14.out.call hb2) g14 ne1213 ne1214 ne1314
    simp only [← hA14.out, Act.put, lt, ly, lu] at st2_121314
    replace st2_121314 := Lib.hid st2_121314
    have st2_1213 : ∀ (L : Array Bool) (u : World) (v95 v97 : Value) (n12 n13 : Nat), L = #[true, true, true, true, true, true, false, true, false, true, false, true, true, false, false, false, false] → Hid (Held0 w23 NN14 w23 u) → Hid (IsNum u v95 x) → Hid (IsNum u v97 r1) → Hid (Loc u n12 ⟨false, none, 0, 0, none, 0, 0⟩) → NN14 ≤ n12 → Hid (Loc u n13 ⟨false, none, 0, 0, none, 0, 0⟩) → NN14 ≤ n13 → n12 ≠ n13 → F14 7 L (Act.put (Act.put (Act.put (Act.put A14 (some 12) (.pointer (some ⟨n12, 0, none⟩))) (some 13) (.pointer (some ⟨n13, 0, none⟩))) (some 95) v95) (some 97) v97) u := by
      intro L u v95 v97 n12 n13 hLL HK I95 I97 Z12 g12 Z13 g13 ne1213
      subst hLL
      rw [← hF14.out, ← hA14.out]
      try simp only [Act.put, lt, ly, lu]
      refine wpAnyH_ready (rs := [6, 13]) (by kernel_rfl) (by simp) ?_
      refine AllReadyH.cons (o := ?o6q174) ?e6q174 ?k6q174 (AllReadyH.cons (o := ?o13q174) ?e13q174 ?k13q174 AllReadyH.nil)
      case e6q174 => simp only [lg, lz, ls] <;> rfl
      case e13q174 => simp only [lg, lz, ls] <;> rfl
      case k6q174 =>
        intro K hK
        go_simp
        go_at_call 14
        refine (add_val e_up.out I97.out (HK.out.2.2.num hRg23.out) z_r1.out z_g.out).mono ?_
        rintro e u2 ⟨v2, rfl, hv2, hb2⟩
        have HK2 := Held0.call HK.out (Nat.le_of_eq HSZ14.out.symm) hb2
        refine hK.out _ _ ?_ (fun hHeld => ?_)
        · (try dsimp only)
          exact HK2.1
        clear hK K
        try simp only [Act.put, lt, ly, lu]
        rw [hF14.out]
        exact st3_1213.out _ u2 v95 v97 v2 n12 n13 (by kernel_rfl) HK2 (I95.out.keep hb2) hv2 (Z12.out.call hb2) g12 (Z13.out.call hb2) g13 ne1213
      case k13q174 =>
        intro K hK
        go_simp
        have hb2 := zero_below u
        have HK2 := Held0.call HK.out (Nat.le_of_eq HSZ14.out.symm) hb2
        have Z2 := zero_loc u
        have hsz := Nat.le_trans (Nat.le_of_eq HSZ14.out.symm) HK.out.2.1.size
        refine hK.out _ _ ?_ (fun hHeld => ?_)
        · (try dsimp only)
          exact HK2.1
        clear hK K
        try simp only [Act.put, lt, ly, lu]
        rw [hF14.out]
        exact st2_121314.out _ _ v95 v97 n12 n13 u.heap.size (by kernel_rfl) HK2 (I95.out.keep hb2) (I97.out.keep hb2) (Z12.out.call hb2) g12 (Z13.out.call hb2) g13 Z2 hsz ne1213 (Nat.ne_of_lt Z12.out.lt) (Nat.ne_of_lt Z13.out.lt)
    simp only [← hA14.out, Act.put, lt, ly, lu] at st2_1213
    replace st2_1213 := Lib.hid st2_1213
    have st2_1214 : ∀ (L : Array Bool) (u : World) (v95 v97 : Value) (n12 n14 : Nat), L = #[true, true, true, true, true, true, false, true, false, true, false, true, false, true, false, false, false] → Hid (Held0 w23 NN14 w23 u) → Hid (IsNum u v95 x) → Hid (IsNum u v97 r1) → Hid (Loc u n12 ⟨false, none, 0, 0, none, 0, 0⟩) → NN14 ≤ n12 → Hid (Loc u n14 ⟨false, none, 0, 0, none, 0, 0⟩) → NN14 ≤ n14 → n12 ≠ n14 → F14 7 L (Act.put (Act.put (Act.put (Act.put A14 (some 12) (.pointer (some ⟨n12, 0, none⟩))) (some 14) (.pointer (some ⟨n14, 0, none⟩))) (some 95) v95) (some 97) v97) u := by
      intro L u v95 v97 n12 n14 hLL HK I95 I97 Z12 g12 Z14 g14 ne1214
      subst hLL
      rw [← hF14.out, ← hA14.out]
      try simp only [Act.put, lt, ly, lu]
      refine wpAnyH_ready (rs := [6, 12]) (by kernel_rfl) (by simp) ?_
      refine AllReadyH.cons (o := ?o6q175) ?e6q175 ?k6q175 (AllReadyH.cons (o := ?o12q175) ?e12q175 ?k12q175 AllReadyH.nil)
      case e6q175 => simp only [lg, lz, ls] <;> rfl
      case e12q175 => simp only [lg, lz, ls] <;> rfl
      case k6q175 =>
        intro K hK
        go_simp
        go_at_call 14
        refine (add_val e_up.out I97.out (HK.out.2.2.num hRg23.out) z_r1.out z_g.out).mono ?_
        rintro e u2 ⟨v2, rfl, hv2, hb2⟩
        have HK2 := Held0.call HK.out (Nat.le_of_eq HSZ14.out.symm) hb2
        refine hK.out _ _ ?_ (fun hHeld => ?_)
        · (try dsimp only)
          exact HK2.1
        clear hK K
        try simp only [Act.put, lt, ly, lu]
        rw [hF14.out]
        exact st3_1214.out _ u2 v95 v97 v2 n12 n14 (by kernel_rfl) HK2 (I95.out.keep hb2) hv2 (Z12.out.call hb2) g12 (Z14.out.call hb2) g14 ne1214
      case k12q175 =>
        intro K hK
        go_simp
        have hb2 := zero_below u
        have HK2 := Held0.call HK.out (Nat.le_of_eq HSZ14.out.symm) hb2
        have Z2 := zero_loc u
        have hsz := Nat.le_trans (Nat.le_of_eq HSZ14.out.symm) HK.out.2.1.size
        refine hK.out _ _ ?_ (fun hHeld => ?_)
        · (try dsimp only)
          exact HK2.1
        clear hK K
        try simp only [Act.put, lt, ly, lu]
        rw [hF14.out]
        exact st2_121314.out _ _ v95 v97 n12 u.heap.size n14 (by kernel_rfl) HK2 (I95.out.keep hb2) (I97.out.keep hb2) (Z12.out.call hb2) g12 Z2 hsz (Z14.out.call hb2) g14 (Nat.ne_of_lt Z12.out.lt) ne1214 (Nat.ne_of_gt Z14.out.lt)
    simp only [← hA14.out, Act.put, lt, ly, lu] at st2_1214
    replace st2_1214 := Lib.hid st2_1214
    have st2_1314 : ∀ (L : Array Bool) (u : World) (v95 v97 : Value) (n13 n14 : Nat), L = #[true, true, true, true, true, true, false, true, false, true, false, false, true, true, false, false, false] → Hid (Held0 w23 NN14 w23 u) → Hid (IsNum u v95 x) → Hid (IsNum u v97 r1) → Hid (Loc u n13 ⟨false, none, 0, 0, none, 0, 0⟩) → NN14 ≤ n13 → Hid (Loc u n14 ⟨false, none, 0, 0, none, 0, 0⟩) → NN14 ≤ n14 → n13 ≠ n14 → F14 7 L (Act.put (Act.put (Act.put (Act.put A14 (some 13) (.pointer (some ⟨n13, 0, none⟩))) (some 14) (.pointer (some ⟨n14, 0, none⟩))) (some 95) v95) (some 97) v97) u := by
      intro L u v95 v97 n13 n14 hLL HK I95 I97 Z13 g13 Z14 g14 ne1314
      subst hLL
      rw [← hF14.out, ← hA14.out]
      try simp only [Act.put, lt, ly, lu]
      refine wpAnyH_ready (rs := [6, 11]) (by kernel_rfl) (by simp) ?_
      refine AllReadyH.cons (o := ?o6q176) ?e6q176 ?k6q176 (AllReadyH.cons (o := ?o11q176) ?e11q176 ?k11q176 AllReadyH.nil)
      case e6q176 => simp only [lg, lz, ls] <;> rfl
      case e11q176 => simp only [lg, lz, ls] <;> rfl
      case k6q176 =>
        intro K hK
        go_simp
        go_at_call 14
        refine (add_val e_up.out I97.out (HK.out.2.2.num hRg23.out) z_r1.out z_g.out).mono ?_
        rintro e u2 ⟨v2, rfl, hv2, hb2⟩
        have HK2 := Held0.call HK.out (Nat.le_of_eq HSZ14.out.symm) hb2
        refine hK.out _ _ ?_ (fun hHeld => ?_)
        · (try dsimp only)
          exact HK2.1
        clear hK K
        try simp only [Act.put, lt, ly, lu]
        rw [hF14.out]
        exact st3_1314.out _ u2 v95 v97 v2 n13 n14 (by kernel_rfl) HK2 (I95.out.keep hb2) hv2 (Z13.out.call hb2) g13 (Z14.out.call hb2) g14 ne1314
      case k11q176 =>
        intro K hK
        go_simp
        have hb2 := zero_below u
        have HK2 := Held0.call HK.out (Nat.le_of_eq HSZ14.out.symm) hb2
        have Z2 := zero_loc u
        have hsz := Nat.le_trans (Nat.le_of_eq HSZ14.out.symm) HK.out.2.1.size
        refine hK.out _ _ ?_ (fun hHeld => ?_)
        · (try dsimp only)
          exact HK2.1
        clear hK K
        try simp only [Act.put, lt, ly, lu]
        rw [hF14.out]
        exact st2_121314.out _ _ v95 v97 u.heap.size n13 n14 (by kernel_rfl) HK2 (I95.out.keep hb2) (I97.out.keep hb2) Z2 hsz (Z13.out.call hb2) g13 (Z14.out.call hb2) g14 (Nat.ne_of_gt Z13.out.lt) (Nat.ne_of_gt Z14.out.lt) ne1314
    simp only [← hA14.out, Act.put, lt, ly, lu] at st2_1314
    replace st2_1314 := Lib.hid st2_1314
    have st2_12 : ∀ (L : Array Bool) (u : World) (v95 v97 : Value) (n12 : Nat), L = #[true, true, true, true, true, true, false, true, false, true, false, true, false, false, false, false, false] → Hid (Held0 w23 NN14 w23 u) → Hid (IsNum u v95 x) → Hid (IsNum u v97 r1) → Hid (Loc u n12 ⟨false, none, 0, 0, none, 0, 0⟩) → NN14 ≤ n12 → F14 8 L (Act.put (Act.put (Act.put A14 (some 12) (.pointer (some ⟨n12, 0, none⟩))) (some 95) v95) (some 97) v97) u := by
      intro L u v95 v97 n12 hLL HK I95 I97 Z12 g12
      subst hLL
      rw [← hF14.out, ← hA14.out]
      try simp only [Act.put, lt, ly, lu]
      refine wpAnyH_ready (rs := [6, 12, 13]) (by kernel_rfl) (by simp) ?_
      refine AllReadyH.cons (o := ?o6q177) ?e6q177 ?k6q177 (AllReadyH.cons (o := ?o12q177) ?e12q177 ?k12q177 (AllReadyH.cons (o := ?o13q177) ?e13q177 ?k13q177 AllReadyH.nil))
      case e6q177 => simp only [lg, lz, ls] <;> rfl
      case e12q177 => simp only [lg, lz, ls] <;> rfl
      case e13q177 => simp only [lg, lz, ls] <;> rfl
      case k6q177 =>
        intro K hK
        go_simp
        go_at_call 14
        refine (add_val e_up.out I97.out (HK.out.2.2.num hRg23.out) z_r1.out z_g.out).mono ?_
        rintro e u2 ⟨v2, rfl, hv2, hb2⟩
        have HK2 := Held0.call HK.out (Nat.le_of_eq HSZ14.out.symm) hb2
        refine hK.out _ _ ?_ (fun hHeld => ?_)
        · (try dsimp only)
          exact HK2.1
        clear hK K
        try simp only [Act.put, lt, ly, lu]
        rw [hF14.out]
        exact st3_12.out _ u2 v95 v97 v2 n12 (by kernel_rfl) HK2 (I95.out.keep hb2) hv2 (Z12.out.call hb2) g12
      case k12q177 =>
        intro K hK
        go_simp
        have hb2 := zero_below u
        have HK2 := Held0.call HK.out (Nat.le_of_eq HSZ14.out.symm) hb2
        have Z2 := zero_loc u
        have hsz := Nat.le_trans (Nat.le_of_eq HSZ14.out.symm) HK.out.2.1.size
        refine hK.out _ _ ?_ (fun hHeld => ?_)
        · (try dsimp only)
          exact HK2.1
        clear hK K
        try simp only [Act.put, lt, ly, lu]
        rw [hF14.out]
        exact st2_1213.out _ _ v95 v97 n12 u.heap.size (by kernel_rfl) HK2 (I95.out.keep hb2) (I97.out.keep hb2) (Z12.out.call hb2) g12 Z2 hsz (Nat.ne_of_lt Z12.out.lt)
      case k13q177 =>
        intro K hK
        go_simp
        have hb2 := zero_below u
        have HK2 := Held0.call HK.out (Nat.le_of_eq HSZ14.out.symm) hb2
        have Z2 := zero_loc u
        have hsz := Nat.le_trans (Nat.le_of_eq HSZ14.out.symm) HK.out.2.1.size
        refine hK.out _ _ ?_ (fun hHeld => ?_)
        · (try dsimp only)
          exact HK2.1
        clear hK K
        try simp only [Act.put, lt, ly, lu]
        rw [hF14.out]
        exact st2_1214.out _ _ v95 v97 n12 u.heap.size (by kernel_rfl) HK2 (I95.out.keep hb2) (I97.out.keep hb2) (Z12.out.call hb2) g12 Z2 hsz (Nat.ne_of_lt Z12.out.lt)
    simp only [← hA14.out, Act.put, lt, ly, lu] at st2_12
    replace st2_12 := Lib.hid st2_12
    have st2_13 : ∀ (L : Array Bool) (u : World) (v95 v97 : Value) (n13 : Nat), L = #[true, true, true, true, true, true, false, true, false, true, false, false, true, false, false, false, false] → Hid (Held0 w23 NN14 w23 u) → Hid (IsNum u v95 x) → Hid (IsNum u v97 r1) → Hid (Loc u n13 ⟨false, none, 0, 0, none, 0, 0⟩) → NN14 ≤ n13 → F14 8 L (Act.put (Act.put (Act.put A14 (some 13) (.pointer (some ⟨n13, 0, none⟩))) (some 95) v95) (some 97) v97) u := by
      intro L u v95 v97 n13 hLL HK I95 I97 Z13 g13
      subst hLL
      rw [← hF14.out, ← hA14.out]
      try simp only [Act.put, lt, ly, lu]
      refine wpAnyH_ready (rs := [6, 11, 13]) (by kernel_rfl) (by simp) ?_
      refine AllReadyH.cons (o := ?o6q178) ?e6q178 ?k6q178 (AllReadyH.cons (o := ?o11q178) ?e11q178 ?k11q178 (AllReadyH.cons (o := ?o13q178) ?e13q178 ?k13q178 AllReadyH.nil))
      case e6q178 => simp only [lg, lz, ls] <;> rfl
      case e11q178 => simp only [lg, lz, ls] <;> rfl
      case e13q178 => simp only [lg, lz, ls] <;> rfl
      case k6q178 =>
        intro K hK
        go_simp
        go_at_call 14
        refine (add_val e_up.out I97.out (HK.out.2.2.num hRg23.out) z_r1.out z_g.out).mono ?_
        rintro e u2 ⟨v2, rfl, hv2, hb2⟩
        have HK2 := Held0.call HK.out (Nat.le_of_eq HSZ14.out.symm) hb2
        refine hK.out _ _ ?_ (fun hHeld => ?_)
        · (try dsimp only)
          exact HK2.1
        clear hK K
        try simp only [Act.put, lt, ly, lu]
        rw [hF14.out]
        exact st3_13.out _ u2 v95 v97 v2 n13 (by kernel_rfl) HK2 (I95.out.keep hb2) hv2 (Z13.out.call hb2) g13
      case k11q178 =>
        intro K hK
        go_simp
        have hb2 := zero_below u
        have HK2 := Held0.call HK.out (Nat.le_of_eq HSZ14.out.symm) hb2
        have Z2 := zero_loc u
        have hsz := Nat.le_trans (Nat.le_of_eq HSZ14.out.symm) HK.out.2.1.size
        refine hK.out _ _ ?_ (fun hHeld => ?_)
        · (try dsimp only)
          exact HK2.1
        clear hK K
        try simp only [Act.put, lt, ly, lu]
        rw [hF14.out]
        exact st2_1213.out _ _ v95 v97 u.heap.size n13 (by kernel_rfl) HK2 (I95.out.keep hb2) (I97.out.keep hb2) Z2 hsz (Z13.out.call hb2) g13 (Nat.ne_of_gt Z13.out.lt)
      case k13q178 =>
        intro K hK
        go_simp
        have hb2 := zero_below u
        have HK2 := Held0.call HK.out (Nat.le_of_eq HSZ14.out.symm) hb2
        have Z2 := zero_loc u
        have hsz := Nat.le_trans (Nat.le_of_eq HSZ14.out.symm) HK.out.2.1.size
        refine hK.out _ _ ?_ (fun hHeld => ?_)
        · (try dsimp only)
          exact HK2.1
        clear hK K
        try simp only [Act.put, lt, ly, lu]
        rw [hF14.out]
        exact st2_1314.out _ _ v95 v97 n13 u.heap.size (by kernel_rfl) HK2 (I95.out.keep hb2) (I97.out.keep hb2) (Z13.out.call hb2) g13 Z2 hsz (Nat.ne_of_lt Z13.out.lt)
    simp only [← hA14.out, Act.put, lt, ly, lu] at st2_13
    replace st2_13 := Lib.hid st2_13
    have st2_14 : ∀ (L : Array Bool) (u : World) (v95 v97 : Value) (n14 : Nat), L = #[true, true, true, true, true, true, false, true, false, true, false, false, false, true, false, false, false] → Hid (Held0 w23 NN14 w23 u) → Hid (IsNum u v95 x) → Hid (IsNum u v97 r1) → Hid (Loc u n14 ⟨false, none, 0, 0, none, 0, 0⟩) → NN14 ≤ n14 → F14 8 L (Act.put (Act.put (Act.put A14 (some 14) (.pointer (some ⟨n14, 0, none⟩))) (some 95) v95) (some 97) v97) u := by
      intro L u v95 v97 n14 hLL HK I95 I97 Z14 g14
      subst hLL
      rw [← hF14.out, ← hA14.out]
      try simp only [Act.put, lt, ly, lu]
      refine wpAnyH_ready (rs := [6, 11, 12]) (by kernel_rfl) (by simp) ?_
      refine AllReadyH.cons (o := ?o6q179) ?e6q179 ?k6q179 (AllReadyH.cons (o := ?o11q179) ?e11q179 ?k11q179 (AllReadyH.cons (o := ?o12q179) ?e12q179 ?k12q179 AllReadyH.nil))
      case e6q179 => simp only [lg, lz, ls] <;> rfl
      case e11q179 => simp only [lg, lz, ls] <;> rfl
      case e12q179 => simp only [lg, lz, ls] <;> rfl
      case k6q179 =>
        intro K hK
        go_simp
        go_at_call 14
        refine (add_val e_up.out I97.out (HK.out.2.2.num hRg23.out) z_r1.out z_g.out).mono ?_
        rintro e u2 ⟨v2, rfl, hv2, hb2⟩
        have HK2 := Held0.call HK.out (Nat.le_of_eq HSZ14.out.symm) hb2
        refine hK.out _ _ ?_ (fun hHeld => ?_)
        · (try dsimp only)
          exact HK2.1
        clear hK K
        try simp only [Act.put, lt, ly, lu]
        rw [hF14.out]
        exact st3_14.out _ u2 v95 v97 v2 n14 (by kernel_rfl) HK2 (I95.out.keep hb2) hv2 (Z14.out.call hb2) g14
      case k11q179 =>
        intro K hK
        go_simp
        have hb2 := zero_below u
        have HK2 := Held0.call HK.out (Nat.le_of_eq HSZ14.out.symm) hb2
        have Z2 := zero_loc u
        have hsz := Nat.le_trans (Nat.le_of_eq HSZ14.out.symm) HK.out.2.1.size
        refine hK.out _ _ ?_ (fun hHeld => ?_)
        · (try dsimp only)
          exact HK2.1
        clear hK K
        try simp only [Act.put, lt, ly, lu]
        rw [hF14.out]
        exact st2_1214.out _ _ v95 v97 u.heap.size n14 (by kernel_rfl) HK2 (I95.out.keep hb2) (I97.out.keep hb2) Z2 hsz (Z14.out.call hb2) g14 (Nat.ne_of_gt Z14.out.lt)
      case k12q179 =>
        intro K hK
        go_simp
        have hb2 := zero_below u
        have HK2 := Held0.call HK.out (Nat.le_of_eq HSZ14.out.symm) hb2
        have Z2 := zero_loc u
        have hsz := Nat.le_trans (Nat.le_of_eq HSZ14.out.symm) HK.out.2.1.size
        refine hK.out _ _ ?_ (fun hHeld => ?_)
        · (try dsimp only)
          exact HK2.1
        clear hK K
        try simp only [Act.put, lt, ly, lu]
        rw [hF14.out]
        exact st2_1314.out _ _ v95 v97 u.heap.size n14 (by kernel_rfl) HK2 (I95.out.keep hb2) (I97.out.keep hb2) Z2 hsz (Z14.out.call hb2) g14 (Nat.ne_of_gt Z14.out.lt)
    simp only [← hA14.out, Act.put, lt, ly, lu] at st2_14
    replace st2_14 := Lib.hid st2_14
    have st2_n : ∀ (L : Array Bool) (u : World) (v95 v97 : Value), L = #[true, true, true, true, true, true, false, true, false, true, false, false, false, false, false, false, false] → Hid (Held0 w23 NN14 w23 u) → Hid (IsNum u v95 x) → Hid (IsNum u v97 r1) → F14 9 L (Act.put (Act.put A14 (some 95) v95) (some 97) v97) u := by
      intro L u v95 v97 hLL HK I95 I97
      subst hLL
      rw [← hF14.out, ← hA14.out]
      try simp only [Act.put, lt, ly, lu]
      refine wpAnyH_ready (rs := [6, 11, 12, 13]) (by kernel_rfl) (by simp) ?_
      refine AllReadyH.cons (o := ?o6q180) ?e6q180 ?k6q180 (AllReadyH.cons (o := ?o11q180) ?e11q180 ?k11q180 (AllReadyH.cons (o := ?o12q180) ?e12q180 ?k12q180 (AllReadyH.cons (o := ?o13q180) ?e13q180 ?k13q180 AllReadyH.nil)))
      case e6q180 => simp only [lg, lz, ls] <;> rfl
      case e11q180 => simp only [lg, lz, ls] <;> rfl
      case e12q180 => simp only [lg, lz, ls] <;> rfl
      case e13q180 => simp only [lg, lz, ls] <;> rfl
      case k6q180 =>
        intro K hK
        go_simp
        go_at_call 14
        refine (add_val e_up.out I97.out (HK.out.2.2.num hRg23.out) z_r1.out z_g.out).mono ?_
        rintro e u2 ⟨v2, rfl, hv2, hb2⟩
        have HK2 := Held0.call HK.out (Nat.le_of_eq HSZ14.out.symm) hb2
        refine hK.out _ _ ?_ (fun hHeld => ?_)
        · (try dsimp only)
          exact HK2.1
        clear hK K
        try simp only [Act.put, lt, ly, lu]
        rw [hF14.out]
        exact st3_n.out _ u2 v95 v97 v2 (by kernel_rfl) HK2 (I95.out.keep hb2) hv2
      case k11q180 =>
        intro K hK
        go_simp
        have hb2 := zero_below u
        have HK2 := Held0.call HK.out (Nat.le_of_eq HSZ14.out.symm) hb2
        have Z2 := zero_loc u
        have hsz := Nat.le_trans (Nat.le_of_eq HSZ14.out.symm) HK.out.2.1.size
        refine hK.out _ _ ?_ (fun hHeld => ?_)
        · (try dsimp only)
          exact HK2.1
        clear hK K
        try simp only [Act.put, lt, ly, lu]
        rw [hF14.out]
        exact st2_12.out _ _ v95 v97 u.heap.size (by kernel_rfl) HK2 (I95.out.keep hb2) (I97.out.keep hb2) Z2 hsz
      case k12q180 =>
        intro K hK
        go_simp
        have hb2 := zero_below u
        have HK2 := Held0.call HK.out (Nat.le_of_eq HSZ14.out.symm) hb2
        have Z2 := zero_loc u
        have hsz := Nat.le_trans (Nat.le_of_eq HSZ14.out.symm) HK.out.2.1.size
        refine hK.out _ _ ?_ (fun hHeld => ?_)
        · (try dsimp only)
          exact HK2.1
        clear hK K
        try simp only [Act.put, lt, ly, lu]
        rw [hF14.out]
        exact st2_13.out _ _ v95 v97 u.heap.size (by kernel_rfl) HK2 (I95.out.keep hb2) (I97.out.keep hb2) Z2 hsz
      case k13q180 =>
        intro K hK
        go_simp
        have hb2 := zero_below u
        have HK2 := Held0.call HK.out (Nat.le_of_eq HSZ14.out.symm) hb2
        have Z2 := zero_loc u
        have hsz := Nat.le_trans (Nat.le_of_eq HSZ14.out.symm) HK.out.2.1.size
        refine hK.out _ _ ?_ (fun hHeld => ?_)
        · (try dsimp only)
          exact HK2.1
        clear hK K
        try simp only [Act.put, lt, ly, lu]
        rw [hF14.out]
        exact st2_14.out _ _ v95 v97 u.heap.size (by kernel_rfl) HK2 (I95.out.keep hb2) (I97.out.keep hb2) Z2 hsz
    simp only [← hA14.out, Act.put, lt, ly, lu] at st2_n
    replace st2_n := Lib.hid st2_n
    have st1_121314 : ∀ (L : Array Bool) (u : World) (v95 : Value) (n12 n13 n14 : Nat), L = #[true, true, true, true, false, true, false, true, false, true, false, true, true, true, false, false, false] → Hid (Held0 w23 NN14 w23 u) → Hid (IsNum u v95 x) → Hid (Loc u n12 ⟨false, none, 0, 0, none, 0, 0⟩) → NN14 ≤ n12 → Hid (Loc u n13 ⟨false, none, 0, 0, none, 0, 0⟩) → NN14 ≤ n13 → Hid (Loc u n14 ⟨false, none, 0, 0, none, 0, 0⟩) → NN14 ≤ n14 → n12 ≠ n13 → n12 ≠ n14 → n13 ≠ n14 → F14 7 L (Act.put (Act.put (Act.put (Act.put A14 (some 12) (.pointer (some ⟨n12, 0, none⟩))) (some 13) (.pointer (some ⟨n13, 0, none⟩))) (some 14) (.pointer (some ⟨n14, 0, none⟩))) (some 95) v95) u := by
      intro L u v95 n12 n13 n14 hLL HK I95 Z12 g12 Z13 g13 Z14 g14 ne1213 ne1214 ne1314
      subst hLL
      rw [← hF14.out, ← hA14.out]
      try simp only [Act.put, lt, ly, lu]
      refine wpAnyH_ready (rs := [4]) (by kernel_rfl) (by simp) ?_
      refine AllReadyH.cons (o := ?o4q181) ?e4q181 ?k4q181 AllReadyH.nil
      case e4q181 => simp only [lg, lz, ls] <;> rfl
      case k4q181 =>
        intro K hK
        go_simp
        go_at_call 40
        refine (lo_val (HK.out.2.2.box hRr23.out) z_r1.out).mono ?_
        rintro e u2 ⟨v2, rfl, hv2, hb2⟩
        have HK2 := Held0.call HK.out (Nat.le_of_eq HSZ14.out.symm) hb2
        refine hK.out _ _ ?_ (fun hHeld => ?_)
        · (try dsimp only)
          exact HK2.1
        clear hK K
        try simp only [Act.put, lt, ly, lu]
        rw [hF14.out]
        exact st2_121314.out _ u2 v95 v2 n12 n13 n14 (by kernel_rfl) HK2 (I95.out.keep hb2) hv2 (Z12.out.call hb2) g12 (Z13.out.call hb2) g13 (Z14.out.call hb2) g14 ne1213 ne1214 ne1314
    simp only [← hA14.out, Act.put, lt, ly, lu] at st1_121314
    replace st1_121314 := Lib.hid st1_121314
    have st1_1213 : ∀ (L : Array Bool) (u : World) (v95 : Value) (n12 n13 : Nat), L = #[true, true, true, true, false, true, false, true, false, true, false, true, true, false, false, false, false] → Hid (Held0 w23 NN14 w23 u) → Hid (IsNum u v95 x) → Hid (Loc u n12 ⟨false, none, 0, 0, none, 0, 0⟩) → NN14 ≤ n12 → Hid (Loc u n13 ⟨false, none, 0, 0, none, 0, 0⟩) → NN14 ≤ n13 → n12 ≠ n13 → F14 8 L (Act.put (Act.put (Act.put A14 (some 12) (.pointer (some ⟨n12, 0, none⟩))) (some 13) (.pointer (some ⟨n13, 0, none⟩))) (some 95) v95) u := by
      intro L u v95 n12 n13 hLL HK I95 Z12 g12 Z13 g13 ne1213
      subst hLL
      rw [← hF14.out, ← hA14.out]
      try simp only [Act.put, lt, ly, lu]
      refine wpAnyH_ready (rs := [4, 13]) (by kernel_rfl) (by simp) ?_
      refine AllReadyH.cons (o := ?o4q182) ?e4q182 ?k4q182 (AllReadyH.cons (o := ?o13q182) ?e13q182 ?k13q182 AllReadyH.nil)
      case e4q182 => simp only [lg, lz, ls] <;> rfl
      case e13q182 => simp only [lg, lz, ls] <;> rfl
      case k4q182 =>
        intro K hK
        go_simp
        go_at_call 40
        refine (lo_val (HK.out.2.2.box hRr23.out) z_r1.out).mono ?_
        rintro e u2 ⟨v2, rfl, hv2, hb2⟩
        have HK2 := Held0.call HK.out (Nat.le_of_eq HSZ14.out.symm) hb2
        refine hK.out _ _ ?_ (fun hHeld => ?_)
        · (try dsimp only)
          exact HK2.1
        clear hK K
        try simp only [Act.put, lt, ly, lu]
        rw [hF14.out]
        exact st2_1213.out _ u2 v95 v2 n12 n13 (by kernel_rfl) HK2 (I95.out.keep hb2) hv2 (Z12.out.call hb2) g12 (Z13.out.call hb2) g13 ne1213
      case k13q182 =>
        intro K hK
        go_simp
        have hb2 := zero_below u
        have HK2 := Held0.call HK.out (Nat.le_of_eq HSZ14.out.symm) hb2
        have Z2 := zero_loc u
        have hsz := Nat.le_trans (Nat.le_of_eq HSZ14.out.symm) HK.out.2.1.size
        refine hK.out _ _ ?_ (fun hHeld => ?_)
        · (try dsimp only)
          exact HK2.1
        clear hK K
        try simp only [Act.put, lt, ly, lu]
        rw [hF14.out]
        exact st1_121314.out _ _ v95 n12 n13 u.heap.size (by kernel_rfl) HK2 (I95.out.keep hb2) (Z12.out.call hb2) g12 (Z13.out.call hb2) g13 Z2 hsz ne1213 (Nat.ne_of_lt Z12.out.lt) (Nat.ne_of_lt Z13.out.lt)
    simp only [← hA14.out, Act.put, lt, ly, lu] at st1_1213
    replace st1_1213 := Lib.hid st1_1213
    have st1_1214 : ∀ (L : Array Bool) (u : World) (v95 : Value) (n12 n14 : Nat), L = #[true, true, true, true, false, true, false, true, false, true, false, true, false, true, false, false, false] → Hid (Held0 w23 NN14 w23 u) → Hid (IsNum u v95 x) → Hid (Loc u n12 ⟨false, none, 0, 0, none, 0, 0⟩) → NN14 ≤ n12 → Hid (Loc u n14 ⟨false, none, 0, 0, none, 0, 0⟩) → NN14 ≤ n14 → n12 ≠ n14 → F14 8 L (Act.put (Act.put (Act.put A14 (some 12) (.pointer (some ⟨n12, 0, none⟩))) (some 14) (.pointer (some ⟨n14, 0, none⟩))) (some 95) v95) u := by
      intro L u v95 n12 n14 hLL HK I95 Z12 g12 Z14 g14 ne1214
      subst hLL
      rw [← hF14.out, ← hA14.out]
      try simp only [Act.put, lt, ly, lu]
      refine wpAnyH_ready (rs := [4, 12]) (by kernel_rfl) (by simp) ?_
      refine AllReadyH.cons (o := ?o4q183) ?e4q183 ?k4q183 (AllReadyH.cons (o := ?o12q183) ?e12q183 ?k12q183 AllReadyH.nil)
      case e4q183 => simp only [lg, lz, ls] <;> rfl
      case e12q183 => simp only [lg, lz, ls] <;> rfl
      case k4q183 =>
        intro K hK
        go_simp
        go_at_call 40
        refine (lo_val (HK.out.2.2.box hRr23.out) z_r1.out).mono ?_
        rintro e u2 ⟨v2, rfl, hv2, hb2⟩
        have HK2 := Held0.call HK.out (Nat.le_of_eq HSZ14.out.symm) hb2
        refine hK.out _ _ ?_ (fun hHeld => ?_)
        · (try dsimp only)
          exact HK2.1
        clear hK K
        try simp only [Act.put, lt, ly, lu]
        rw [hF14.out]
        exact st2_1214.out _ u2 v95 v2 n12 n14 (by kernel_rfl) HK2 (I95.out.keep hb2) hv2 (Z12.out.call hb2) g12 (Z14.out.call hb2) g14 ne1214
      case k12q183 =>
        intro K hK
        go_simp
        have hb2 := zero_below u
        have HK2 := Held0.call HK.out (Nat.le_of_eq HSZ14.out.symm) hb2
        have Z2 := zero_loc u
        have hsz := Nat.le_trans (Nat.le_of_eq HSZ14.out.symm) HK.out.2.1.size
        refine hK.out _ _ ?_ (fun hHeld => ?_)
        · (try dsimp only)
          exact HK2.1
        clear hK K
        try simp only [Act.put, lt, ly, lu]
        rw [hF14.out]
        exact st1_121314.out _ _ v95 n12 u.heap.size n14 (by kernel_rfl) HK2 (I95.out.keep hb2) (Z12.out.call hb2) g12 Z2 hsz (Z14.out.call hb2) g14 (Nat.ne_of_lt Z12.out.lt) ne1214 (Nat.ne_of_gt Z14.out.lt)
    simp only [← hA14.out, Act.put, lt, ly, lu] at st1_1214
    replace st1_1214 := Lib.hid st1_1214
    have st1_1314 : ∀ (L : Array Bool) (u : World) (v95 : Value) (n13 n14 : Nat), L = #[true, true, true, true, false, true, false, true, false, true, false, false, true, true, false, false, false] → Hid (Held0 w23 NN14 w23 u) → Hid (IsNum u v95 x) → Hid (Loc u n13 ⟨false, none, 0, 0, none, 0, 0⟩) → NN14 ≤ n13 → Hid (Loc u n14 ⟨false, none, 0, 0, none, 0, 0⟩) → NN14 ≤ n14 → n13 ≠ n14 → F14 8 L (Act.put (Act.put (Act.put A14 (some 13) (.pointer (some ⟨n13, 0, none⟩))) (some 14) (.pointer (some ⟨n14, 0, none⟩))) (some 95) v95) u := by
      intro L u v95 n13 n14 hLL HK I95 Z13 g13 Z14 g14 ne1314
      subst hLL
      rw [← hF14.out, ← hA14.out]
      try simp only [Act.put, lt, ly, lu]
      refine wpAnyH_ready (rs := [4, 11]) (by kernel_rfl) (by simp) ?_
      refine AllReadyH.cons (o := ?o4q184) ?e4q184 ?k4q184 (AllReadyH.cons (o := ?o11q184) ?e11q184 ?k11q184 AllReadyH.nil)
      case e4q184 => simp only [lg, lz, ls] <;> rfl
      case e11q184 => simp only [lg, lz, ls] <;> rfl
      case k4q184 =>
        intro K hK
        go_simp
        go_at_call 40
        refine (lo_val (HK.out.2.2.box hRr23.out) z_r1.out).mono ?_
        rintro e u2 ⟨v2, rfl, hv2, hb2⟩
        have HK2 := Held0.call HK.out (Nat.le_of_eq HSZ14.out.symm) hb2
        refine hK.out _ _ ?_ (fun hHeld => ?_)
        · (try dsimp only)
          exact HK2.1
        clear hK K
        try simp only [Act.put, lt, ly, lu]
        rw [hF14.out]
        exact st2_1314.out _ u2 v95 v2 n13 n14 (by kernel_rfl) HK2 (I95.out.keep hb2) hv2 (Z13.out.call hb2) g13 (Z14.out.call hb2) g14 ne1314
      case k11q184 =>
        intro K hK
        go_simp
        have hb2 := zero_below u
        have HK2 := Held0.call HK.out (Nat.le_of_eq HSZ14.out.symm) hb2
        have Z2 := zero_loc u
        have hsz := Nat.le_trans (Nat.le_of_eq HSZ14.out.symm) HK.out.2.1.size
        refine hK.out _ _ ?_ (fun hHeld => ?_)
        · (try dsimp only)
          exact HK2.1
        clear hK K
        try simp only [Act.put, lt, ly, lu]
        rw [hF14.out]
        exact st1_121314.out _ _ v95 u.heap.size n13 n14 (by kernel_rfl) HK2 (I95.out.keep hb2) Z2 hsz (Z13.out.call hb2) g13 (Z14.out.call hb2) g14 (Nat.ne_of_gt Z13.out.lt) (Nat.ne_of_gt Z14.out.lt) ne1314
    simp only [← hA14.out, Act.put, lt, ly, lu] at st1_1314
    replace st1_1314 := Lib.hid st1_1314
    have st1_12 : ∀ (L : Array Bool) (u : World) (v95 : Value) (n12 : Nat), L = #[true, true, true, true, false, true, false, true, false, true, false, true, false, false, false, false, false] → Hid (Held0 w23 NN14 w23 u) → Hid (IsNum u v95 x) → Hid (Loc u n12 ⟨false, none, 0, 0, none, 0, 0⟩) → NN14 ≤ n12 → F14 9 L (Act.put (Act.put A14 (some 12) (.pointer (some ⟨n12, 0, none⟩))) (some 95) v95) u := by
      intro L u v95 n12 hLL HK I95 Z12 g12
      subst hLL
      rw [← hF14.out, ← hA14.out]
      try simp only [Act.put, lt, ly, lu]
      refine wpAnyH_ready (rs := [4, 12, 13]) (by kernel_rfl) (by simp) ?_
      refine AllReadyH.cons (o := ?o4q185) ?e4q185 ?k4q185 (AllReadyH.cons (o := ?o12q185) ?e12q185 ?k12q185 (AllReadyH.cons (o := ?o13q185) ?e13q185 ?k13q185 AllReadyH.nil))
      case e4q185 => simp only [lg, lz, ls] <;> rfl
      case e12q185 => simp only [lg, lz, ls] <;> rfl
      case e13q185 => simp only [lg, lz, ls] <;> rfl
      case k4q185 =>
        intro K hK
        go_simp
        go_at_call 40
        refine (lo_val (HK.out.2.2.box hRr23.out) z_r1.out).mono ?_
        rintro e u2 ⟨v2, rfl, hv2, hb2⟩
        have HK2 := Held0.call HK.out (Nat.le_of_eq HSZ14.out.symm) hb2
        refine hK.out _ _ ?_ (fun hHeld => ?_)
        · (try dsimp only)
          exact HK2.1
        clear hK K
        try simp only [Act.put, lt, ly, lu]
        rw [hF14.out]
        exact st2_12.out _ u2 v95 v2 n12 (by kernel_rfl) HK2 (I95.out.keep hb2) hv2 (Z12.out.call hb2) g12
      case k12q185 =>
        intro K hK
        go_simp
        have hb2 := zero_below u
        have HK2 := Held0.call HK.out (Nat.le_of_eq HSZ14.out.symm) hb2
        have Z2 := zero_loc u
        have hsz := Nat.le_trans (Nat.le_of_eq HSZ14.out.symm) HK.out.2.1.size
        refine hK.out _ _ ?_ (fun hHeld => ?_)
        · (try dsimp only)
          exact HK2.1
        clear hK K
        try simp only [Act.put, lt, ly, lu]
        rw [hF14.out]
        exact st1_1213.out _ _ v95 n12 u.heap.size (by kernel_rfl) HK2 (I95.out.keep hb2) (Z12.out.call hb2) g12 Z2 hsz (Nat.ne_of_lt Z12.out.lt)
      case k13q185 =>
        intro K hK
        go_simp
        have hb2 := zero_below u
        have HK2 := Held0.call HK.out (Nat.le_of_eq HSZ14.out.symm) hb2
        have Z2 := zero_loc u
        have hsz := Nat.le_trans (Nat.le_of_eq HSZ14.out.symm) HK.out.2.1.size
        refine hK.out _ _ ?_ (fun hHeld => ?_)
        · (try dsimp only)
          exact HK2.1
        clear hK K
        try simp only [Act.put, lt, ly, lu]
        rw [hF14.out]
        exact st1_1214.out _ _ v95 n12 u.heap.size (by kernel_rfl) HK2 (I95.out.keep hb2) (Z12.out.call hb2) g12 Z2 hsz (Nat.ne_of_lt Z12.out.lt)
    simp only [← hA14.out, Act.put, lt, ly, lu] at st1_12
    replace st1_12 := Lib.hid st1_12
    have st1_13 : ∀ (L : Array Bool) (u : World) (v95 : Value) (n13 : Nat), L = #[true, true, true, true, false, true, false, true, false, true, false, false, true, false, false, false, false] → Hid (Held0 w23 NN14 w23 u) → Hid (IsNum u v95 x) → Hid (Loc u n13 ⟨false, none, 0, 0, none, 0, 0⟩) → NN14 ≤ n13 → F14 9 L (Act.put (Act.put A14 (some 13) (.pointer (some ⟨n13, 0, none⟩))) (some 95) v95) u := by
      intro L u v95 n13 hLL HK I95 Z13 g13
      subst hLL
      rw [← hF14.out, ← hA14.out]
      try simp only [Act.put, lt, ly, lu]
      refine wpAnyH_ready (rs := [4, 11, 13]) (by kernel_rfl) (by simp) ?_
      refine AllReadyH.cons (o := ?o4q186) ?e4q186 ?k4q186 (AllReadyH.cons (o := ?o11q186) ?e11q186 ?k11q186 (AllReadyH.cons (o := ?o13q186) ?e13q186 ?k13q186 AllReadyH.nil))
      case e4q186 => simp only [lg, lz, ls] <;> rfl
      case e11q186 => simp only [lg, lz, ls] <;> rfl
      case e13q186 => simp only [lg, lz, ls] <;> rfl
      case k4q186 =>
        intro K hK
        go_simp
        go_at_call 40
        refine (lo_val (HK.out.2.2.box hRr23.out) z_r1.out).mono ?_
        rintro e u2 ⟨v2, rfl, hv2, hb2⟩
        have HK2 := Held0.call HK.out (Nat.le_of_eq HSZ14.out.symm) hb2
        refine hK.out _ _ ?_ (fun hHeld => ?_)
        · (try dsimp only)
          exact HK2.1
        clear hK K
        try simp only [Act.put, lt, ly, lu]
        rw [hF14.out]
        exact st2_13.out _ u2 v95 v2 n13 (by kernel_rfl) HK2 (I95.out.keep hb2) hv2 (Z13.out.call hb2) g13
      case k11q186 =>
        intro K hK
        go_simp
        have hb2 := zero_below u
        have HK2 := Held0.call HK.out (Nat.le_of_eq HSZ14.out.symm) hb2
        have Z2 := zero_loc u
        have hsz := Nat.le_trans (Nat.le_of_eq HSZ14.out.symm) HK.out.2.1.size
        refine hK.out _ _ ?_ (fun hHeld => ?_)
        · (try dsimp only)
          exact HK2.1
        clear hK K
        try simp only [Act.put, lt, ly, lu]
        rw [hF14.out]
        exact st1_1213.out _ _ v95 u.heap.size n13 (by kernel_rfl) HK2 (I95.out.keep hb2) Z2 hsz (Z13.out.call hb2) g13 (Nat.ne_of_gt Z13.out.lt)
      case k13q186 =>
        intro K hK
        go_simp
        have hb2 := zero_below u
        have HK2 := Held0.call HK.out (Nat.le_of_eq HSZ14.out.symm) hb2
        have Z2 := zero_loc u
        have hsz := Nat.le_trans (Nat.le_of_eq HSZ14.out.symm) HK.out.2.1.size
        refine hK.out _ _ ?_ (fun hHeld => ?_)
        · (try dsimp only)
          exact HK2.1
        clear hK K
        try simp only [Act.put, lt, ly, lu]
        rw [hF14.out]
        exact st1_1314.out _ _ v95 n13 u.heap.size (by kernel_rfl) HK2 (I95.out.keep hb2) (Z13.out.call hb2) g13 Z2 hsz (Nat.ne_of_lt Z13.out.lt)
    simp only [← hA14.out, Act.put, lt, ly, lu] at st1_13
    replace st1_13 := Lib.hid st1_13
    have st1_14 : ∀ (L : Array Bool) (u : World) (v95 : Value) (n14 : Nat), L = #[true, true, true, true, false, true, false, true, false, true, false, false, false, true, false, false, false] → Hid (Held0 w23 NN14 w23 u) → Hid (IsNum u v95 x) → Hid (Loc u n14 ⟨false, none, 0, 0, none, 0, 0⟩) → NN14 ≤ n14 → F14 9 L (Act.put (Act.put A14 (some 14) (.pointer (some ⟨n14, 0, none⟩))) (some 95) v95) u := by
      intro L u v95 n14 hLL HK I95 Z14 g14
      subst hLL
      rw [← hF14.out, ← hA14.out]
      try simp only [Act.put, lt, ly, lu]
      refine wpAnyH_ready (rs := [4, 11, 12]) (by kernel_rfl) (by simp) ?_
      refine AllReadyH.cons (o := ?o4q187) ?e4q187 ?k4q187 (AllReadyH.cons (o := ?o11q187) ?e11q187 ?k11q187 (AllReadyH.cons (o := ?o12q187) ?e12q187 ?k12q187 AllReadyH.nil))
      case e4q187 => simp only [lg, lz, ls] <;> rfl
      case e11q187 => simp only [lg, lz, ls] <;> rfl
      case e12q187 => simp only [lg, lz, ls] <;> rfl
      case k4q187 =>
        intro K hK
        go_simp
        go_at_call 40
        refine (lo_val (HK.out.2.2.box hRr23.out) z_r1.out).mono ?_
        rintro e u2 ⟨v2, rfl, hv2, hb2⟩
        have HK2 := Held0.call HK.out (Nat.le_of_eq HSZ14.out.symm) hb2
        refine hK.out _ _ ?_ (fun hHeld => ?_)
        · (try dsimp only)
          exact HK2.1
        clear hK K
        try simp only [Act.put, lt, ly, lu]
        rw [hF14.out]
        exact st2_14.out _ u2 v95 v2 n14 (by kernel_rfl) HK2 (I95.out.keep hb2) hv2 (Z14.out.call hb2) g14
      case k11q187 =>
        intro K hK
        go_simp
        have hb2 := zero_below u
        have HK2 := Held0.call HK.out (Nat.le_of_eq HSZ14.out.symm) hb2
        have Z2 := zero_loc u
        have hsz := Nat.le_trans (Nat.le_of_eq HSZ14.out.symm) HK.out.2.1.size
        refine hK.out _ _ ?_ (fun hHeld => ?_)
        · (try dsimp only)
          exact HK2.1
        clear hK K
        try simp only [Act.put, lt, ly, lu]
        rw [hF14.out]
        exact st1_1214.out _ _ v95 u.heap.size n14 (by kernel_rfl) HK2 (I95.out.keep hb2) Z2 hsz (Z14.out.call hb2) g14 (Nat.ne_of_gt Z14.out.lt)
      case k12q187 =>
        intro K hK
        go_simp
        have hb2 := zero_below u
        have HK2 := Held0.call HK.out (Nat.le_of_eq HSZ14.out.symm) hb2
        have Z2 := zero_loc u
        have hsz := Nat.le_trans (Nat.le_of_eq HSZ14.out.symm) HK.out.2.1.size
        refine hK.out _ _ ?_ (fun hHeld => ?_)
        · (try dsimp only)
          exact HK2.1
        clear hK K
        try simp only [Act.put, lt, ly, lu]
        rw [hF14.out]
        exact st1_1314.out _ _ v95 u.heap.size n14 (by kernel_rfl) HK2 (I95.out.keep hb2) Z2 hsz (Z14.out.call hb2) g14 (Nat.ne_of_gt Z14.out.lt)
    simp only [← hA14.out, Act.put, lt, ly, lu] at st1_14
    replace st1_14 := Lib.hid st1_14
    have st1_n : ∀ (L : Array Bool) (u : World) (v95 : Value), L = #[true, true, true, true, false, true, false, true, false, true, false, false, false, false, false, false, false] → Hid (Held0 w23 NN14 w23 u) → Hid (IsNum u v95 x) → F14 10 L (Act.put A14 (some 95) v95) u := by
      intro L u v95 hLL HK I95
      subst hLL
      rw [← hF14.out, ← hA14.out]
      try simp only [Act.put, lt, ly, lu]
      refine wpAnyH_ready (rs := [4, 11, 12, 13]) (by kernel_rfl) (by simp) ?_
      refine AllReadyH.cons (o := ?o4q188) ?e4q188 ?k4q188 (AllReadyH.cons (o := ?o11q188) ?e11q188 ?k11q188 (AllReadyH.cons (o := ?o12q188) ?e12q188 ?k12q188 (AllReadyH.cons (o := ?o13q188) ?e13q188 ?k13q188 AllReadyH.nil)))
      case e4q188 => simp only [lg, lz, ls] <;> rfl
      case e11q188 => simp only [lg, lz, ls] <;> rfl
      case e12q188 => simp only [lg, lz, ls] <;> rfl
      case e13q188 => simp only [lg, lz, ls] <;> rfl
      case k4q188 =>
        intro K hK
        go_simp
        go_at_call 40
        refine (lo_val (HK.out.2.2.box hRr23.out) z_r1.out).mono ?_
        rintro e u2 ⟨v2, rfl, hv2, hb2⟩
        have HK2 := Held0.call HK.out (Nat.le_of_eq HSZ14.out.symm) hb2
        refine hK.out _ _ ?_ (fun hHeld => ?_)
        · (try dsimp only)
          exact HK2.1
        clear hK K
        try simp only [Act.put, lt, ly, lu]
        rw [hF14.out]
        exact st2_n.out _ u2 v95 v2 (by kernel_rfl) HK2 (I95.out.keep hb2) hv2
      case k11q188 =>
        intro K hK
        go_simp
        have hb2 := zero_below u
        have HK2 := Held0.call HK.out (Nat.le_of_eq HSZ14.out.symm) hb2
        have Z2 := zero_loc u
        have hsz := Nat.le_trans (Nat.le_of_eq HSZ14.out.symm) HK.out.2.1.size
        refine hK.out _ _ ?_ (fun hHeld => ?_)
        · (try dsimp only)
          exact HK2.1
        clear hK K
        try simp only [Act.put, lt, ly, lu]
        rw [hF14.out]
        exact st1_12.out _ _ v95 u.heap.size (by kernel_rfl) HK2 (I95.out.keep hb2) Z2 hsz
      case k12q188 =>
        intro K hK
        go_simp
        have hb2 := zero_below u
        have HK2 := Held0.call HK.out (Nat.le_of_eq HSZ14.out.symm) hb2
        have Z2 := zero_loc u
        have hsz := Nat.le_trans (Nat.le_of_eq HSZ14.out.symm) HK.out.2.1.size
        refine hK.out _ _ ?_ (fun hHeld => ?_)
        · (try dsimp only)
          exact HK2.1
        clear hK K
        try simp only [Act.put, lt, ly, lu]
        rw [hF14.out]
        exact st1_13.out _ _ v95 u.heap.size (by kernel_rfl) HK2 (I95.out.keep hb2) Z2 hsz
      case k13q188 =>
        intro K hK
        go_simp
        have hb2 := zero_below u
        have HK2 := Held0.call HK.out (Nat.le_of_eq HSZ14.out.symm) hb2
        have Z2 := zero_loc u
        have hsz := Nat.le_trans (Nat.le_of_eq HSZ14.out.symm) HK.out.2.1.size
        refine hK.out _ _ ?_ (fun hHeld => ?_)
        · (try dsimp only)
          exact HK2.1
        clear hK K
        try simp only [Act.put, lt, ly, lu]
        rw [hF14.out]
        exact st1_14.out _ _ v95 u.heap.size (by kernel_rfl) HK2 (I95.out.keep hb2) Z2 hsz
    simp only [← hA14.out, Act.put, lt, ly, lu] at st1_n
    replace st1_n := Lib.hid st1_n
    have st0_121314 : ∀ (L : Array Bool) (u : World) (n12 n13 n14 : Nat), L = #[true, true, false, true, false, true, false, true, false, true, false, true, true, true, false, false, false] → Hid (Held0 w23 NN14 w23 u) → Hid (Loc u n12 ⟨false, none, 0, 0, none, 0, 0⟩) → NN14 ≤ n12 → Hid (Loc u n13 ⟨false, none, 0, 0, none, 0, 0⟩) → NN14 ≤ n13 → Hid (Loc u n14 ⟨false, none, 0, 0, none, 0, 0⟩) → NN14 ≤ n14 → n12 ≠ n13 → n12 ≠ n14 → n13 ≠ n14 → F14 8 L (Act.put (Act.put (Act.put A14 (some 12) (.pointer (some ⟨n12, 0, none⟩))) (some 13) (.pointer (some ⟨n13, 0, none⟩))) (some 14) (.pointer (some ⟨n14, 0, none⟩))) u := by
      intro L u n12 n13 n14 hLL HK Z12 g12 Z13 g13 Z14 g14 ne1213 ne1214 ne1314
      subst hLL
      rw [← hF14.out, ← hA14.out]
      try simp only [Act.put, lt, ly, lu]
      refine wpAnyH_ready (rs := [2]) (by kernel_rfl) (by simp) ?_
      refine AllReadyH.cons (o := ?o2q189) ?e2q189 ?k2q189 AllReadyH.nil
      case e2q189 => simp only [lg, lz, ls] <;> rfl
      case k2q189 =>
        intro K hK
        go_simp
        go_at_call 30
        refine (at_val e_x.out (HK.out.2.2.box hRs23.out) hp z_l.out z_h.out).mono ?_
        rintro e u2 ⟨v2, rfl, hv2, hb2⟩
        have HK2 := Held0.call HK.out (Nat.le_of_eq HSZ14.out.symm) hb2
        refine hK.out _ _ ?_ (fun hHeld => ?_)
        · (try dsimp only)
          exact HK2.1
        clear hK K
        try simp only [Act.put, lt, ly, lu]
        rw [hF14.out]
        exact st1_121314.out _ u2 v2 n12 n13 n14 (by kernel_rfl) HK2 hv2 (Z12.out.call hb2) g12 (Z13.out.call hb2) g13 (Z14.out.call hb2) g14 ne1213 ne1214 ne1314
    simp only [← hA14.out, Act.put, lt, ly, lu] at st0_121314
    replace st0_121314 := Lib.hid st0_121314
    have st0_1213 : ∀ (L : Array Bool) (u : World) (n12 n13 : Nat), L = #[true, true, false, true, false, true, false, true, false, true, false, true, true, false, false, false, false] → Hid (Held0 w23 NN14 w23 u) → Hid (Loc u n12 ⟨false, none, 0, 0, none, 0, 0⟩) → NN14 ≤ n12 → Hid (Loc u n13 ⟨false, none, 0, 0, none, 0, 0⟩) → NN14 ≤ n13 → n12 ≠ n13 → F14 9 L (Act.put (Act.put A14 (some 12) (.pointer (some ⟨n12, 0, none⟩))) (some 13) (.pointer (some ⟨n13, 0, none⟩))) u := by
      intro L u n12 n13 hLL HK Z12 g12 Z13 g13 ne1213
      subst hLL
      rw [← hF14.out, ← hA14.out]
      try simp only [Act.put, lt, ly, lu]
      refine wpAnyH_ready (rs := [2, 13]) (by kernel_rfl) (by simp) ?_
      refine AllReadyH.cons (o := ?o2q190) ?e2q190 ?k2q190 (AllReadyH.cons (o := ?o13q190) ?e13q190 ?k13q190 AllReadyH.nil)
      case e2q190 => simp only [lg, lz, ls] <;> rfl
      case e13q190 => simp only [lg, lz, ls] <;> rfl
      case k2q190 =>
        intro K hK
        go_simp
        go_at_call 30
        refine (at_val e_x.out (HK.out.2.2.box hRs23.out) hp z_l.out z_h.out).mono ?_
        rintro e u2 ⟨v2, rfl, hv2, hb2⟩
        have HK2 := Held0.call HK.out (Nat.le_of_eq HSZ14.out.symm) hb2
        refine hK.out _ _ ?_ (fun hHeld => ?_)
        · (try dsimp only)
          exact HK2.1
        clear hK K
        try simp only [Act.put, lt, ly, lu]
        rw [hF14.out]
        exact st1_1213.out _ u2 v2 n12 n13 (by kernel_rfl) HK2 hv2 (Z12.out.call hb2) g12 (Z13.out.call hb2) g13 ne1213
      case k13q190 =>
        intro K hK
        go_simp
        have hb2 := zero_below u
        have HK2 := Held0.call HK.out (Nat.le_of_eq HSZ14.out.symm) hb2
        have Z2 := zero_loc u
        have hsz := Nat.le_trans (Nat.le_of_eq HSZ14.out.symm) HK.out.2.1.size
        refine hK.out _ _ ?_ (fun hHeld => ?_)
        · (try dsimp only)
          exact HK2.1
        clear hK K
        try simp only [Act.put, lt, ly, lu]
        rw [hF14.out]
        exact st0_121314.out _ _ n12 n13 u.heap.size (by kernel_rfl) HK2 (Z12.out.call hb2) g12 (Z13.out.call hb2) g13 Z2 hsz ne1213 (Nat.ne_of_lt Z12.out.lt) (Nat.ne_of_lt Z13.out.lt)
    simp only [← hA14.out, Act.put, lt, ly, lu] at st0_1213
    replace st0_1213 := Lib.hid st0_1213
    have st0_1214 : ∀ (L : Array Bool) (u : World) (n12 n14 : Nat), L = #[true, true, false, true, false, true, false, true, false, true, false, true, false, true, false, false, false] → Hid (Held0 w23 NN14 w23 u) → Hid (Loc u n12 ⟨false, none, 0, 0, none, 0, 0⟩) → NN14 ≤ n12 → Hid (Loc u n14 ⟨false, none, 0, 0, none, 0, 0⟩) → NN14 ≤ n14 → n12 ≠ n14 → F14 9 L (Act.put (Act.put A14 (some 12) (.pointer (some ⟨n12, 0, none⟩))) (some 14) (.pointer (some ⟨n14, 0, none⟩))) u := by
      intro L u n12 n14 hLL HK Z12 g12 Z14 g14 ne1214
      subst hLL
      rw [← hF14.out, ← hA14.out]
      try simp only [Act.put, lt, ly, lu]
      refine wpAnyH_ready (rs := [2, 12]) (by kernel_rfl) (by simp) ?_
      refine AllReadyH.cons (o := ?o2q191) ?e2q191 ?k2q191 (AllReadyH.cons (o := ?o12q191) ?e12q191 ?k12q191 AllReadyH.nil)
      case e2q191 => simp only [lg, lz, ls] <;> rfl
      case e12q191 => simp only [lg, lz, ls] <;> rfl
      case k2q191 =>
        intro K hK
        go_simp
        go_at_call 30
        refine (at_val e_x.out (HK.out.2.2.box hRs23.out) hp z_l.out z_h.out).mono ?_
        rintro e u2 ⟨v2, rfl, hv2, hb2⟩
        have HK2 := Held0.call HK.out (Nat.le_of_eq HSZ14.out.symm) hb2
        refine hK.out _ _ ?_ (fun hHeld => ?_)
        · (try dsimp only)
          exact HK2.1
        clear hK K
        try simp only [Act.put, lt, ly, lu]
        rw [hF14.out]
        exact st1_1214.out _ u2 v2 n12 n14 (by kernel_rfl) HK2 hv2 (Z12.out.call hb2) g12 (Z14.out.call hb2) g14 ne1214
      case k12q191 =>
        intro K hK
        go_simp
        have hb2 := zero_below u
        have HK2 := Held0.call HK.out (Nat.le_of_eq HSZ14.out.symm) hb2
        have Z2 := zero_loc u
        have hsz := Nat.le_trans (Nat.le_of_eq HSZ14.out.symm) HK.out.2.1.size
        refine hK.out _ _ ?_ (fun hHeld => ?_)
        · (try dsimp only)
          exact HK2.1
        clear hK K
        try simp only [Act.put, lt, ly, lu]
        rw [hF14.out]
        exact st0_121314.out _ _ n12 u.heap.size n14 (by kernel_rfl) HK2 (Z12.out.call hb2) g12 Z2 hsz (Z14.out.call hb2) g14 (Nat.ne_of_lt Z12.out.lt) ne1214 (Nat.ne_of_gt Z14.out.lt)
    simp only [← hA14.out, Act.put, lt, ly, lu] at st0_1214
    replace st0_1214 := Lib.hid st0_1214
    have st0_1314 : ∀ (L : Array Bool) (u : World) (n13 n14 : Nat), L = #[true, true, false, true, false, true, false, true, false, true, false, false, true, true, false, false, false] → Hid (Held0 w23 NN14 w23 u) → Hid (Loc u n13 ⟨false, none, 0, 0, none, 0, 0⟩) → NN14 ≤ n13 → Hid (Loc u n14 ⟨false, none, 0, 0, none, 0, 0⟩) → NN14 ≤ n14 → n13 ≠ n14 → F14 9 L (Act.put (Act.put A14 (some 13) (.pointer (some ⟨n13, 0, none⟩))) (some 14) (.pointer (some ⟨n14, 0, none⟩))) u := by
      intro L u n13 n14 hLL HK Z13 g13 Z14 g14 ne1314
      subst hLL
      rw [← hF14.out, ← hA14.out]
      try simp only [Act.put, lt, ly, lu]
      refine wpAnyH_ready (rs := [2, 11]) (by kernel_rfl) (by simp) ?_
      refine AllReadyH.cons (o := ?o2q192) ?e2q192 ?k2q192 (AllReadyH.cons (o := ?o11q192) ?e11q192 ?k11q192 AllReadyH.nil)
      case e2q192 => simp only [lg, lz, ls] <;> rfl
      case e11q192 => simp only [lg, lz, ls] <;> rfl
      case k2q192 =>
        intro K hK
        go_simp
        go_at_call 30
        refine (at_val e_x.out (HK.out.2.2.box hRs23.out) hp z_l.out z_h.out).mono ?_
        rintro e u2 ⟨v2, rfl, hv2, hb2⟩
        have HK2 := Held0.call HK.out (Nat.le_of_eq HSZ14.out.symm) hb2
        refine hK.out _ _ ?_ (fun hHeld => ?_)
        · (try dsimp only)
          exact HK2.1
        clear hK K
        try simp only [Act.put, lt, ly, lu]
        rw [hF14.out]
        exact st1_1314.out _ u2 v2 n13 n14 (by kernel_rfl) HK2 hv2 (Z13.out.call hb2) g13 (Z14.out.call hb2) g14 ne1314
      case k11q192 =>
        intro K hK
        go_simp
        have hb2 := zero_below u
        have HK2 := Held0.call HK.out (Nat.le_of_eq HSZ14.out.symm) hb2
        have Z2 := zero_loc u
        have hsz := Nat.le_trans (Nat.le_of_eq HSZ14.out.symm) HK.out.2.1.size
        refine hK.out _ _ ?_ (fun hHeld => ?_)
        · (try dsimp only)
          exact HK2.1
        clear hK K
        try simp only [Act.put, lt, ly, lu]
        rw [hF14.out]
        exact st0_121314.out _ _ u.heap.size n13 n14 (by kernel_rfl) HK2 Z2 hsz (Z13.out.call hb2) g13 (Z14.out.call hb2) g14 (Nat.ne_of_gt Z13.out.lt) (Nat.ne_of_gt Z14.out.lt) ne1314
    simp only [← hA14.out, Act.put, lt, ly, lu] at st0_1314
    replace st0_1314 := Lib.hid st0_1314
    have st0_12 : ∀ (L : Array Bool) (u : World) (n12 : Nat), L = #[true, true, false, true, false, true, false, true, false, true, false, true, false, false, false, false, false] → Hid (Held0 w23 NN14 w23 u) → Hid (Loc u n12 ⟨false, none, 0, 0, none, 0, 0⟩) → NN14 ≤ n12 → F14 10 L (Act.put A14 (some 12) (.pointer (some ⟨n12, 0, none⟩))) u := by
      intro L u n12 hLL HK Z12 g12
      subst hLL
      rw [← hF14.out, ← hA14.out]
      try simp only [Act.put, lt, ly, lu]
      refine wpAnyH_ready (rs := [2, 12, 13]) (by kernel_rfl) (by simp) ?_
      refine AllReadyH.cons (o := ?o2q193) ?e2q193 ?k2q193 (AllReadyH.cons (o := ?o12q193) ?e12q193 ?k12q193 (AllReadyH.cons (o := ?o13q193) ?e13q193 ?k13q193 AllReadyH.nil))
      case e2q193 => simp only [lg, lz, ls] <;> rfl
      case e12q193 => simp only [lg, lz, ls] <;> rfl
      case e13q193 => simp only [lg, lz, ls] <;> rfl
      case k2q193 =>
        intro K hK
        go_simp
        go_at_call 30
        refine (at_val e_x.out (HK.out.2.2.box hRs23.out) hp z_l.out z_h.out).mono ?_
        rintro e u2 ⟨v2, rfl, hv2, hb2⟩
        have HK2 := Held0.call HK.out (Nat.le_of_eq HSZ14.out.symm) hb2
        refine hK.out _ _ ?_ (fun hHeld => ?_)
        · (try dsimp only)
          exact HK2.1
        clear hK K
        try simp only [Act.put, lt, ly, lu]
        rw [hF14.out]
        exact st1_12.out _ u2 v2 n12 (by kernel_rfl) HK2 hv2 (Z12.out.call hb2) g12
      case k12q193 =>
        intro K hK
        go_simp
        have hb2 := zero_below u
        have HK2 := Held0.call HK.out (Nat.le_of_eq HSZ14.out.symm) hb2
        have Z2 := zero_loc u
        have hsz := Nat.le_trans (Nat.le_of_eq HSZ14.out.symm) HK.out.2.1.size
        refine hK.out _ _ ?_ (fun hHeld => ?_)
        · (try dsimp only)
          exact HK2.1
        clear hK K
        try simp only [Act.put, lt, ly, lu]
        rw [hF14.out]
        exact st0_1213.out _ _ n12 u.heap.size (by kernel_rfl) HK2 (Z12.out.call hb2) g12 Z2 hsz (Nat.ne_of_lt Z12.out.lt)
      case k13q193 =>
        intro K hK
        go_simp
        have hb2 := zero_below u
        have HK2 := Held0.call HK.out (Nat.le_of_eq HSZ14.out.symm) hb2
        have Z2 := zero_loc u
        have hsz := Nat.le_trans (Nat.le_of_eq HSZ14.out.symm) HK.out.2.1.size
        refine hK.out _ _ ?_ (fun hHeld => ?_)
        · (try dsimp only)
          exact HK2.1
        clear hK K
        try simp only [Act.put, lt, ly, lu]
        rw [hF14.out]
        exact st0_1214.out _ _ n12 u.heap.size (by kernel_rfl) HK2 (Z12.out.call hb2) g12 Z2 hsz (Nat.ne_of_lt Z12.out.lt)
    simp only [← hA14.out, Act.put, lt, ly, lu] at st0_12
    replace st0_12 := Lib.hid st0_12
    have st0_13 : ∀ (L : Array Bool) (u : World) (n13 : Nat), L = #[true, true, false, true, false, true, false, true, false, true, false, false, true, false, false, false, false] → Hid (Held0 w23 NN14 w23 u) → Hid (Loc u n13 ⟨false, none, 0, 0, none, 0, 0⟩) → NN14 ≤ n13 → F14 10 L (Act.put A14 (some 13) (.pointer (some ⟨n13, 0, none⟩))) u := by
      intro L u n13 hLL HK Z13 g13
      subst hLL
      rw [← hF14.out, ← hA14.out]
      try simp only [Act.put, lt, ly, lu]
      refine wpAnyH_ready (rs := [2, 11, 13]) (by kernel_rfl) (by simp) ?_
      refine AllReadyH.cons (o := ?o2q194) ?e2q194 ?k2q194 (AllReadyH.cons (o := ?o11q194) ?e11q194 ?k11q194 (AllReadyH.cons (o := ?o13q194) ?e13q194 ?k13q194 AllReadyH.nil))
      case e2q194 => simp only [lg, lz, ls] <;> rfl
      case e11q194 => simp only [lg, lz, ls] <;> rfl
      case e13q194 => simp only [lg, lz, ls] <;> rfl
      case k2q194 =>
        intro K hK
        go_simp
        go_at_call 30
        refine (at_val e_x.out (HK.out.2.2.box hRs23.out) hp z_l.out z_h.out).mono ?_
        rintro e u2 ⟨v2, rfl, hv2, hb2⟩
        have HK2 := Held0.call HK.out (Nat.le_of_eq HSZ14.out.symm) hb2
        refine hK.out _ _ ?_ (fun hHeld => ?_)
        · (try dsimp only)
          exact HK2.1
        clear hK K
        try simp only [Act.put, lt, ly, lu]
        rw [hF14.out]
        exact st1_13.out _ u2 v2 n13 (by kernel_rfl) HK2 hv2 (Z13.out.call hb2) g13
      case k11q194 =>
        intro K hK
        go_simp
        have hb2 := zero_below u
        have HK2 := Held0.call HK.out (Nat.le_of_eq HSZ14.out.symm) hb2
        have Z2 := zero_loc u
        have hsz := Nat.le_trans (Nat.le_of_eq HSZ14.out.symm) HK.out.2.1.size
        refine hK.out _ _ ?_ (fun hHeld => ?_)
        · (try dsimp only)
          exact HK2.1
        clear hK K
        try simp only [Act.put, lt, ly, lu]
        rw [hF14.out]
        exact st0_1213.out _ _ u.heap.size n13 (by kernel_rfl) HK2 Z2 hsz (Z13.out.call hb2) g13 (Nat.ne_of_gt Z13.out.lt)
      case k13q194 =>
        intro K hK
        go_simp
        have hb2 := zero_below u
        have HK2 := Held0.call HK.out (Nat.le_of_eq HSZ14.out.symm) hb2
        have Z2 := zero_loc u
        have hsz := Nat.le_trans (Nat.le_of_eq HSZ14.out.symm) HK.out.2.1.size
        refine hK.out _ _ ?_ (fun hHeld => ?_)
        · (try dsimp only)
          exact HK2.1
        clear hK K
        try simp only [Act.put, lt, ly, lu]
        rw [hF14.out]
        exact st0_1314.out _ _ n13 u.heap.size (by kernel_rfl) HK2 (Z13.out.call hb2) g13 Z2 hsz (Nat.ne_of_lt Z13.out.lt)
    simp only [← hA14.out, Act.put, lt, ly, lu] at st0_13
    replace st0_13 := Lib.hid st0_13
    have st0_14 : ∀ (L : Array Bool) (u : World) (n14 : Nat), L = #[true, true, false, true, false, true, false, true, false, true, false, false, false, true, false, false, false] → Hid (Held0 w23 NN14 w23 u) → Hid (Loc u n14 ⟨false, none, 0, 0, none, 0, 0⟩) → NN14 ≤ n14 → F14 10 L (Act.put A14 (some 14) (.pointer (some ⟨n14, 0, none⟩))) u := by
      intro L u n14 hLL HK Z14 g14
      subst hLL
      rw [← hF14.out, ← hA14.out]
      try simp only [Act.put, lt, ly, lu]
      refine wpAnyH_ready (rs := [2, 11, 12]) (by kernel_rfl) (by simp) ?_
      refine AllReadyH.cons (o := ?o2q195) ?e2q195 ?k2q195 (AllReadyH.cons (o := ?o11q195) ?e11q195 ?k11q195 (AllReadyH.cons (o := ?o12q195) ?e12q195 ?k12q195 AllReadyH.nil))
      case e2q195 => simp only [lg, lz, ls] <;> rfl
      case e11q195 => simp only [lg, lz, ls] <;> rfl
      case e12q195 => simp only [lg, lz, ls] <;> rfl
      case k2q195 =>
        intro K hK
        go_simp
        go_at_call 30
        refine (at_val e_x.out (HK.out.2.2.box hRs23.out) hp z_l.out z_h.out).mono ?_
        rintro e u2 ⟨v2, rfl, hv2, hb2⟩
        have HK2 := Held0.call HK.out (Nat.le_of_eq HSZ14.out.symm) hb2
        refine hK.out _ _ ?_ (fun hHeld => ?_)
        · (try dsimp only)
          exact HK2.1
        clear hK K
        try simp only [Act.put, lt, ly, lu]
        rw [hF14.out]
        exact st1_14.out _ u2 v2 n14 (by kernel_rfl) HK2 hv2 (Z14.out.call hb2) g14
      case k11q195 =>
        intro K hK
        go_simp
        have hb2 := zero_below u
        have HK2 := Held0.call HK.out (Nat.le_of_eq HSZ14.out.symm) hb2
        have Z2 := zero_loc u
        have hsz := Nat.le_trans (Nat.le_of_eq HSZ14.out.symm) HK.out.2.1.size
        refine hK.out _ _ ?_ (fun hHeld => ?_)
        · (try dsimp only)
          exact HK2.1
        clear hK K
        try simp only [Act.put, lt, ly, lu]
        rw [hF14.out]
        exact st0_1214.out _ _ u.heap.size n14 (by kernel_rfl) HK2 Z2 hsz (Z14.out.call hb2) g14 (Nat.ne_of_gt Z14.out.lt)
      case k12q195 =>
        intro K hK
        go_simp
        have hb2 := zero_below u
        have HK2 := Held0.call HK.out (Nat.le_of_eq HSZ14.out.symm) hb2
        have Z2 := zero_loc u
        have hsz := Nat.le_trans (Nat.le_of_eq HSZ14.out.symm) HK.out.2.1.size
        refine hK.out _ _ ?_ (fun hHeld => ?_)
        · (try dsimp only)
          exact HK2.1
        clear hK K
        try simp only [Act.put, lt, ly, lu]
        rw [hF14.out]
        exact st0_1314.out _ _ u.heap.size n14 (by kernel_rfl) HK2 Z2 hsz (Z14.out.call hb2) g14 (Nat.ne_of_gt Z14.out.lt)
    simp only [← hA14.out, Act.put, lt, ly, lu] at st0_14
    replace st0_14 := Lib.hid st0_14
    have st0_n : ∀ (L : Array Bool) (u : World), L = #[true, true, false, true, false, true, false, true, false, true, false, false, false, false, false, false, false] → Hid (Held0 w23 NN14 w23 u) → F14 11 L A14 u := by
      intro L u  hLL HK
      subst hLL
      rw [← hF14.out, ← hA14.out]
      try simp only [Act.put, lt, ly, lu]
      refine wpAnyH_ready (rs := [2, 11, 12, 13]) (by kernel_rfl) (by simp) ?_
      refine AllReadyH.cons (o := ?o2q196) ?e2q196 ?k2q196 (AllReadyH.cons (o := ?o11q196) ?e11q196 ?k11q196 (AllReadyH.cons (o := ?o12q196) ?e12q196 ?k12q196 (AllReadyH.cons (o := ?o13q196) ?e13q196 ?k13q196 AllReadyH.nil)))
      case e2q196 => simp only [lg, lz, ls] <;> rfl
      case e11q196 => simp only [lg, lz, ls] <;> rfl
      case e12q196 => simp only [lg, lz, ls] <;> rfl
      case e13q196 => simp only [lg, lz, ls] <;> rfl
      case k2q196 =>
        intro K hK
        go_simp
        go_at_call 30
        refine (at_val e_x.out (HK.out.2.2.box hRs23.out) hp z_l.out z_h.out).mono ?_
        rintro e u2 ⟨v2, rfl, hv2, hb2⟩
        have HK2 := Held0.call HK.out (Nat.le_of_eq HSZ14.out.symm) hb2
        refine hK.out _ _ ?_ (fun hHeld => ?_)
        · (try dsimp only)
          exact HK2.1
        clear hK K
        try simp only [Act.put, lt, ly, lu]
        rw [hF14.out]
        exact st1_n.out _ u2 v2 (by kernel_rfl) HK2 hv2
      case k11q196 =>
        intro K hK
        go_simp
        have hb2 := zero_below u
        have HK2 := Held0.call HK.out (Nat.le_of_eq HSZ14.out.symm) hb2
        have Z2 := zero_loc u
        have hsz := Nat.le_trans (Nat.le_of_eq HSZ14.out.symm) HK.out.2.1.size
        refine hK.out _ _ ?_ (fun hHeld => ?_)
        · (try dsimp only)
          exact HK2.1
        clear hK K
        try simp only [Act.put, lt, ly, lu]
        rw [hF14.out]
        exact st0_12.out _ _ u.heap.size (by kernel_rfl) HK2 Z2 hsz
      case k12q196 =>
        intro K hK
        go_simp
        have hb2 := zero_below u
        have HK2 := Held0.call HK.out (Nat.le_of_eq HSZ14.out.symm) hb2
        have Z2 := zero_loc u
        have hsz := Nat.le_trans (Nat.le_of_eq HSZ14.out.symm) HK.out.2.1.size
        refine hK.out _ _ ?_ (fun hHeld => ?_)
        · (try dsimp only)
          exact HK2.1
        clear hK K
        try simp only [Act.put, lt, ly, lu]
        rw [hF14.out]
        exact st0_13.out _ _ u.heap.size (by kernel_rfl) HK2 Z2 hsz
      case k13q196 =>
        intro K hK
        go_simp
        have hb2 := zero_below u
        have HK2 := Held0.call HK.out (Nat.le_of_eq HSZ14.out.symm) hb2
        have Z2 := zero_loc u
        have hsz := Nat.le_trans (Nat.le_of_eq HSZ14.out.symm) HK.out.2.1.size
        refine hK.out _ _ ?_ (fun hHeld => ?_)
        · (try dsimp only)
          exact HK2.1
        clear hK K
        try simp only [Act.put, lt, ly, lu]
        rw [hF14.out]
        exact st0_14.out _ _ u.heap.size (by kernel_rfl) HK2 Z2 hsz
    simp only [← hA14.out, Act.put, lt, ly, lu] at st0_n
    replace st0_n := Lib.hid st0_n
    have HA := hA14.out
    subst HA
    exact st0_n.out _ _ (by kernel_rfl) H0h

theorem squares_any {w : World} {s1 s2 s3 : ByteArray} {p : Nat} {mx : Int} (hp : p ≤ 255) (hM : w.cell? ⟨1, 0, none⟩ = some (.int .i64 mx)) (hT : TabAt 0 Lib.deBruijn64tab w) :
    Calls Tryz.prog 8 #[.agg #[.string s1, .string s2], .string s3, .int .u8 (p : Nat)] w (BoolRet w true) := by
  rcases Decidable.em (40 < s1.size) with h1 | h1
  · exact squares_long1 h1 hM hT
  · rcases Decidable.em (40 < s2.size) with h2 | h2
    · exact squares_long2 h1 h2 hM hT
    · rcases Decidable.em (40 < s3.size) with h3 | h3
      · exact squares_long3 h1 h2 h3 hM hT
      · rcases Decidable.em ((parseV s3).1.num.sign ≤ 0) with hg | hg
        · exact squares_grid rfl rfl rfl rfl rfl h1 h2 h3 hg hM hT
        · exact squares_main rfl rfl rfl rfl rfl h1 h2 h3 (Int.sign_pos_iff.1 (by omega)) hp hM hT
end Go.Proofs.YtpfnckhfklgoaaaGreatDoor
