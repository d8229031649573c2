/-
  Contracts of the functions that the law calls, for every input (BoxM BoxO GrF).
-/
import Derived.Test.YtpfnckhfklgoaaaGreatDoorP01
import Derived.Test.YtpfnckhfklgoaaaGreatDoorJ27
set_option linter.all false
namespace Go.Proofs.YtpfnckhfklgoaaaGreatDoor
open Go.RowKit
open Vx

set_option maxRecDepth 100000 in
set_option maxHeartbeats 2000000 in
theorem boxPow_even {w : World} {v : Value} {a b l m : Rat} {n : Nat} (hv : IsBox w v a b) (hn : n ≤ 64) (ho : n % 2 = 0) (hs : siz l ≤ 1073741824) (ht : siz m ≤ 1073741824)
    (habs : ∀ (w' : World) (v' : Value), IsBox w' v' a b → Calls Tryz.prog 37 #[v'] w' (BoxRet w' l m)) :
    Calls Tryz.prog 31 #[v, .int .i64 (n : Nat)] w (BoxErrRet w (l ^ n) (m ^ n) 0) := by
  obtain ⟨A1, c1, A2, c2, A3, c3, A4, c4, rfl, ha, hb⟩ := hv.opened
  obtain ⟨wB, hwB⟩ : ∃ u, u = ((w.alloc (.cells #[.bool (decide (a.num < 0)), .slice A1 (len a.num.natAbs) c1, .slice A2 (len (below a.den)) c2, .bool (decide (b.num < 0)), .slice A3 (len b.num.natAbs) c3, .slice A4 (len (below b.den)) c4] 53)).alloc (.cells #[.int .i64 (n : Nat)] 3)).alloc (.cells #[.bool false, .slice none 0 0, .slice none 0 0, .bool false, .slice none 0 0, .slice none 0 0] 53) := ⟨_, rfl⟩
  obtain ⟨b0, g0, g1, g2⟩ := news3 w (.cells #[.bool (decide (a.num < 0)), .slice A1 (len a.num.natAbs) c1, .slice A2 (len (below a.den)) c2, .bool (decide (b.num < 0)), .slice A3 (len b.num.natAbs) c3, .slice A4 (len (below b.den)) c4] 53) (.cells #[.int .i64 (n : Nat)] 3) (.cells #[.bool false, .slice none 0 0, .slice none 0 0, .bool false, .slice none 0 0, .slice none 0 0] 53)
  rw [← hwB] at b0 g0 g1 g2
  have k0 : wB.cell? ⟨w.heap.size, 0, none⟩ = some (.bool (decide (a.num < 0))) := cell_of_row _ _ _ _ _ _ g0
  have k1 : wB.cell? ⟨w.heap.size, 1, none⟩ = some (.slice A1 (len a.num.natAbs) c1) := cell_of_row _ _ _ _ _ _ g0
  have k2 : wB.cell? ⟨w.heap.size, 2, none⟩ = some (.slice A2 (len (below a.den)) c2) := cell_of_row _ _ _ _ _ _ g0
  have k3 : wB.cell? ⟨w.heap.size, 3, none⟩ = some (.bool (decide (b.num < 0))) := cell_of_row _ _ _ _ _ _ g0
  have k4 : wB.cell? ⟨w.heap.size, 4, none⟩ = some (.slice A3 (len b.num.natAbs) c3) := cell_of_row _ _ _ _ _ _ g0
  have k5 : wB.cell? ⟨w.heap.size, 5, none⟩ = some (.slice A4 (len (below b.den)) c4) := cell_of_row _ _ _ _ _ _ g0
  have k6 : wB.cell? ⟨w.heap.size + 1, 0, none⟩ = some (.int .i64 (n : Nat)) := cell_of_row _ _ _ _ _ _ g1
  have HK0 := Lib.hid (Kept.start (T := 53) rfl plain6 g2)
  have HB0 := Lib.hid b0
  have hlt1 : w.heap.size < w.heap.size + 2 := by omega
  have hlt2 : w.heap.size + 1 < w.heap.size + 2 := by omega
  clear g1 g2 b0
  have hl1 : siz l * n ≤ 1099511627776 := Nat.le_trans (Nat.mul_le_mul hs hn) (by omega)
  have hl2 : siz m * n ≤ 1099511627776 := Nat.le_trans (Nat.mul_le_mul ht hn) (by omega)
  have hs1 : siz l ≤ 1099511627776 := Nat.le_trans hs (by omega)
  have ht1 : siz m ≤ 1099511627776 := Nat.le_trans ht (by omega)
  have HA := Lib.hid (habs wB _ (IsNum.pair (ha.keep HB0.out) (hb.keep HB0.out)))
  have h1 : decide (((n : Nat) : Int) < 0) = false := decide_eq_false (by omega)
  have h2 : decide (((n : Nat) : Int) > 64) = false := decide_eq_false (by omega)
  have h3 : (Int.tmod ((n : Nat) : Int) 2 == 0) = true := by
    have e : Int.tmod ((n : Nat) : Int) 2 = ((n % 2 : Nat) : Int) := by rw [Int.tmod_eq_emod_of_nonneg (by omega)]; omega
    rw [e, ho]; rfl
  have h4 : (((n : Nat) : Int) % 2 == 0) = true := by
    have e : ((n : Nat) : Int) % 2 = ((n % 2 : Nat) : Int) := by omega
    rw [e, ho]; rfl
  have hn1 : n ≤ 1099511627776 := by omega
  obtain ⟨q, hq⟩ : ∃ q : Rat, q = l ^ n := ⟨_, rfl⟩
  obtain ⟨r, hr⟩ : ∃ q : Rat, q = m ^ n := ⟨_, rfl⟩
  rw [← hq, ← hr]
  replace hq := Lib.hid hq
  replace hr := Lib.hid hr
  replace hn1 := Lib.hid hn1
  replace hl1 := Lib.hid hl1
  replace hl2 := Lib.hid hl2
  replace hs1 := Lib.hid hs1
  replace ht1 := Lib.hid ht1
  replace g0 := Lib.hid g0
  clear hs ht hv ha hb hn ho habs
  go_enter Tryz.func31, Tryz.ntmps31
  go_upto_region 1 with fail
  rw [← hwB]
  clear hwB
  go_wp2_with fail
  refine (HA.out).mono ?_
  rintro e w1 ⟨v1, rfl, hv1, b1⟩
  obtain ⟨D1, d1, D2, d2, D3, d3, D4, d4, rfl, hl, hm⟩ := hv1.opened
  have HK1 := HK0.out.call b1
  have KA0 : Kept 6 53 wB w.heap.size w1 := (Kept.start rfl plain6 g0.out).call b1
  have hn6 : w1.cell? ⟨w.heap.size + 1, 0, none⟩ = some (.int .i64 (n : Nat)) := (below_cell HK1.1 _ _ (by omega)).trans k6
  have ka1 := KA0.set (i := 0) (bool_plain (decide (l.num < 0)))
  have ka2 := ka1.set (i := 1) (slice_plain D1 (len l.num.natAbs) d1)
  have ka3 := ka2.set (i := 2) (slice_plain D2 (len (below l.den)) d2)
  have ka4 := ka3.set (i := 3) (bool_plain (decide (m.num < 0)))
  have ka5 := ka4.set (i := 4) (slice_plain D3 (len m.num.natAbs) d3)
  have ka6 := ka5.set (i := 5) (slice_plain D4 (len (below m.den)) d4)
  have hl6 := ((((((hl.put (i := 0) (u := (.bool (decide (l.num < 0)))) KA0).put (i := 1) (u := (.slice D1 (len l.num.natAbs) d1)) ka1).put (i := 2) (u := (.slice D2 (len (below l.den)) d2)) ka2).put (i := 3) (u := (.bool (decide (m.num < 0)))) ka3).put (i := 4) (u := (.slice D3 (len m.num.natAbs) d3)) ka4).put (i := 5) (u := (.slice D4 (len (below m.den)) d4)) ka5)
  have hm6 := ((((((hm.put (i := 0) (u := (.bool (decide (l.num < 0)))) KA0).put (i := 1) (u := (.slice D1 (len l.num.natAbs) d1)) ka1).put (i := 2) (u := (.slice D2 (len (below l.den)) d2)) ka2).put (i := 3) (u := (.bool (decide (m.num < 0)))) ka3).put (i := 4) (u := (.slice D3 (len m.num.natAbs) d3)) ka4).put (i := 5) (u := (.slice D4 (len (below m.den)) d4)) ka5)
  obtain ⟨_, csA, hsA, _, hgA⟩ := id KA0
  have hrow := setcell_heap6 hsA hgA (.bool (decide (l.num < 0))) (.slice D1 (len l.num.natAbs) d1) (.slice D2 (len (below l.den)) d2) (.bool (decide (m.num < 0))) (.slice D3 (len m.num.natAbs) d3) (.slice D4 (len (below m.den)) d4)
  have y0 : w1.cell? ⟨w.heap.size, 0, none⟩ = some (cur w1 ⟨w.heap.size, 0, none⟩) := cur_of hgA (by omega)
  have F0 : w1.frozen? ⟨w.heap.size, 0, none⟩ = false := frozen_of_row w1 _ 0 _ _ hgA
  have y1 : w1.cell? ⟨w.heap.size, 1, none⟩ = some (cur w1 ⟨w.heap.size, 1, none⟩) := cur_of hgA (by omega)
  have F1 : w1.frozen? ⟨w.heap.size, 1, none⟩ = false := frozen_of_row w1 _ 1 _ _ hgA
  have y2 : w1.cell? ⟨w.heap.size, 2, none⟩ = some (cur w1 ⟨w.heap.size, 2, none⟩) := cur_of hgA (by omega)
  have F2 : w1.frozen? ⟨w.heap.size, 2, none⟩ = false := frozen_of_row w1 _ 2 _ _ hgA
  have y3 : w1.cell? ⟨w.heap.size, 3, none⟩ = some (cur w1 ⟨w.heap.size, 3, none⟩) := cur_of hgA (by omega)
  have F3 : w1.frozen? ⟨w.heap.size, 3, none⟩ = false := frozen_of_row w1 _ 3 _ _ hgA
  have y4 : w1.cell? ⟨w.heap.size, 4, none⟩ = some (cur w1 ⟨w.heap.size, 4, none⟩) := cur_of hgA (by omega)
  have F4 : w1.frozen? ⟨w.heap.size, 4, none⟩ = false := frozen_of_row w1 _ 4 _ _ hgA
  have y5 : w1.cell? ⟨w.heap.size, 5, none⟩ = some (cur w1 ⟨w.heap.size, 5, none⟩) := cur_of hgA (by omega)
  have F5 : w1.frozen? ⟨w.heap.size, 5, none⟩ = false := frozen_of_row w1 _ 5 _ _ hgA
  have hB1 := below_to HB0.out (by omega) HK1.1
  have hB2 : Below w.heap.size w ((((((w1.setCell ⟨w.heap.size, 0, none⟩ (.bool (decide (l.num < 0)))).setCell ⟨w.heap.size, 1, none⟩ (.slice D1 (len l.num.natAbs) d1)).setCell ⟨w.heap.size, 2, none⟩ (.slice D2 (len (below l.den)) d2)).setCell ⟨w.heap.size, 3, none⟩ (.bool (decide (m.num < 0)))).setCell ⟨w.heap.size, 4, none⟩ (.slice D3 (len m.num.natAbs) d3)).setCell ⟨w.heap.size, 5, none⟩ (.slice D4 (len (below m.den)) d4)) := ((((((hB1.setCell (p := ⟨w.heap.size, 0, none⟩) (Nat.le_refl _) _).setCell (p := ⟨w.heap.size, 1, none⟩) (Nat.le_refl _) _).setCell (p := ⟨w.heap.size, 2, none⟩) (Nat.le_refl _) _).setCell (p := ⟨w.heap.size, 3, none⟩) (Nat.le_refl _) _).setCell (p := ⟨w.heap.size, 4, none⟩) (Nat.le_refl _) _).setCell (p := ⟨w.heap.size, 5, none⟩) (Nat.le_refl _) _)
  obtain ⟨_, csG, hsG, hpG, hgG⟩ := id HK1
  have hgG2 : ((((((w1.setCell ⟨w.heap.size, 0, none⟩ (.bool (decide (l.num < 0)))).setCell ⟨w.heap.size, 1, none⟩ (.slice D1 (len l.num.natAbs) d1)).setCell ⟨w.heap.size, 2, none⟩ (.slice D2 (len (below l.den)) d2)).setCell ⟨w.heap.size, 3, none⟩ (.bool (decide (m.num < 0)))).setCell ⟨w.heap.size, 4, none⟩ (.slice D3 (len m.num.natAbs) d3)).setCell ⟨w.heap.size, 5, none⟩ (.slice D4 (len (below m.den)) d4)).heap[w.heap.size + 2]? = some (.cells csG 53 (0, 0)) := by
    rw [heap_setCell_other _ _ _ _ (by show w.heap.size + 2 ≠ w.heap.size; omega), heap_setCell_other _ _ _ _ (by show w.heap.size + 2 ≠ w.heap.size; omega), heap_setCell_other _ _ _ _ (by show w.heap.size + 2 ≠ w.heap.size; omega), heap_setCell_other _ _ _ _ (by show w.heap.size + 2 ≠ w.heap.size; omega), heap_setCell_other _ _ _ _ (by show w.heap.size + 2 ≠ w.heap.size; omega), heap_setCell_other _ _ _ _ (by show w.heap.size + 2 ≠ w.heap.size; omega)]
    exact hgG
  have hN2 : ((((((w1.setCell ⟨w.heap.size, 0, none⟩ (.bool (decide (l.num < 0)))).setCell ⟨w.heap.size, 1, none⟩ (.slice D1 (len l.num.natAbs) d1)).setCell ⟨w.heap.size, 2, none⟩ (.slice D2 (len (below l.den)) d2)).setCell ⟨w.heap.size, 3, none⟩ (.bool (decide (m.num < 0)))).setCell ⟨w.heap.size, 4, none⟩ (.slice D3 (len m.num.natAbs) d3)).setCell ⟨w.heap.size, 5, none⟩ (.slice D4 (len (below m.den)) d4)).cell? ⟨w.heap.size + 1, 0, none⟩ = some (.int .i64 (n : Nat)) := by
    rw [World.cell?_setCell_other _ _ _ _ (by intro e; injection e with e1; omega), World.cell?_setCell_other _ _ _ _ (by intro e; injection e with e1; omega), World.cell?_setCell_other _ _ _ _ (by intro e; injection e with e1; omega), World.cell?_setCell_other _ _ _ _ (by intro e; injection e with e1; omega), World.cell?_setCell_other _ _ _ _ (by intro e; injection e with e1; omega), World.cell?_setCell_other _ _ _ _ (by intro e; injection e with e1; omega)]
    exact hn6
  replace hl6 := Lib.hid hl6
  replace hm6 := Lib.hid hm6
  replace hrow := Lib.hid hrow
  replace hB2 := Lib.hid hB2
  replace hgG2 := Lib.hid hgG2
  replace hN2 := Lib.hid hN2
  clear ka1 ka2 ka3 ka4 ka5 ka6 hl hm hv1 hB1 hgG HK1 KA0 hgA hn6 HA k0 k1 k2 k3 k4 k5 k6 b1
  go_upto_region 5 with fail
  obtain ⟨w2, hw2⟩ : ∃ u, u = ((((((w1.setCell ⟨w.heap.size, 0, none⟩ (.bool (decide (l.num < 0)))).setCell ⟨w.heap.size, 1, none⟩ (.slice D1 (len l.num.natAbs) d1)).setCell ⟨w.heap.size, 2, none⟩ (.slice D2 (len (below l.den)) d2)).setCell ⟨w.heap.size, 3, none⟩ (.bool (decide (m.num < 0)))).setCell ⟨w.heap.size, 4, none⟩ (.slice D3 (len m.num.natAbs) d3)).setCell ⟨w.heap.size, 5, none⟩ (.slice D4 (len (below m.den)) d4)) := ⟨_, rfl⟩
  rw [← hw2] at hl6 hm6 hrow hB2 hgG2 hN2 ⊢
  clear hw2 y0 F0 y1 F1 y2 F2 y3 F3 y4 F4 y5 F5
  have k6 := hN2.out
  have k0 : w2.cell? ⟨w.heap.size, 0, none⟩ = some (.bool (decide (l.num < 0))) := cell_of_row _ _ _ _ _ _ hrow.out
  have k1 : w2.cell? ⟨w.heap.size, 1, none⟩ = some (.slice D1 (len l.num.natAbs) d1) := cell_of_row _ _ _ _ _ _ hrow.out
  have k2 : w2.cell? ⟨w.heap.size, 2, none⟩ = some (.slice D2 (len (below l.den)) d2) := cell_of_row _ _ _ _ _ _ hrow.out
  have k3 : w2.cell? ⟨w.heap.size, 3, none⟩ = some (.bool (decide (m.num < 0))) := cell_of_row _ _ _ _ _ _ hrow.out
  have k4 : w2.cell? ⟨w.heap.size, 4, none⟩ = some (.slice D3 (len m.num.natAbs) d3) := cell_of_row _ _ _ _ _ _ hrow.out
  have k5 : w2.cell? ⟨w.heap.size, 5, none⟩ = some (.slice D4 (len (below m.den)) d4) := cell_of_row _ _ _ _ _ _ hrow.out
  have HK2 := Lib.hid (Kept.start hsG hpG hgG2.out)
  have HB0 := hB2
  have HX := Lib.hid (ends_pow (bn := w.heap.size + 1) (IsNum.pair hl6.out hm6.out) hN2.out hn1.out hl1.out hs1.out hl2.out ht1.out)
  rw [← hq.out, ← hr.out] at HX
  clear hrow hN2 hgG2
  go_wp2_with fail
  refine (HX.out).mono ?_
  rintro e w5 ⟨v5, rfl, hv5, b5⟩
  obtain ⟨C1, j1, C2, j2, C3, j3, C4, j4, rfl, hq1, hr1⟩ := hv5.opened
  have hk := (HK2.out.call b5).held6 (Stay.refl _)
  have hk' := hk
  unfold Held6 at hk'
  clear b5 HX
  obtain ⟨-, c0, c1', c2', c3', c4', c5', f0, f1, f2, f3, f4, f5, -⟩ := hk'
  have HD := hk.done (p := q) (q := r) (s1 := decide (q.num < 0)) (A1 := C1) (n1 := len q.num.natAbs) (c1 := j1) (A2 := C2) (n2 := len (below q.den)) (c2 := j2) (s2 := decide (r.num < 0)) (A3 := C3) (n3 := len r.num.natAbs) (c3 := j3) (A4 := C4) (n4 := len (below r.den)) (c4 := j4) (hq1) (hr1)
  obtain ⟨d1, d2, d3⟩ := HD
  have r0 := cell_of_row _ _ 0 _ _ _ d3
  have r1 := cell_of_row _ _ 1 _ _ _ d3
  have r2 := cell_of_row _ _ 2 _ _ _ d3
  have r3 := cell_of_row _ _ 3 _ _ _ d3
  have r4 := cell_of_row _ _ 4 _ _ _ d3
  have r5 := cell_of_row _ _ 5 _ _ _ d3
  simp only [List.getElem?_toArray, List.getElem?_cons_zero, List.getElem?_cons_succ] at r0 r1 r2 r3 r4 r5
  have HD := Lib.hid (And.intro d1 d2)
  clear d1 d2 d3
  go_wp2_with fail
  refine bodyPost_ret (v := .tuple #[.agg #[.bool (decide (q.num < 0)), .slice (C1) (len q.num.natAbs) (j1), .slice (C2) (len (below q.den)) (j2), .bool (decide (r.num < 0)), .slice (C3) (len r.num.natAbs) (j3), .slice (C4) (len (below r.den)) (j4)], .int .i64 0]) ?_ rfl ⟨_, rfl, HD.out.1, below_to HB0.out (by omega) HD.out.2⟩
  simp [results, Tryz.results31, go_sem, r0, r1, r2, r3, r4, r5]
end Go.Proofs.YtpfnckhfklgoaaaGreatDoor
namespace Go.Proofs.YtpfnckhfklgoaaaGreatDoor
open Go.RowKit
open Vx

/-- The ends of the box of absolute values. -/
def absLo (a b : Rat) : Rat := if a ≤ 0 ∧ 0 ≤ b then leastOf 0 [a.abs, b.abs] else leastOf a.abs [b.abs]
def absHi (a b : Rat) : Rat := if a ≤ 0 ∧ 0 ≤ b then greatestOf 0 [a.abs, b.abs] else greatestOf a.abs [b.abs]
theorem boxAbs_any {w : World} {v : Value} {a b : Rat} (hv : IsBox w v a b) (sa : siz a ≤ 34359738368) (sb : siz b ≤ 34359738368) :
    Calls Tryz.prog 37 #[v] w (BoxRet w (absLo a b) (absHi a b)) := by
  unfold absLo absHi
  rcases Decidable.em (a ≤ 0 ∧ 0 ≤ b) with h | h
  · rw [if_pos h, if_pos h]; exact boxAbs_zero hv sa sb h
  · rw [if_neg h, if_neg h]; exact boxAbs_one hv sa sb h
theorem siz_zero : siz 0 ≤ 3 := by decide +kernel
theorem siz_least {x : Rat} {l : List Rat} {N : Nat} (h : siz x ≤ N) (h2 : ∀ y ∈ l, siz y ≤ N) : siz (leastOf x l) ≤ N := by
  rcases leastOf_mem l x with e | e
  · rw [e]; exact h
  · exact h2 _ e
theorem siz_greatest {x : Rat} {l : List Rat} {N : Nat} (h : siz x ≤ N) (h2 : ∀ y ∈ l, siz y ≤ N) : siz (greatestOf x l) ≤ N := by
  rcases greatestOf_mem l x with e | e
  · rw [e]; exact h
  · exact h2 _ e
theorem siz_absLo {a b : Rat} {N : Nat} (h3 : 3 ≤ N) (ha : siz a ≤ N) (hb : siz b ≤ N) : siz (absLo a b) ≤ N := by
  have h1 : siz a.abs ≤ N := by rw [siz_abs]; exact ha
  have h2 : siz b.abs ≤ N := by rw [siz_abs]; exact hb
  unfold absLo
  split
  · exact siz_least (Nat.le_trans siz_zero h3) (by intro y hy; simp only [List.mem_cons, List.not_mem_nil, or_false] at hy; rcases hy with rfl | rfl <;> assumption)
  · exact siz_least h1 (by intro y hy; simp only [List.mem_cons, List.not_mem_nil, or_false] at hy; rw [hy]; exact h2)
theorem siz_absHi {a b : Rat} {N : Nat} (h3 : 3 ≤ N) (ha : siz a ≤ N) (hb : siz b ≤ N) : siz (absHi a b) ≤ N := by
  have h1 : siz a.abs ≤ N := by rw [siz_abs]; exact ha
  have h2 : siz b.abs ≤ N := by rw [siz_abs]; exact hb
  unfold absHi
  split
  · exact siz_greatest (Nat.le_trans siz_zero h3) (by intro y hy; simp only [List.mem_cons, List.not_mem_nil, or_false] at hy; rcases hy with rfl | rfl <;> assumption)
  · exact siz_greatest h1 (by intro y hy; simp only [List.mem_cons, List.not_mem_nil, or_false] at hy; rw [hy]; exact h2)
/-- Pow of a box, for exponents from 0 to 64. -/
theorem boxPow_any {w : World} {v : Value} {a b : Rat} {n : Nat} (hv : IsBox w v a b) (hn : n ≤ 64) (hs : siz a ≤ 1073741824) (ht : siz b ≤ 1073741824) :
    Calls Tryz.prog 31 #[v, .int .i64 (n : Nat)] w (BoxErrRet w ((if n % 2 = 0 then absLo a b else a) ^ n) ((if n % 2 = 0 then absHi a b else b) ^ n) 0) := by
  rcases Nat.mod_two_eq_zero_or_one n with h | h
  · rw [if_pos h, if_pos h]
    exact boxPow_even hv hn h (siz_absLo (by omega) hs ht) (siz_absHi (by omega) hs ht) (fun w' v' hv' => boxAbs_any hv' (Nat.le_trans hs (by omega)) (Nat.le_trans ht (by omega)))
  · rw [if_neg (by omega), if_neg (by omega)]
    exact boxPow_odd hv hn h hs ht
end Go.Proofs.YtpfnckhfklgoaaaGreatDoor
namespace Go.Proofs.YtpfnckhfklgoaaaGreatDoor
open Vx

theorem least_le (l : List Rat) : ∀ (x : Rat), leastOf x l ≤ x ∧ ∀ y ∈ l, leastOf x l ≤ y := by
  induction l with
  | nil => intro x; exact ⟨Rat.le_refl, fun _ h => by cases h⟩
  | cons z l ih =>
    intro x
    have e : leastOf x (z :: l) = leastOf (if z < x then z else x) l := rfl
    rw [e]
    obtain ⟨h1, h2⟩ := ih (if z < x then z else x)
    have h3 : (if z < x then z else x) ≤ x ∧ (if z < x then z else x) ≤ z := by split <;> constructor <;> grind
    refine ⟨Rat.le_trans h1 h3.1, fun y hy => ?_⟩
    rcases List.mem_cons.1 hy with rfl | hy
    · exact Rat.le_trans h1 h3.2
    · exact h2 y hy
theorem greatest_ge (l : List Rat) : ∀ (x : Rat), x ≤ greatestOf x l ∧ ∀ y ∈ l, y ≤ greatestOf x l := by
  induction l with
  | nil => intro x; exact ⟨Rat.le_refl, fun _ h => by cases h⟩
  | cons z l ih =>
    intro x
    have e : greatestOf x (z :: l) = greatestOf (if x < z then z else x) l := rfl
    rw [e]
    obtain ⟨h1, h2⟩ := ih (if x < z then z else x)
    have h3 : x ≤ (if x < z then z else x) ∧ z ≤ (if x < z then z else x) := by split <;> constructor <;> grind
    refine ⟨Rat.le_trans h3.1 h1, fun y hy => ?_⟩
    rcases List.mem_cons.1 hy with rfl | hy
    · exact Rat.le_trans h3.2 h1
    · exact h2 y hy
theorem least4 (x y z t : Rat) : leastOf x [y, z, t] ≤ x ∧ leastOf x [y, z, t] ≤ y ∧ leastOf x [y, z, t] ≤ z ∧ leastOf x [y, z, t] ≤ t := by
  obtain ⟨h1, h2⟩ := least_le [y, z, t] x
  exact ⟨h1, h2 _ (by simp), h2 _ (by simp), h2 _ (by simp)⟩
theorem greatest4 (x y z t : Rat) : x ≤ greatestOf x [y, z, t] ∧ y ≤ greatestOf x [y, z, t] ∧ z ≤ greatestOf x [y, z, t] ∧ t ≤ greatestOf x [y, z, t] := by
  obtain ⟨h1, h2⟩ := greatest_ge [y, z, t] x
  exact ⟨h1, h2 _ (by simp), h2 _ (by simp), h2 _ (by simp)⟩
theorem least_ge {m x y z t : Rat} (h : m ≤ x ∧ m ≤ y ∧ m ≤ z ∧ m ≤ t) : m ≤ leastOf x [y, z, t] := by
  rcases leastOf_mem [y, z, t] x with e | e
  · rw [e]; exact h.1
  · simp only [List.mem_cons, List.not_mem_nil, or_false] at e
    rcases e with e | e | e <;> rw [e]
    · exact h.2.1
    · exact h.2.2.1
    · exact h.2.2.2
theorem greatest_le {m x y z t : Rat} (h : x ≤ m ∧ y ≤ m ∧ z ≤ m ∧ t ≤ m) : greatestOf x [y, z, t] ≤ m := by
  rcases greatestOf_mem [y, z, t] x with e | e
  · rw [e]; exact h.1
  · simp only [List.mem_cons, List.not_mem_nil, or_false] at e
    rcases e with e | e | e <;> rw [e]
    · exact h.2.1
    · exact h.2.2.1
    · exact h.2.2.2
/-- a product by a fixed number lies between those of the ends -/
theorem mid_mul {p q y k L : Rat} (h1 : p ≤ y) (h2 : y ≤ q) (i1 : L ≤ k * p) (i2 : L ≤ k * q) : L ≤ k * y := by
  rcases Decidable.em (0 ≤ k) with hk | hk
  · exact Rat.le_trans i1 (Rat.mul_le_mul_of_nonneg_left h1 hk)
  · have h3 := Rat.mul_le_mul_of_nonneg_left h2 (show 0 ≤ -k by grind)
    grind
theorem mid_mul' {p q y k G : Rat} (h1 : p ≤ y) (h2 : y ≤ q) (i1 : k * p ≤ G) (i2 : k * q ≤ G) : k * y ≤ G := by
  have := mid_mul (k := -k) (L := -G) h1 h2 (by grind) (by grind)
  grind
theorem prod_low {a b c d x y L : Rat} (hx1 : a ≤ x) (hx2 : x ≤ b) (hy1 : c ≤ y) (hy2 : y ≤ d) (h : L ≤ a * c ∧ L ≤ a * d ∧ L ≤ b * c ∧ L ≤ b * d) : L ≤ x * y := by
  have e1 := mid_mul hy1 hy2 h.1 h.2.1
  have e2 := mid_mul hy1 hy2 h.2.2.1 h.2.2.2
  rw [Rat.mul_comm]
  exact mid_mul hx1 hx2 (by rw [Rat.mul_comm]; exact e1) (by rw [Rat.mul_comm]; exact e2)
theorem prod_high {a b c d x y G : Rat} (hx1 : a ≤ x) (hx2 : x ≤ b) (hy1 : c ≤ y) (hy2 : y ≤ d) (h : a * c ≤ G ∧ a * d ≤ G ∧ b * c ≤ G ∧ b * d ≤ G) : x * y ≤ G := by
  have e1 := mid_mul' hy1 hy2 h.1 h.2.1
  have e2 := mid_mul' hy1 hy2 h.2.2.1 h.2.2.2
  rw [Rat.mul_comm]
  exact mid_mul' hx1 hx2 (by rw [Rat.mul_comm]; exact e1) (by rw [Rat.mul_comm]; exact e2)
/-- the least and the greatest product of ends -/
theorem prod_in {a b c d x y : Rat} (hx : a ≤ x ∧ x ≤ b) (hy : c ≤ y ∧ y ≤ d) : leastOf (a * c) [a * d, b * c, b * d] ≤ x * y ∧ x * y ≤ greatestOf (a * c) [a * d, b * c, b * d] :=
  ⟨prod_low hx.1 hx.2 hy.1 hy.2 (least4 _ _ _ _), prod_high hx.1 hx.2 hy.1 hy.2 (greatest4 _ _ _ _)⟩
theorem prod_inside {a b c d A B : Rat} (hab : a ≤ b) (hcd : c ≤ d) (h1 : A ≤ a) (h2 : b ≤ B) :
    leastOf (A * c) [A * d, B * c, B * d] ≤ leastOf (a * c) [a * d, b * c, b * d] ∧ greatestOf (a * c) [a * d, b * c, b * d] ≤ greatestOf (A * c) [A * d, B * c, B * d] := by
  have ha : A ≤ a ∧ a ≤ B := ⟨h1, Rat.le_trans hab h2⟩
  have hb : A ≤ b ∧ b ≤ B := ⟨Rat.le_trans h1 hab, h2⟩
  have hc : c ≤ c ∧ c ≤ d := ⟨Rat.le_refl, hcd⟩
  have hd : c ≤ d ∧ d ≤ d := ⟨hcd, Rat.le_refl⟩
  exact ⟨least_ge ⟨(prod_in ha hc).1, (prod_in ha hd).1, (prod_in hb hc).1, (prod_in hb hd).1⟩, greatest_le ⟨(prod_in ha hc).2, (prod_in ha hd).2, (prod_in hb hc).2, (prod_in hb hd).2⟩⟩
theorem inv_le_pos {x y : Rat} (hx : 0 < x) (h : x ≤ y) : y⁻¹ ≤ x⁻¹ := by
  have hy : 0 < y := by grind
  have h1 := Rat.inv_pos.2 hx
  have h2 := Rat.inv_pos.2 hy
  have h3 := Rat.mul_le_mul_of_nonneg_left h (Rat.le_of_lt (Rat.mul_pos h1 h2))
  have e1 : x⁻¹ * y⁻¹ * x = y⁻¹ := by
    rw [Rat.mul_comm x⁻¹, Rat.mul_assoc, Rat.inv_mul_cancel x (by intro e; rw [e] at hx; exact absurd hx (by decide)), Rat.mul_one]
  have e2 : x⁻¹ * y⁻¹ * y = x⁻¹ := by
    rw [Rat.mul_assoc, Rat.inv_mul_cancel y (by intro e; rw [e] at hy; exact absurd hy (by decide)), Rat.mul_one]
  rw [e1, e2] at h3; exact h3
theorem inv_between {A B y : Rat} (h0 : ¬ (A ≤ 0 ∧ 0 ≤ B)) (h1 : A ≤ y) (h2 : y ≤ B) : B⁻¹ ≤ y⁻¹ ∧ y⁻¹ ≤ A⁻¹ := by
  rcases Decidable.em (0 < A) with hA | hA
  · exact ⟨inv_le_pos (by grind) h2, inv_le_pos hA h1⟩
  · have hB : B < 0 := by
      rcases Decidable.em (B < 0) with h | h
      · exact h
      · exact absurd ⟨Rat.not_lt.1 hA, Rat.not_lt.1 h⟩ h0
    have i1 := inv_le_pos (x := -B) (y := -y) (by grind) (by grind)
    have i2 := inv_le_pos (x := -y) (y := -A) (by grind) (by grind)
    have e : ∀ z : Rat, (-z)⁻¹ = -(z⁻¹) := fun z => by grind
    rw [e, e] at i1
    rw [e, e] at i2
    constructor <;> grind
theorem quot_in {a b c d x y : Rat} (h0 : ¬ (c ≤ 0 ∧ 0 ≤ d)) (hx : a ≤ x ∧ x ≤ b) (hy : c ≤ y ∧ y ≤ d) : leastOf (a / c) [a / d, b / c, b / d] ≤ x / y ∧ x / y ≤ greatestOf (a / c) [a / d, b / c, b / d] := by
  obtain ⟨i1, i2⟩ := inv_between h0 hy.1 hy.2
  have l4 := least4 (a / c) (a / d) (b / c) (b / d)
  have g4 := greatest4 (a / c) (a / d) (b / c) (b / d)
  simp only [Rat.div_def] at *
  exact ⟨prod_low hx.1 hx.2 i1 i2 ⟨l4.2.1, l4.1, l4.2.2.2, l4.2.2.1⟩, prod_high hx.1 hx.2 i1 i2 ⟨g4.2.1, g4.1, g4.2.2.2, g4.2.2.1⟩⟩
/-- a smaller divisor -/
theorem quot_inside {a b c d A B : Rat} (h0 : ¬ (A ≤ 0 ∧ 0 ≤ B)) (hab : a ≤ b) (hcd : c ≤ d) (h1 : A ≤ a) (h2 : b ≤ B) :
    leastOf (c / A) [c / B, d / A, d / B] ≤ leastOf (c / a) [c / b, d / a, d / b] ∧ greatestOf (c / a) [c / b, d / a, d / b] ≤ greatestOf (c / A) [c / B, d / A, d / B] := by
  have ha : A ≤ a ∧ a ≤ B := ⟨h1, Rat.le_trans hab h2⟩
  have hb : A ≤ b ∧ b ≤ B := ⟨Rat.le_trans h1 hab, h2⟩
  have hc : c ≤ c ∧ c ≤ d := ⟨Rat.le_refl, hcd⟩
  have hd : c ≤ d ∧ d ≤ d := ⟨hcd, Rat.le_refl⟩
  exact ⟨least_ge ⟨(quot_in h0 hc ha).1, (quot_in h0 hc hb).1, (quot_in h0 hd ha).1, (quot_in h0 hd hb).1⟩, greatest_le ⟨(quot_in h0 hc ha).2, (quot_in h0 hc hb).2, (quot_in h0 hd ha).2, (quot_in h0 hd hb).2⟩⟩
theorem abs_two (x : Rat) : (0 ≤ x ∧ x.abs = x) ∨ (x ≤ 0 ∧ x.abs = -x) := by
  unfold Rat.abs
  split
  · left; constructor <;> grind
  · right; constructor <;> grind
theorem least2 (x y : Rat) : leastOf x [y] = if y < x then y else x := rfl
theorem greatest2 (x y : Rat) : greatestOf x [y] = if x < y then y else x := rfl
theorem least3 (x y z : Rat) : leastOf x [y, z] = if z < (if y < x then y else x) then z else (if y < x then y else x) := rfl
theorem greatest3 (x y z : Rat) : greatestOf x [y, z] = if (if x < y then y else x) < z then z else (if x < y then y else x) := rfl
/-- what the box of absolute values is -/
theorem absLo_is {a b : Rat} (h : a ≤ b) : absLo a b = if a ≤ 0 ∧ 0 ≤ b then 0 else if 0 < a then a else -b := by
  have ha := abs_two a
  have hb := abs_two b
  unfold absLo
  rw [least2, least3]
  grind
theorem absHi_is {a b : Rat} (h : a ≤ b) : absHi a b = if -a ≤ b then b else -a := by
  have ha := abs_two a
  have hb := abs_two b
  unfold absHi
  rw [greatest2, greatest3]
  grind
theorem abs_inside {a b A B : Rat} (hab : a ≤ b) (h1 : A ≤ a) (h2 : b ≤ B) : absLo A B ≤ absLo a b ∧ absHi a b ≤ absHi A B := by
  rw [absLo_is hab, absLo_is (show A ≤ B by grind), absHi_is hab, absHi_is (show A ≤ B by grind)]
  constructor <;> grind
theorem abs_in {a b x : Rat} (hab : a ≤ b) (h1 : a ≤ x) (h2 : x ≤ b) : absLo a b ≤ x.abs ∧ x.abs ≤ absHi a b := by
  have hx := abs_two x
  rw [absLo_is hab, absHi_is hab]
  constructor <;> grind
/-- the least box around two -/
theorem hull_is {a b e f A B : Rat} (hab : a ≤ b) (hef : e ≤ f) (hA : leastOf a [b, e, f] = A) (hB : greatestOf a [b, e, f] = B) : A ≤ a ∧ b ≤ B ∧ A ≤ e ∧ f ≤ B ∧ (A = a ∨ A = e) ∧ (B = b ∨ B = f) := by
  have l4 := least4 a b e f
  have g4 := greatest4 a b e f
  have m1 : A = if e < a then e else a := by
    rw [← hA]
    show (if f < (if e < (if b < a then b else a) then e else (if b < a then b else a)) then f else (if e < (if b < a then b else a) then e else (if b < a then b else a))) = _
    grind
  have m2 : B = if b < f then f else b := by
    rw [← hB]
    show (if (if (if a < b then b else a) < e then e else (if a < b then b else a)) < f then f else (if (if a < b then b else a) < e then e else (if a < b then b else a))) = _
    grind
  rw [hA] at l4
  rw [hB] at g4
  refine ⟨l4.1, g4.2.1, l4.2.2.1, g4.2.2.2, ?_, ?_⟩
  · rw [m1]; split <;> simp
  · rw [m2]; split <;> simp
end Go.Proofs.YtpfnckhfklgoaaaGreatDoor
