/-
  Contracts of the functions that the law calls, for every input (BoxL BoxM BoxO GrF LawC FdP).
-/
import Derived.Test.YtlffafddmmhbmaaGreatDoorH29
import Derived.Test.YtlffafddmmhbmaaGreatDoorH26
import Derived.Test.YtlffafddmmhbmaaGreatDoorH27
set_option linter.all false
namespace Go.Proofs.YtlffafddmmhbmaaGreatDoor
open Go.RowKit
open Vx

theorem siz_div' {x y : Rat} (hx : siz x ≤ 1073741824) (hy : siz y ≤ 1073741824) : siz (x / y) ≤ 34359738368 := Nat.le_trans (siz_div x y) (by omega)

set_option maxRecDepth 100000 in
set_option maxHeartbeats 2000000 in
theorem results_over {w : World} {v u : Value} {a b c d : Rat} (hv : IsBox w v a b) (hu : IsBox w u c d) (hs1 : siz a ≤ 1073741824) (hs2 : siz b ≤ 1073741824) (hs3 : siz c ≤ 1073741824) (hs4 : siz d ≤ 1073741824) :
    Calls Tryz.prog 85 #[.func (.func 81) #[] #[], v, u] w (BoxRet w (leastOf ((a / c)) [(a / d), (b / c), (b / d)]) (greatestOf ((a / c)) [(a / d), (b / c), (b / d)])) := by
  obtain ⟨A1, c1, A2, c2, A3, c3, A4, c4, rfl, ha, hb⟩ := hv.opened
  obtain ⟨A5, c5, A6, c6, A7, c7, A8, c8, rfl, hc, hd⟩ := hu.opened
  obtain ⟨wB, hwB⟩ : ∃ u, u = ((w.alloc (.cells #[.bool (decide (a.num < 0)), .slice A1 (len a.num.natAbs) c1, .slice A2 (len (below a.den)) c2, .bool (decide (b.num < 0)), .slice A3 (len b.num.natAbs) c3, .slice A4 (len (below b.den)) c4] 53)).alloc (.cells #[.bool (decide (c.num < 0)), .slice A5 (len c.num.natAbs) c5, .slice A6 (len (below c.den)) c6, .bool (decide (d.num < 0)), .slice A7 (len d.num.natAbs) c7, .slice A8 (len (below d.den)) c8] 53)).alloc (.cells #[.bool false, .slice none 0 0, .slice none 0 0, .bool false, .slice none 0 0, .slice none 0 0] 53) := ⟨_, rfl⟩
  obtain ⟨b0, g0, g1, g2⟩ := news3 w (.cells #[.bool (decide (a.num < 0)), .slice A1 (len a.num.natAbs) c1, .slice A2 (len (below a.den)) c2, .bool (decide (b.num < 0)), .slice A3 (len b.num.natAbs) c3, .slice A4 (len (below b.den)) c4] 53) (.cells #[.bool (decide (c.num < 0)), .slice A5 (len c.num.natAbs) c5, .slice A6 (len (below c.den)) c6, .bool (decide (d.num < 0)), .slice A7 (len d.num.natAbs) c7, .slice A8 (len (below d.den)) c8] 53) (.cells #[.bool false, .slice none 0 0, .slice none 0 0, .bool false, .slice none 0 0, .slice none 0 0] 53)
  rw [← hwB] at b0 g0 g1 g2
  have k0 : wB.cell? ⟨w.heap.size, 0, none⟩ = some (.bool (decide (a.num < 0))) := cell_of_row _ _ _ _ _ _ g0
  have k1 : wB.cell? ⟨w.heap.size, 1, none⟩ = some (.slice A1 (len a.num.natAbs) c1) := cell_of_row _ _ _ _ _ _ g0
  have k2 : wB.cell? ⟨w.heap.size, 2, none⟩ = some (.slice A2 (len (below a.den)) c2) := cell_of_row _ _ _ _ _ _ g0
  have k3 : wB.cell? ⟨w.heap.size, 3, none⟩ = some (.bool (decide (b.num < 0))) := cell_of_row _ _ _ _ _ _ g0
  have k4 : wB.cell? ⟨w.heap.size, 4, none⟩ = some (.slice A3 (len b.num.natAbs) c3) := cell_of_row _ _ _ _ _ _ g0
  have k5 : wB.cell? ⟨w.heap.size, 5, none⟩ = some (.slice A4 (len (below b.den)) c4) := cell_of_row _ _ _ _ _ _ g0
  have k6 : wB.cell? ⟨w.heap.size + 1, 0, none⟩ = some (.bool (decide (c.num < 0))) := cell_of_row _ _ _ _ _ _ g1
  have k7 : wB.cell? ⟨w.heap.size + 1, 1, none⟩ = some (.slice A5 (len c.num.natAbs) c5) := cell_of_row _ _ _ _ _ _ g1
  have k8 : wB.cell? ⟨w.heap.size + 1, 2, none⟩ = some (.slice A6 (len (below c.den)) c6) := cell_of_row _ _ _ _ _ _ g1
  have k9 : wB.cell? ⟨w.heap.size + 1, 3, none⟩ = some (.bool (decide (d.num < 0))) := cell_of_row _ _ _ _ _ _ g1
  have k10 : wB.cell? ⟨w.heap.size + 1, 4, none⟩ = some (.slice A7 (len d.num.natAbs) c7) := cell_of_row _ _ _ _ _ _ g1
  have k11 : wB.cell? ⟨w.heap.size + 1, 5, none⟩ = some (.slice A8 (len (below d.den)) c8) := cell_of_row _ _ _ _ _ _ g1
  have HK0 := Lib.hid (Kept.start (T := 53) rfl plain6 g2)
  have HB0 := Lib.hid b0
  have hlt1 : w.heap.size < w.heap.size + 2 := by omega
  have hlt2 : w.heap.size + 1 < w.heap.size + 2 := by omega
  clear g0 g1 g2 b0
  obtain ⟨qa, eqa⟩ : ∃ q : Rat, q = a / c := ⟨_, rfl⟩
  have HSa : Hid (siz qa ≤ 34359738368) := by show _ ≤ _; rw [eqa]; exact siz_div' hs1 hs3
  have Hqa := fun (w' : World) (hk : Held6 wB (w.heap.size + 2) wB w') => Lib.hid (numOver_any (hk.stay.num (ha.keep HB0.out)) (hk.stay.num (hc.keep HB0.out)) (Nat.le_trans hs1 (by omega)) (Nat.le_trans hs3 (by omega)))
  obtain ⟨qb, eqb⟩ : ∃ q : Rat, q = a / d := ⟨_, rfl⟩
  have HSb : Hid (siz qb ≤ 34359738368) := by show _ ≤ _; rw [eqb]; exact siz_div' hs1 hs4
  have Hqb := fun (w' : World) (hk : Held6 wB (w.heap.size + 2) wB w') => Lib.hid (numOver_any (hk.stay.num (ha.keep HB0.out)) (hk.stay.num (hd.keep HB0.out)) (Nat.le_trans hs1 (by omega)) (Nat.le_trans hs4 (by omega)))
  obtain ⟨qc, eqc⟩ : ∃ q : Rat, q = b / c := ⟨_, rfl⟩
  have HSc : Hid (siz qc ≤ 34359738368) := by show _ ≤ _; rw [eqc]; exact siz_div' hs2 hs3
  have Hqc := fun (w' : World) (hk : Held6 wB (w.heap.size + 2) wB w') => Lib.hid (numOver_any (hk.stay.num (hb.keep HB0.out)) (hk.stay.num (hc.keep HB0.out)) (Nat.le_trans hs2 (by omega)) (Nat.le_trans hs3 (by omega)))
  obtain ⟨qd, eqd⟩ : ∃ q : Rat, q = b / d := ⟨_, rfl⟩
  have HSd : Hid (siz qd ≤ 34359738368) := by show _ ≤ _; rw [eqd]; exact siz_div' hs2 hs4
  have Hqd := fun (w' : World) (hk : Held6 wB (w.heap.size + 2) wB w') => Lib.hid (numOver_any (hk.stay.num (hb.keep HB0.out)) (hk.stay.num (hd.keep HB0.out)) (Nat.le_trans hs2 (by omega)) (Nat.le_trans hs4 (by omega)))
  rw [← eqa] at Hqa ⊢
  rw [← eqb] at Hqb ⊢
  rw [← eqc] at Hqc ⊢
  rw [← eqd] at Hqd ⊢
  obtain ⟨xl, hxl⟩ : ∃ z : Rat, z = leastOf qa [qb, qc, qd] := ⟨_, rfl⟩
  obtain ⟨xg, hxg⟩ : ∃ z : Rat, z = greatestOf qa [qb, qc, qd] := ⟨_, rfl⟩
  rw [← hxl, ← hxg]
  replace hxl := Lib.hid hxl
  replace hxg := Lib.hid hxg
  have H0 := HK0.out.begin6
  have H0' := H0
  unfold Held6 at H0'
  clear eqa eqb eqc eqd hv hu ha hb hc hd hs1 hs2 hs3 hs4
  go_enter Tryz.func85, Tryz.ntmps85
  go_upto_region 1 with fail
  rw [← hwB]
  clear hwB
  go_wp2_with fail
  go_region_held3 (fun w' => (∀ b o, b < w.heap.size + 2 → w'.cell? ⟨b, o, none⟩ = wB.cell? ⟨b, o, none⟩) ∧ w'.cell? ⟨w.heap.size + 2, 0, none⟩ = some (cur w' ⟨w.heap.size + 2, 0, none⟩) ∧ w'.cell? ⟨w.heap.size + 2, 1, none⟩ = some (cur w' ⟨w.heap.size + 2, 1, none⟩) ∧ w'.cell? ⟨w.heap.size + 2, 2, none⟩ = some (cur w' ⟨w.heap.size + 2, 2, none⟩) ∧ w'.cell? ⟨w.heap.size + 2, 3, none⟩ = some (cur w' ⟨w.heap.size + 2, 3, none⟩) ∧ w'.cell? ⟨w.heap.size + 2, 4, none⟩ = some (cur w' ⟨w.heap.size + 2, 4, none⟩) ∧ w'.cell? ⟨w.heap.size + 2, 5, none⟩ = some (cur w' ⟨w.heap.size + 2, 5, none⟩) ∧ w'.frozen? ⟨w.heap.size + 2, 0, none⟩ = false ∧ w'.frozen? ⟨w.heap.size + 2, 1, none⟩ = false ∧ w'.frozen? ⟨w.heap.size + 2, 2, none⟩ = false ∧ w'.frozen? ⟨w.heap.size + 2, 3, none⟩ = false ∧ w'.frozen? ⟨w.heap.size + 2, 4, none⟩ = false ∧ w'.frozen? ⟨w.heap.size + 2, 5, none⟩ = false ∧ Kept 6 53 wB (w.heap.size + 2) w' ∧ Stay wB w')
    (first | with_reducible exact H0' | with_reducible exact hk1' | with_reducible exact hk2' | with_reducible exact hk3' | with_reducible exact hk4' | with_reducible exact hk5' | exact hk5.store | (have hkb := hk4.call ((Below.refl w4.heap.size w4).alloc (Nat.le_refl _) (.cells #[.bool (decide (qb.num < 0)), .slice C3 (len qb.num.natAbs) j3, .slice C4 (len (below qb.den)) j4, .bool (decide (qc.num < 0)), .slice C5 (len qc.num.natAbs) j5, .slice C6 (len (below qc.den)) j6, .bool (decide (qd.num < 0)), .slice C7 (len qd.num.natAbs) j7, .slice C8 (len (below qd.den)) j8] 27)); unfold Held6 at hkb; exact hkb))
    (first | (go_at_call 86; have hc := span_three (((hv1.keep hbl2).keep hbl3).keep hbl4) HSa.out ((hv2.keep hbl3).keep hbl4) HSb.out (hv3.keep hbl4) HSc.out hv4 HSd.out; rw [← hxl.out, ← hxg.out] at hc; refine hc.mono ?_; clear hc; rintro e w5 ⟨v5, rfl, hv5, hbl5⟩; obtain ⟨E1, i1, E2, i2, E3, i3, E4, i4, rfl, hp1, hp2⟩ := hv5.opened; have hk5 := (hk4.call ((Below.refl w4.heap.size w4).alloc (Nat.le_refl _) (.cells #[.bool (decide (qb.num < 0)), .slice C3 (len qb.num.natAbs) j3, .slice C4 (len (below qb.den)) j4, .bool (decide (qc.num < 0)), .slice C5 (len qc.num.natAbs) j5, .slice C6 (len (below qc.den)) j6, .bool (decide (qd.num < 0)), .slice C7 (len qd.num.natAbs) j7, .slice C8 (len (below qd.den)) j8] 27))).call hbl5; have hk5' := hk5; unfold Held6 at hk5') | (go_at_call 81; refine ((Hqd _ hk3).out).mono ?_; rintro e w4 ⟨v4, rfl, hv4, hbl4⟩; obtain ⟨C7, j7, C8, j8, rfl, -, -⟩ := id hv4.opened; have hk4 := hk3.call hbl4; have hk4' := hk4; unfold Held6 at hk4') | (go_at_call 81; refine ((Hqc _ hk2).out).mono ?_; rintro e w3 ⟨v3, rfl, hv3, hbl3⟩; obtain ⟨C5, j5, C6, j6, rfl, -, -⟩ := id hv3.opened; have hk3 := hk2.call hbl3; have hk3' := hk3; unfold Held6 at hk3') | (go_at_call 81; refine ((Hqb _ hk1).out).mono ?_; rintro e w2 ⟨v2, rfl, hv2, hbl2⟩; obtain ⟨C3, j3, C4, j4, rfl, -, -⟩ := id hv2.opened; have hk2 := hk1.call hbl2; have hk2' := hk2; unfold Held6 at hk2') | (go_at_call 81; refine ((Hqa _ H0).out).mono ?_; rintro e w1 ⟨v1, rfl, hv1, hbl1⟩; obtain ⟨C1, j1, C2, j2, rfl, -, -⟩ := id hv1.opened; have hk1 := H0.call hbl1; have hk1' := hk1; unfold Held6 at hk1'))
  rename_i hHl
  clear hHl
  have HD := hk5.done (p := xl) (q := xg) (s1 := decide (xl.num < 0)) (A1 := E1) (n1 := len xl.num.natAbs) (c1 := i1) (A2 := E2) (n2 := len (below xl.den)) (c2 := i2) (s2 := decide (xg.num < 0)) (A3 := E3) (n3 := len xg.num.natAbs) (c3 := i3) (A4 := E4) (n4 := len (below xg.den)) (c4 := i4) (hp1) (hp2)
  obtain ⟨d1, d2, d3⟩ := HD
  have r0 := cell_of_row _ _ 0 _ _ _ d3
  have r1 := cell_of_row _ _ 1 _ _ _ d3
  have r2 := cell_of_row _ _ 2 _ _ _ d3
  have r3 := cell_of_row _ _ 3 _ _ _ d3
  have r4 := cell_of_row _ _ 4 _ _ _ d3
  have r5 := cell_of_row _ _ 5 _ _ _ d3
  simp only [List.getElem?_toArray, List.getElem?_cons_zero, List.getElem?_cons_succ] at r0 r1 r2 r3 r4 r5
  have HD := Lib.hid (And.intro d1 d2)
  clear d1 d2 d3
  go_wp2_with fail
  refine bodyPost_ret (v := .agg #[.bool (decide (xl.num < 0)), .slice (E1) (len xl.num.natAbs) (i1), .slice (E2) (len (below xl.den)) (i2), .bool (decide (xg.num < 0)), .slice (E3) (len xg.num.natAbs) (i3), .slice (E4) (len (below xg.den)) (i4)]) ?_ rfl ⟨_, rfl, HD.out.1, below_to HB0.out (by omega) HD.out.2⟩
  simp [results, Tryz.results85, go_sem, r0, r1, r2, r3, r4, r5]

set_option maxRecDepth 100000 in
set_option maxHeartbeats 2000000 in
theorem boxDiv_zero {w : World} {v u : Value} {a b c d : Rat} (hv : IsBox w v a b) (hu : IsBox w u c d) (hs1 : siz a ≤ 1073741824) (hs2 : siz b ≤ 1073741824) (hs3 : siz c ≤ 1073741824) (hs4 : siz d ≤ 1073741824) (h : (c ≤ 0 ∧ 0 ≤ d)) :
    Calls Tryz.prog 44 #[v, u] w (BoxErrRet w (0) (0) 10) := by
  obtain ⟨A1, c1, A2, c2, A3, c3, A4, c4, rfl, ha, hb⟩ := hv.opened
  obtain ⟨A5, c5, A6, c6, A7, c7, A8, c8, rfl, hc, hd⟩ := hu.opened
  obtain ⟨wB, hwB⟩ : ∃ u, u = ((w.alloc (.cells #[.bool (decide (a.num < 0)), .slice A1 (len a.num.natAbs) c1, .slice A2 (len (below a.den)) c2, .bool (decide (b.num < 0)), .slice A3 (len b.num.natAbs) c3, .slice A4 (len (below b.den)) c4] 53)).alloc (.cells #[.bool (decide (c.num < 0)), .slice A5 (len c.num.natAbs) c5, .slice A6 (len (below c.den)) c6, .bool (decide (d.num < 0)), .slice A7 (len d.num.natAbs) c7, .slice A8 (len (below d.den)) c8] 53)).alloc (.cells #[.bool false, .slice none 0 0, .slice none 0 0, .bool false, .slice none 0 0, .slice none 0 0] 53) := ⟨_, rfl⟩
  obtain ⟨b0, g0, g1, g2⟩ := news3 w (.cells #[.bool (decide (a.num < 0)), .slice A1 (len a.num.natAbs) c1, .slice A2 (len (below a.den)) c2, .bool (decide (b.num < 0)), .slice A3 (len b.num.natAbs) c3, .slice A4 (len (below b.den)) c4] 53) (.cells #[.bool (decide (c.num < 0)), .slice A5 (len c.num.natAbs) c5, .slice A6 (len (below c.den)) c6, .bool (decide (d.num < 0)), .slice A7 (len d.num.natAbs) c7, .slice A8 (len (below d.den)) c8] 53) (.cells #[.bool false, .slice none 0 0, .slice none 0 0, .bool false, .slice none 0 0, .slice none 0 0] 53)
  rw [← hwB] at b0 g0 g1 g2
  have k0 : wB.cell? ⟨w.heap.size, 0, none⟩ = some (.bool (decide (a.num < 0))) := cell_of_row _ _ _ _ _ _ g0
  have k1 : wB.cell? ⟨w.heap.size, 1, none⟩ = some (.slice A1 (len a.num.natAbs) c1) := cell_of_row _ _ _ _ _ _ g0
  have k2 : wB.cell? ⟨w.heap.size, 2, none⟩ = some (.slice A2 (len (below a.den)) c2) := cell_of_row _ _ _ _ _ _ g0
  have k3 : wB.cell? ⟨w.heap.size, 3, none⟩ = some (.bool (decide (b.num < 0))) := cell_of_row _ _ _ _ _ _ g0
  have k4 : wB.cell? ⟨w.heap.size, 4, none⟩ = some (.slice A3 (len b.num.natAbs) c3) := cell_of_row _ _ _ _ _ _ g0
  have k5 : wB.cell? ⟨w.heap.size, 5, none⟩ = some (.slice A4 (len (below b.den)) c4) := cell_of_row _ _ _ _ _ _ g0
  have k6 : wB.cell? ⟨w.heap.size + 1, 0, none⟩ = some (.bool (decide (c.num < 0))) := cell_of_row _ _ _ _ _ _ g1
  have k7 : wB.cell? ⟨w.heap.size + 1, 1, none⟩ = some (.slice A5 (len c.num.natAbs) c5) := cell_of_row _ _ _ _ _ _ g1
  have k8 : wB.cell? ⟨w.heap.size + 1, 2, none⟩ = some (.slice A6 (len (below c.den)) c6) := cell_of_row _ _ _ _ _ _ g1
  have k9 : wB.cell? ⟨w.heap.size + 1, 3, none⟩ = some (.bool (decide (d.num < 0))) := cell_of_row _ _ _ _ _ _ g1
  have k10 : wB.cell? ⟨w.heap.size + 1, 4, none⟩ = some (.slice A7 (len d.num.natAbs) c7) := cell_of_row _ _ _ _ _ _ g1
  have k11 : wB.cell? ⟨w.heap.size + 1, 5, none⟩ = some (.slice A8 (len (below d.den)) c8) := cell_of_row _ _ _ _ _ _ g1
  have HK0 := Lib.hid (Kept.start (T := 53) rfl plain6 g2)
  have HB0 := Lib.hid b0
  have hlt1 : w.heap.size < w.heap.size + 2 := by omega
  have hlt2 : w.heap.size + 1 < w.heap.size + 2 := by omega
  clear g0 g1 g2 b0
  have HZ : siz 0 ≤ 34359738368 := Nat.le_trans (show siz 0 ≤ 3 by decide +kernel) (by omega)
  have HH := Lib.hid (boxHas_any (x := 0) (IsNum.pair (hc.keep HB0.out) (hd.keep HB0.out)) (zero_num wB) (Nat.le_trans hs3 (by omega)) (Nat.le_trans hs4 (by omega)) HZ)
  have hdec : decide (c ≤ 0 ∧ 0 ≤ d) = true := decide_eq_true h
  rw [hdec] at HH
  clear hv hu ha hb hc hd hs1 hs2 hs3 hs4 h hdec HZ
  go_enter Tryz.func44, Tryz.ntmps44
  go_upto_region 1 with fail
  rw [← hwB]
  clear hwB
  go_wp2_with fail
  refine (HH.out).mono ?_
  rintro e w1 ⟨rfl, b1⟩
  have HK1 := Lib.hid (HK0.out.call b1)
  have hk := HK1.out.held6 (Stay.refl _)
  have hk' := hk
  unfold Held6 at hk'
  clear b1 HH
  obtain ⟨-, c0, c1', c2', c3', c4', c5', f0, f1, f2, f3, f4, f5, -⟩ := hk'
  have HD := hk.done (p := 0) (q := 0) (s1 := false) (A1 := none) (n1 := 0) (c1 := 0) (A2 := none) (n2 := 0) (c2 := 0) (s2 := false) (A3 := none) (n3 := 0) (c3 := 0) (A4 := none) (n4 := 0) (c4 := 0) (zero_num _) (zero_num _)
  obtain ⟨d1, d2, d3⟩ := HD
  have r0 := cell_of_row _ _ 0 _ _ _ d3
  have r1 := cell_of_row _ _ 1 _ _ _ d3
  have r2 := cell_of_row _ _ 2 _ _ _ d3
  have r3 := cell_of_row _ _ 3 _ _ _ d3
  have r4 := cell_of_row _ _ 4 _ _ _ d3
  have r5 := cell_of_row _ _ 5 _ _ _ d3
  simp only [List.getElem?_toArray, List.getElem?_cons_zero, List.getElem?_cons_succ] at r0 r1 r2 r3 r4 r5
  have HD := Lib.hid (And.intro d1 d2)
  clear d1 d2 d3
  go_wp2_with fail
  refine bodyPost_ret (v := .tuple #[.agg #[.bool (false), .slice (none) (0) (0), .slice (none) (0) (0), .bool (false), .slice (none) (0) (0), .slice (none) (0) (0)], .int .i64 10]) ?_ rfl ⟨_, rfl, HD.out.1, below_to HB0.out (by omega) HD.out.2⟩
  simp [results, Tryz.results44, go_sem, r0, r1, r2, r3, r4, r5]

set_option maxRecDepth 100000 in
set_option maxHeartbeats 2000000 in
theorem boxDiv_ok {w : World} {v u : Value} {a b c d : Rat} (hv : IsBox w v a b) (hu : IsBox w u c d) (hs1 : siz a ≤ 1073741824) (hs2 : siz b ≤ 1073741824) (hs3 : siz c ≤ 1073741824) (hs4 : siz d ≤ 1073741824) (h : ¬ (c ≤ 0 ∧ 0 ≤ d)) :
    Calls Tryz.prog 44 #[v, u] w (BoxErrRet w (leastOf ((a / c)) [(a / d), (b / c), (b / d)]) (greatestOf ((a / c)) [(a / d), (b / c), (b / d)]) 0) := by
  obtain ⟨A1, c1, A2, c2, A3, c3, A4, c4, rfl, ha, hb⟩ := hv.opened
  obtain ⟨A5, c5, A6, c6, A7, c7, A8, c8, rfl, hc, hd⟩ := hu.opened
  obtain ⟨wB, hwB⟩ : ∃ u, u = ((w.alloc (.cells #[.bool (decide (a.num < 0)), .slice A1 (len a.num.natAbs) c1, .slice A2 (len (below a.den)) c2, .bool (decide (b.num < 0)), .slice A3 (len b.num.natAbs) c3, .slice A4 (len (below b.den)) c4] 53)).alloc (.cells #[.bool (decide (c.num < 0)), .slice A5 (len c.num.natAbs) c5, .slice A6 (len (below c.den)) c6, .bool (decide (d.num < 0)), .slice A7 (len d.num.natAbs) c7, .slice A8 (len (below d.den)) c8] 53)).alloc (.cells #[.bool false, .slice none 0 0, .slice none 0 0, .bool false, .slice none 0 0, .slice none 0 0] 53) := ⟨_, rfl⟩
  obtain ⟨b0, g0, g1, g2⟩ := news3 w (.cells #[.bool (decide (a.num < 0)), .slice A1 (len a.num.natAbs) c1, .slice A2 (len (below a.den)) c2, .bool (decide (b.num < 0)), .slice A3 (len b.num.natAbs) c3, .slice A4 (len (below b.den)) c4] 53) (.cells #[.bool (decide (c.num < 0)), .slice A5 (len c.num.natAbs) c5, .slice A6 (len (below c.den)) c6, .bool (decide (d.num < 0)), .slice A7 (len d.num.natAbs) c7, .slice A8 (len (below d.den)) c8] 53) (.cells #[.bool false, .slice none 0 0, .slice none 0 0, .bool false, .slice none 0 0, .slice none 0 0] 53)
  rw [← hwB] at b0 g0 g1 g2
  have k0 : wB.cell? ⟨w.heap.size, 0, none⟩ = some (.bool (decide (a.num < 0))) := cell_of_row _ _ _ _ _ _ g0
  have k1 : wB.cell? ⟨w.heap.size, 1, none⟩ = some (.slice A1 (len a.num.natAbs) c1) := cell_of_row _ _ _ _ _ _ g0
  have k2 : wB.cell? ⟨w.heap.size, 2, none⟩ = some (.slice A2 (len (below a.den)) c2) := cell_of_row _ _ _ _ _ _ g0
  have k3 : wB.cell? ⟨w.heap.size, 3, none⟩ = some (.bool (decide (b.num < 0))) := cell_of_row _ _ _ _ _ _ g0
  have k4 : wB.cell? ⟨w.heap.size, 4, none⟩ = some (.slice A3 (len b.num.natAbs) c3) := cell_of_row _ _ _ _ _ _ g0
  have k5 : wB.cell? ⟨w.heap.size, 5, none⟩ = some (.slice A4 (len (below b.den)) c4) := cell_of_row _ _ _ _ _ _ g0
  have k6 : wB.cell? ⟨w.heap.size + 1, 0, none⟩ = some (.bool (decide (c.num < 0))) := cell_of_row _ _ _ _ _ _ g1
  have k7 : wB.cell? ⟨w.heap.size + 1, 1, none⟩ = some (.slice A5 (len c.num.natAbs) c5) := cell_of_row _ _ _ _ _ _ g1
  have k8 : wB.cell? ⟨w.heap.size + 1, 2, none⟩ = some (.slice A6 (len (below c.den)) c6) := cell_of_row _ _ _ _ _ _ g1
  have k9 : wB.cell? ⟨w.heap.size + 1, 3, none⟩ = some (.bool (decide (d.num < 0))) := cell_of_row _ _ _ _ _ _ g1
  have k10 : wB.cell? ⟨w.heap.size + 1, 4, none⟩ = some (.slice A7 (len d.num.natAbs) c7) := cell_of_row _ _ _ _ _ _ g1
  have k11 : wB.cell? ⟨w.heap.size + 1, 5, none⟩ = some (.slice A8 (len (below d.den)) c8) := cell_of_row _ _ _ _ _ _ g1
  have HK0 := Lib.hid (Kept.start (T := 53) rfl plain6 g2)
  have HB0 := Lib.hid b0
  have hlt1 : w.heap.size < w.heap.size + 2 := by omega
  have hlt2 : w.heap.size + 1 < w.heap.size + 2 := by omega
  clear g0 g1 g2 b0
  have HZ : siz 0 ≤ 34359738368 := Nat.le_trans (show siz 0 ≤ 3 by decide +kernel) (by omega)
  have HH := Lib.hid (boxHas_any (x := 0) (IsNum.pair (hc.keep HB0.out) (hd.keep HB0.out)) (zero_num wB) (Nat.le_trans hs3 (by omega)) (Nat.le_trans hs4 (by omega)) HZ)
  have hdec : decide (c ≤ 0 ∧ 0 ≤ d) = false := decide_eq_false h
  rw [hdec] at HH
  have HX := fun (w1 : World) (hb1 : Below w.heap.size w w1) => Lib.hid (results_over (IsNum.pair (ha.keep hb1) (hb.keep hb1)) (IsNum.pair (hc.keep hb1) (hd.keep hb1)) hs1 hs2 hs3 hs4)
  obtain ⟨q, hq⟩ : ∃ z : Rat, z = leastOf ((a / c)) [(a / d), (b / c), (b / d)] := ⟨_, rfl⟩
  obtain ⟨r, hr⟩ : ∃ z : Rat, z = greatestOf ((a / c)) [(a / d), (b / c), (b / d)] := ⟨_, rfl⟩
  rw [← hq, ← hr] at HX ⊢
  clear hq hr
  clear hv hu ha hb hc hd hs1 hs2 hs3 hs4 h hdec HZ
  go_enter Tryz.func44, Tryz.ntmps44
  go_upto_region 1 with fail
  rw [← hwB]
  clear hwB
  go_wp2_with fail
  refine (HH.out).mono ?_
  rintro e w1 ⟨rfl, b1⟩
  have HK1 := Lib.hid (HK0.out.call b1)
  have hbc := below_cell HK1.out.1
  have HY := HX w1 (below_to HB0.out (by omega) HK1.out.1)
  clear HX HH b1
  go_wp2_with fail
  refine (HY.out).mono ?_
  rintro e w5 ⟨v5, rfl, hv5, b5⟩
  obtain ⟨C1, j1, C2, j2, C3, j3, C4, j4, rfl, hq1, hr1⟩ := hv5.opened
  have hk := (HK1.out.call b5).held6 (Stay.refl _)
  have hk' := hk
  unfold Held6 at hk'
  clear b5 HY hbc
  obtain ⟨-, c0, c1', c2', c3', c4', c5', f0, f1, f2, f3, f4, f5, -⟩ := hk'
  have HD := hk.done (p := q) (q := r) (s1 := decide (q.num < 0)) (A1 := C1) (n1 := len q.num.natAbs) (c1 := j1) (A2 := C2) (n2 := len (below q.den)) (c2 := j2) (s2 := decide (r.num < 0)) (A3 := C3) (n3 := len r.num.natAbs) (c3 := j3) (A4 := C4) (n4 := len (below r.den)) (c4 := j4) (hq1) (hr1)
  obtain ⟨d1, d2, d3⟩ := HD
  have r0 := cell_of_row _ _ 0 _ _ _ d3
  have r1 := cell_of_row _ _ 1 _ _ _ d3
  have r2 := cell_of_row _ _ 2 _ _ _ d3
  have r3 := cell_of_row _ _ 3 _ _ _ d3
  have r4 := cell_of_row _ _ 4 _ _ _ d3
  have r5 := cell_of_row _ _ 5 _ _ _ d3
  simp only [List.getElem?_toArray, List.getElem?_cons_zero, List.getElem?_cons_succ] at r0 r1 r2 r3 r4 r5
  have HD := Lib.hid (And.intro d1 d2)
  clear d1 d2 d3
  go_wp2_with fail
  refine bodyPost_ret (v := .tuple #[.agg #[.bool (decide (q.num < 0)), .slice (C1) (len q.num.natAbs) (j1), .slice (C2) (len (below q.den)) (j2), .bool (decide (r.num < 0)), .slice (C3) (len r.num.natAbs) (j3), .slice (C4) (len (below r.den)) (j4)], .int .i64 0]) ?_ rfl ⟨_, rfl, HD.out.1, below_to HB0.out (by omega) HD.out.2⟩
  simp [results, Tryz.results44, go_sem, r0, r1, r2, r3, r4, r5]
end Go.Proofs.YtlffafddmmhbmaaGreatDoor
namespace Go.Proofs.YtlffafddmmhbmaaGreatDoor
open Go.RowKit
open Vx

set_option maxRecDepth 100000 in
set_option maxHeartbeats 2000000 in
theorem boxPow_even {w : World} {v : Value} {a b l m : Rat} {n : Nat} (hv : IsBox w v a b) (hn : n ≤ 64) (ho : n % 2 = 0) (hs : siz l ≤ 1073741824) (ht : siz m ≤ 1073741824)
    (habs : ∀ (w' : World) (v' : Value), IsBox w' v' a b → Calls Tryz.prog 37 #[v'] w' (BoxRet w' l m)) :
    Calls Tryz.prog 31 #[v, .int .i64 (n : Nat)] w (BoxErrRet w (l ^ n) (m ^ n) 0) := by
  obtain ⟨A1, c1, A2, c2, A3, c3, A4, c4, rfl, ha, hb⟩ := hv.opened
  obtain ⟨wB, hwB⟩ : ∃ u, u = ((w.alloc (.cells #[.bool (decide (a.num < 0)), .slice A1 (len a.num.natAbs) c1, .slice A2 (len (below a.den)) c2, .bool (decide (b.num < 0)), .slice A3 (len b.num.natAbs) c3, .slice A4 (len (below b.den)) c4] 53)).alloc (.cells #[.int .i64 (n : Nat)] 3)).alloc (.cells #[.bool false, .slice none 0 0, .slice none 0 0, .bool false, .slice none 0 0, .slice none 0 0] 53) := ⟨_, rfl⟩
  obtain ⟨b0, g0, g1, g2⟩ := news3 w (.cells #[.bool (decide (a.num < 0)), .slice A1 (len a.num.natAbs) c1, .slice A2 (len (below a.den)) c2, .bool (decide (b.num < 0)), .slice A3 (len b.num.natAbs) c3, .slice A4 (len (below b.den)) c4] 53) (.cells #[.int .i64 (n : Nat)] 3) (.cells #[.bool false, .slice none 0 0, .slice none 0 0, .bool false, .slice none 0 0, .slice none 0 0] 53)
  rw [← hwB] at b0 g0 g1 g2
  have k0 : wB.cell? ⟨w.heap.size, 0, none⟩ = some (.bool (decide (a.num < 0))) := cell_of_row _ _ _ _ _ _ g0
  have k1 : wB.cell? ⟨w.heap.size, 1, none⟩ = some (.slice A1 (len a.num.natAbs) c1) := cell_of_row _ _ _ _ _ _ g0
  have k2 : wB.cell? ⟨w.heap.size, 2, none⟩ = some (.slice A2 (len (below a.den)) c2) := cell_of_row _ _ _ _ _ _ g0
  have k3 : wB.cell? ⟨w.heap.size, 3, none⟩ = some (.bool (decide (b.num < 0))) := cell_of_row _ _ _ _ _ _ g0
  have k4 : wB.cell? ⟨w.heap.size, 4, none⟩ = some (.slice A3 (len b.num.natAbs) c3) := cell_of_row _ _ _ _ _ _ g0
  have k5 : wB.cell? ⟨w.heap.size, 5, none⟩ = some (.slice A4 (len (below b.den)) c4) := cell_of_row _ _ _ _ _ _ g0
  have k6 : wB.cell? ⟨w.heap.size + 1, 0, none⟩ = some (.int .i64 (n : Nat)) := cell_of_row _ _ _ _ _ _ g1
  have HK0 := Lib.hid (Kept.start (T := 53) rfl plain6 g2)
  have HB0 := Lib.hid b0
  have hlt1 : w.heap.size < w.heap.size + 2 := by omega
  have hlt2 : w.heap.size + 1 < w.heap.size + 2 := by omega
  clear g1 g2 b0
  have hl1 : siz l * n ≤ 1099511627776 := Nat.le_trans (Nat.mul_le_mul hs hn) (by omega)
  have hl2 : siz m * n ≤ 1099511627776 := Nat.le_trans (Nat.mul_le_mul ht hn) (by omega)
  have hs1 : siz l ≤ 1099511627776 := Nat.le_trans hs (by omega)
  have ht1 : siz m ≤ 1099511627776 := Nat.le_trans ht (by omega)
  have HA := Lib.hid (habs wB _ (IsNum.pair (ha.keep HB0.out) (hb.keep HB0.out)))
  have h1 : decide (((n : Nat) : Int) < 0) = false := decide_eq_false (by omega)
  have h2 : decide (((n : Nat) : Int) > 64) = false := decide_eq_false (by omega)
  have h3 : (Int.tmod ((n : Nat) : Int) 2 == 0) = true := by
    have e : Int.tmod ((n : Nat) : Int) 2 = ((n % 2 : Nat) : Int) := by rw [Int.tmod_eq_emod_of_nonneg (by omega)]; omega
    rw [e, ho]; rfl
  have h4 : (((n : Nat) : Int) % 2 == 0) = true := by
    have e : ((n : Nat) : Int) % 2 = ((n % 2 : Nat) : Int) := by omega
    rw [e, ho]; rfl
  have hn1 : n ≤ 1099511627776 := by omega
  obtain ⟨q, hq⟩ : ∃ q : Rat, q = l ^ n := ⟨_, rfl⟩
  obtain ⟨r, hr⟩ : ∃ q : Rat, q = m ^ n := ⟨_, rfl⟩
  rw [← hq, ← hr]
  replace hq := Lib.hid hq
  replace hr := Lib.hid hr
  replace hn1 := Lib.hid hn1
  replace hl1 := Lib.hid hl1
  replace hl2 := Lib.hid hl2
  replace hs1 := Lib.hid hs1
  replace ht1 := Lib.hid ht1
  replace g0 := Lib.hid g0
  clear hs ht hv ha hb hn ho habs
  go_enter Tryz.func31, Tryz.ntmps31
  go_upto_region 1 with fail
  rw [← hwB]
  clear hwB
  go_wp2_with fail
  refine (HA.out).mono ?_
  rintro e w1 ⟨v1, rfl, hv1, b1⟩
  obtain ⟨D1, d1, D2, d2, D3, d3, D4, d4, rfl, hl, hm⟩ := hv1.opened
  have HK1 := HK0.out.call b1
  have KA0 : Kept 6 53 wB w.heap.size w1 := (Kept.start rfl plain6 g0.out).call b1
  have hn6 : w1.cell? ⟨w.heap.size + 1, 0, none⟩ = some (.int .i64 (n : Nat)) := (below_cell HK1.1 _ _ (by omega)).trans k6
  have ka1 := KA0.set (i := 0) (bool_plain (decide (l.num < 0)))
  have ka2 := ka1.set (i := 1) (slice_plain D1 (len l.num.natAbs) d1)
  have ka3 := ka2.set (i := 2) (slice_plain D2 (len (below l.den)) d2)
  have ka4 := ka3.set (i := 3) (bool_plain (decide (m.num < 0)))
  have ka5 := ka4.set (i := 4) (slice_plain D3 (len m.num.natAbs) d3)
  have ka6 := ka5.set (i := 5) (slice_plain D4 (len (below m.den)) d4)
  have hl6 := ((((((hl.put (i := 0) (u := (.bool (decide (l.num < 0)))) KA0).put (i := 1) (u := (.slice D1 (len l.num.natAbs) d1)) ka1).put (i := 2) (u := (.slice D2 (len (below l.den)) d2)) ka2).put (i := 3) (u := (.bool (decide (m.num < 0)))) ka3).put (i := 4) (u := (.slice D3 (len m.num.natAbs) d3)) ka4).put (i := 5) (u := (.slice D4 (len (below m.den)) d4)) ka5)
  have hm6 := ((((((hm.put (i := 0) (u := (.bool (decide (l.num < 0)))) KA0).put (i := 1) (u := (.slice D1 (len l.num.natAbs) d1)) ka1).put (i := 2) (u := (.slice D2 (len (below l.den)) d2)) ka2).put (i := 3) (u := (.bool (decide (m.num < 0)))) ka3).put (i := 4) (u := (.slice D3 (len m.num.natAbs) d3)) ka4).put (i := 5) (u := (.slice D4 (len (below m.den)) d4)) ka5)
  obtain ⟨_, csA, hsA, _, hgA⟩ := id KA0
  have hrow := setcell_heap6 hsA hgA (.bool (decide (l.num < 0))) (.slice D1 (len l.num.natAbs) d1) (.slice D2 (len (below l.den)) d2) (.bool (decide (m.num < 0))) (.slice D3 (len m.num.natAbs) d3) (.slice D4 (len (below m.den)) d4)
  have y0 : w1.cell? ⟨w.heap.size, 0, none⟩ = some (cur w1 ⟨w.heap.size, 0, none⟩) := cur_of hgA (by omega)
  have F0 : w1.frozen? ⟨w.heap.size, 0, none⟩ = false := frozen_of_row w1 _ 0 _ _ hgA
  have y1 : w1.cell? ⟨w.heap.size, 1, none⟩ = some (cur w1 ⟨w.heap.size, 1, none⟩) := cur_of hgA (by omega)
  have F1 : w1.frozen? ⟨w.heap.size, 1, none⟩ = false := frozen_of_row w1 _ 1 _ _ hgA
  have y2 : w1.cell? ⟨w.heap.size, 2, none⟩ = some (cur w1 ⟨w.heap.size, 2, none⟩) := cur_of hgA (by omega)
  have F2 : w1.frozen? ⟨w.heap.size, 2, none⟩ = false := frozen_of_row w1 _ 2 _ _ hgA
  have y3 : w1.cell? ⟨w.heap.size, 3, none⟩ = some (cur w1 ⟨w.heap.size, 3, none⟩) := cur_of hgA (by omega)
  have F3 : w1.frozen? ⟨w.heap.size, 3, none⟩ = false := frozen_of_row w1 _ 3 _ _ hgA
  have y4 : w1.cell? ⟨w.heap.size, 4, none⟩ = some (cur w1 ⟨w.heap.size, 4, none⟩) := cur_of hgA (by omega)
  have F4 : w1.frozen? ⟨w.heap.size, 4, none⟩ = false := frozen_of_row w1 _ 4 _ _ hgA
  have y5 : w1.cell? ⟨w.heap.size, 5, none⟩ = some (cur w1 ⟨w.heap.size, 5, none⟩) := cur_of hgA (by omega)
  have F5 : w1.frozen? ⟨w.heap.size, 5, none⟩ = false := frozen_of_row w1 _ 5 _ _ hgA
  have hB1 := below_to HB0.out (by omega) HK1.1
  have hB2 : Below w.heap.size w ((((((w1.setCell ⟨w.heap.size, 0, none⟩ (.bool (decide (l.num < 0)))).setCell ⟨w.heap.size, 1, none⟩ (.slice D1 (len l.num.natAbs) d1)).setCell ⟨w.heap.size, 2, none⟩ (.slice D2 (len (below l.den)) d2)).setCell ⟨w.heap.size, 3, none⟩ (.bool (decide (m.num < 0)))).setCell ⟨w.heap.size, 4, none⟩ (.slice D3 (len m.num.natAbs) d3)).setCell ⟨w.heap.size, 5, none⟩ (.slice D4 (len (below m.den)) d4)) := ((((((hB1.setCell (p := ⟨w.heap.size, 0, none⟩) (Nat.le_refl _) _).setCell (p := ⟨w.heap.size, 1, none⟩) (Nat.le_refl _) _).setCell (p := ⟨w.heap.size, 2, none⟩) (Nat.le_refl _) _).setCell (p := ⟨w.heap.size, 3, none⟩) (Nat.le_refl _) _).setCell (p := ⟨w.heap.size, 4, none⟩) (Nat.le_refl _) _).setCell (p := ⟨w.heap.size, 5, none⟩) (Nat.le_refl _) _)
  obtain ⟨_, csG, hsG, hpG, hgG⟩ := id HK1
  have hgG2 : ((((((w1.setCell ⟨w.heap.size, 0, none⟩ (.bool (decide (l.num < 0)))).setCell ⟨w.heap.size, 1, none⟩ (.slice D1 (len l.num.natAbs) d1)).setCell ⟨w.heap.size, 2, none⟩ (.slice D2 (len (below l.den)) d2)).setCell ⟨w.heap.size, 3, none⟩ (.bool (decide (m.num < 0)))).setCell ⟨w.heap.size, 4, none⟩ (.slice D3 (len m.num.natAbs) d3)).setCell ⟨w.heap.size, 5, none⟩ (.slice D4 (len (below m.den)) d4)).heap[w.heap.size + 2]? = some (.cells csG 53 (0, 0)) := by
    rw [heap_setCell_other _ _ _ _ (by show w.heap.size + 2 ≠ w.heap.size; omega), heap_setCell_other _ _ _ _ (by show w.heap.size + 2 ≠ w.heap.size; omega), heap_setCell_other _ _ _ _ (by show w.heap.size + 2 ≠ w.heap.size; omega), heap_setCell_other _ _ _ _ (by show w.heap.size + 2 ≠ w.heap.size; omega), heap_setCell_other _ _ _ _ (by show w.heap.size + 2 ≠ w.heap.size; omega), heap_setCell_other _ _ _ _ (by show w.heap.size + 2 ≠ w.heap.size; omega)]
    exact hgG
  have hN2 : ((((((w1.setCell ⟨w.heap.size, 0, none⟩ (.bool (decide (l.num < 0)))).setCell ⟨w.heap.size, 1, none⟩ (.slice D1 (len l.num.natAbs) d1)).setCell ⟨w.heap.size, 2, none⟩ (.slice D2 (len (below l.den)) d2)).setCell ⟨w.heap.size, 3, none⟩ (.bool (decide (m.num < 0)))).setCell ⟨w.heap.size, 4, none⟩ (.slice D3 (len m.num.natAbs) d3)).setCell ⟨w.heap.size, 5, none⟩ (.slice D4 (len (below m.den)) d4)).cell? ⟨w.heap.size + 1, 0, none⟩ = some (.int .i64 (n : Nat)) := by
    rw [World.cell?_setCell_other _ _ _ _ (by intro e; injection e with e1; omega), World.cell?_setCell_other _ _ _ _ (by intro e; injection e with e1; omega), World.cell?_setCell_other _ _ _ _ (by intro e; injection e with e1; omega), World.cell?_setCell_other _ _ _ _ (by intro e; injection e with e1; omega), World.cell?_setCell_other _ _ _ _ (by intro e; injection e with e1; omega), World.cell?_setCell_other _ _ _ _ (by intro e; injection e with e1; omega)]
    exact hn6
  replace hl6 := Lib.hid hl6
  replace hm6 := Lib.hid hm6
  replace hrow := Lib.hid hrow
  replace hB2 := Lib.hid hB2
  replace hgG2 := Lib.hid hgG2
  replace hN2 := Lib.hid hN2
  clear ka1 ka2 ka3 ka4 ka5 ka6 hl hm hv1 hB1 hgG HK1 KA0 hgA hn6 HA k0 k1 k2 k3 k4 k5 k6 b1
  go_upto_region 5 with fail
  obtain ⟨w2, hw2⟩ : ∃ u, u = ((((((w1.setCell ⟨w.heap.size, 0, none⟩ (.bool (decide (l.num < 0)))).setCell ⟨w.heap.size, 1, none⟩ (.slice D1 (len l.num.natAbs) d1)).setCell ⟨w.heap.size, 2, none⟩ (.slice D2 (len (below l.den)) d2)).setCell ⟨w.heap.size, 3, none⟩ (.bool (decide (m.num < 0)))).setCell ⟨w.heap.size, 4, none⟩ (.slice D3 (len m.num.natAbs) d3)).setCell ⟨w.heap.size, 5, none⟩ (.slice D4 (len (below m.den)) d4)) := ⟨_, rfl⟩
  rw [← hw2] at hl6 hm6 hrow hB2 hgG2 hN2 ⊢
  clear hw2 y0 F0 y1 F1 y2 F2 y3 F3 y4 F4 y5 F5
  have k6 := hN2.out
  have k0 : w2.cell? ⟨w.heap.size, 0, none⟩ = some (.bool (decide (l.num < 0))) := cell_of_row _ _ _ _ _ _ hrow.out
  have k1 : w2.cell? ⟨w.heap.size, 1, none⟩ = some (.slice D1 (len l.num.natAbs) d1) := cell_of_row _ _ _ _ _ _ hrow.out
  have k2 : w2.cell? ⟨w.heap.size, 2, none⟩ = some (.slice D2 (len (below l.den)) d2) := cell_of_row _ _ _ _ _ _ hrow.out
  have k3 : w2.cell? ⟨w.heap.size, 3, none⟩ = some (.bool (decide (m.num < 0))) := cell_of_row _ _ _ _ _ _ hrow.out
  have k4 : w2.cell? ⟨w.heap.size, 4, none⟩ = some (.slice D3 (len m.num.natAbs) d3) := cell_of_row _ _ _ _ _ _ hrow.out
  have k5 : w2.cell? ⟨w.heap.size, 5, none⟩ = some (.slice D4 (len (below m.den)) d4) := cell_of_row _ _ _ _ _ _ hrow.out
  have HK2 := Lib.hid (Kept.start hsG hpG hgG2.out)
  have HB0 := hB2
  have HX := Lib.hid (ends_pow (bn := w.heap.size + 1) (IsNum.pair hl6.out hm6.out) hN2.out hn1.out hl1.out hs1.out hl2.out ht1.out)
  rw [← hq.out, ← hr.out] at HX
  clear hrow hN2 hgG2
  go_wp2_with fail
  refine (HX.out).mono ?_
  rintro e w5 ⟨v5, rfl, hv5, b5⟩
  obtain ⟨C1, j1, C2, j2, C3, j3, C4, j4, rfl, hq1, hr1⟩ := hv5.opened
  have hk := (HK2.out.call b5).held6 (Stay.refl _)
  have hk' := hk
  unfold Held6 at hk'
  clear b5 HX
  obtain ⟨-, c0, c1', c2', c3', c4', c5', f0, f1, f2, f3, f4, f5, -⟩ := hk'
  have HD := hk.done (p := q) (q := r) (s1 := decide (q.num < 0)) (A1 := C1) (n1 := len q.num.natAbs) (c1 := j1) (A2 := C2) (n2 := len (below q.den)) (c2 := j2) (s2 := decide (r.num < 0)) (A3 := C3) (n3 := len r.num.natAbs) (c3 := j3) (A4 := C4) (n4 := len (below r.den)) (c4 := j4) (hq1) (hr1)
  obtain ⟨d1, d2, d3⟩ := HD
  have r0 := cell_of_row _ _ 0 _ _ _ d3
  have r1 := cell_of_row _ _ 1 _ _ _ d3
  have r2 := cell_of_row _ _ 2 _ _ _ d3
  have r3 := cell_of_row _ _ 3 _ _ _ d3
  have r4 := cell_of_row _ _ 4 _ _ _ d3
  have r5 := cell_of_row _ _ 5 _ _ _ d3
  simp only [List.getElem?_toArray, List.getElem?_cons_zero, List.getElem?_cons_succ] at r0 r1 r2 r3 r4 r5
  have HD := Lib.hid (And.intro d1 d2)
  clear d1 d2 d3
  go_wp2_with fail
  refine bodyPost_ret (v := .tuple #[.agg #[.bool (decide (q.num < 0)), .slice (C1) (len q.num.natAbs) (j1), .slice (C2) (len (below q.den)) (j2), .bool (decide (r.num < 0)), .slice (C3) (len r.num.natAbs) (j3), .slice (C4) (len (below r.den)) (j4)], .int .i64 0]) ?_ rfl ⟨_, rfl, HD.out.1, below_to HB0.out (by omega) HD.out.2⟩
  simp [results, Tryz.results31, go_sem, r0, r1, r2, r3, r4, r5]
end Go.Proofs.YtlffafddmmhbmaaGreatDoor
namespace Go.Proofs.YtlffafddmmhbmaaGreatDoor
open Go.RowKit
open Vx

/-- The ends of the box of absolute values. -/
def absLo (a b : Rat) : Rat := if a ≤ 0 ∧ 0 ≤ b then leastOf 0 [a.abs, b.abs] else leastOf a.abs [b.abs]
def absHi (a b : Rat) : Rat := if a ≤ 0 ∧ 0 ≤ b then greatestOf 0 [a.abs, b.abs] else greatestOf a.abs [b.abs]
theorem boxAbs_any {w : World} {v : Value} {a b : Rat} (hv : IsBox w v a b) (sa : siz a ≤ 34359738368) (sb : siz b ≤ 34359738368) :
    Calls Tryz.prog 37 #[v] w (BoxRet w (absLo a b) (absHi a b)) := by
  unfold absLo absHi
  rcases Decidable.em (a ≤ 0 ∧ 0 ≤ b) with h | h
  · rw [if_pos h, if_pos h]; exact boxAbs_zero hv sa sb h
  · rw [if_neg h, if_neg h]; exact boxAbs_one hv sa sb h
theorem siz_zero : siz 0 ≤ 3 := by decide +kernel
theorem siz_least {x : Rat} {l : List Rat} {N : Nat} (h : siz x ≤ N) (h2 : ∀ y ∈ l, siz y ≤ N) : siz (leastOf x l) ≤ N := by
  rcases leastOf_mem l x with e | e
  · rw [e]; exact h
  · exact h2 _ e
theorem siz_greatest {x : Rat} {l : List Rat} {N : Nat} (h : siz x ≤ N) (h2 : ∀ y ∈ l, siz y ≤ N) : siz (greatestOf x l) ≤ N := by
  rcases greatestOf_mem l x with e | e
  · rw [e]; exact h
  · exact h2 _ e
theorem siz_absLo {a b : Rat} {N : Nat} (h3 : 3 ≤ N) (ha : siz a ≤ N) (hb : siz b ≤ N) : siz (absLo a b) ≤ N := by
  have h1 : siz a.abs ≤ N := by rw [siz_abs]; exact ha
  have h2 : siz b.abs ≤ N := by rw [siz_abs]; exact hb
  unfold absLo
  split
  · exact siz_least (Nat.le_trans siz_zero h3) (by intro y hy; simp only [List.mem_cons, List.not_mem_nil, or_false] at hy; rcases hy with rfl | rfl <;> assumption)
  · exact siz_least h1 (by intro y hy; simp only [List.mem_cons, List.not_mem_nil, or_false] at hy; rw [hy]; exact h2)
theorem siz_absHi {a b : Rat} {N : Nat} (h3 : 3 ≤ N) (ha : siz a ≤ N) (hb : siz b ≤ N) : siz (absHi a b) ≤ N := by
  have h1 : siz a.abs ≤ N := by rw [siz_abs]; exact ha
  have h2 : siz b.abs ≤ N := by rw [siz_abs]; exact hb
  unfold absHi
  split
  · exact siz_greatest (Nat.le_trans siz_zero h3) (by intro y hy; simp only [List.mem_cons, List.not_mem_nil, or_false] at hy; rcases hy with rfl | rfl <;> assumption)
  · exact siz_greatest h1 (by intro y hy; simp only [List.mem_cons, List.not_mem_nil, or_false] at hy; rw [hy]; exact h2)
/-- Pow of a box, for exponents from 0 to 64. -/
theorem boxPow_any {w : World} {v : Value} {a b : Rat} {n : Nat} (hv : IsBox w v a b) (hn : n ≤ 64) (hs : siz a ≤ 1073741824) (ht : siz b ≤ 1073741824) :
    Calls Tryz.prog 31 #[v, .int .i64 (n : Nat)] w (BoxErrRet w ((if n % 2 = 0 then absLo a b else a) ^ n) ((if n % 2 = 0 then absHi a b else b) ^ n) 0) := by
  rcases Nat.mod_two_eq_zero_or_one n with h | h
  · rw [if_pos h, if_pos h]
    exact boxPow_even hv hn h (siz_absLo (by omega) hs ht) (siz_absHi (by omega) hs ht) (fun w' v' hv' => boxAbs_any hv' (Nat.le_trans hs (by omega)) (Nat.le_trans ht (by omega)))
  · rw [if_neg (by omega), if_neg (by omega)]
    exact boxPow_odd hv hn h hs ht
end Go.Proofs.YtlffafddmmhbmaaGreatDoor
namespace Go.Proofs.YtlffafddmmhbmaaGreatDoor
open Vx

theorem least_le (l : List Rat) : ∀ (x : Rat), leastOf x l ≤ x ∧ ∀ y ∈ l, leastOf x l ≤ y := by
  induction l with
  | nil => intro x; exact ⟨Rat.le_refl, fun _ h => by cases h⟩
  | cons z l ih =>
    intro x
    have e : leastOf x (z :: l) = leastOf (if z < x then z else x) l := rfl
    rw [e]
    obtain ⟨h1, h2⟩ := ih (if z < x then z else x)
    have h3 : (if z < x then z else x) ≤ x ∧ (if z < x then z else x) ≤ z := by split <;> constructor <;> grind
    refine ⟨Rat.le_trans h1 h3.1, fun y hy => ?_⟩
    rcases List.mem_cons.1 hy with rfl | hy
    · exact Rat.le_trans h1 h3.2
    · exact h2 y hy
theorem greatest_ge (l : List Rat) : ∀ (x : Rat), x ≤ greatestOf x l ∧ ∀ y ∈ l, y ≤ greatestOf x l := by
  induction l with
  | nil => intro x; exact ⟨Rat.le_refl, fun _ h => by cases h⟩
  | cons z l ih =>
    intro x
    have e : greatestOf x (z :: l) = greatestOf (if x < z then z else x) l := rfl
    rw [e]
    obtain ⟨h1, h2⟩ := ih (if x < z then z else x)
    have h3 : x ≤ (if x < z then z else x) ∧ z ≤ (if x < z then z else x) := by split <;> constructor <;> grind
    refine ⟨Rat.le_trans h3.1 h1, fun y hy => ?_⟩
    rcases List.mem_cons.1 hy with rfl | hy
    · exact Rat.le_trans h3.2 h1
    · exact h2 y hy
theorem least4 (x y z t : Rat) : leastOf x [y, z, t] ≤ x ∧ leastOf x [y, z, t] ≤ y ∧ leastOf x [y, z, t] ≤ z ∧ leastOf x [y, z, t] ≤ t := by
  obtain ⟨h1, h2⟩ := least_le [y, z, t] x
  exact ⟨h1, h2 _ (by simp), h2 _ (by simp), h2 _ (by simp)⟩
theorem greatest4 (x y z t : Rat) : x ≤ greatestOf x [y, z, t] ∧ y ≤ greatestOf x [y, z, t] ∧ z ≤ greatestOf x [y, z, t] ∧ t ≤ greatestOf x [y, z, t] := by
  obtain ⟨h1, h2⟩ := greatest_ge [y, z, t] x
  exact ⟨h1, h2 _ (by simp), h2 _ (by simp), h2 _ (by simp)⟩
theorem least_ge {m x y z t : Rat} (h : m ≤ x ∧ m ≤ y ∧ m ≤ z ∧ m ≤ t) : m ≤ leastOf x [y, z, t] := by
  rcases leastOf_mem [y, z, t] x with e | e
  · rw [e]; exact h.1
  · simp only [List.mem_cons, List.not_mem_nil, or_false] at e
    rcases e with e | e | e <;> rw [e]
    · exact h.2.1
    · exact h.2.2.1
    · exact h.2.2.2
theorem greatest_le {m x y z t : Rat} (h : x ≤ m ∧ y ≤ m ∧ z ≤ m ∧ t ≤ m) : greatestOf x [y, z, t] ≤ m := by
  rcases greatestOf_mem [y, z, t] x with e | e
  · rw [e]; exact h.1
  · simp only [List.mem_cons, List.not_mem_nil, or_false] at e
    rcases e with e | e | e <;> rw [e]
    · exact h.2.1
    · exact h.2.2.1
    · exact h.2.2.2
/-- a product by a fixed number lies between those of the ends -/
theorem mid_mul {p q y k L : Rat} (h1 : p ≤ y) (h2 : y ≤ q) (i1 : L ≤ k * p) (i2 : L ≤ k * q) : L ≤ k * y := by
  rcases Decidable.em (0 ≤ k) with hk | hk
  · exact Rat.le_trans i1 (Rat.mul_le_mul_of_nonneg_left h1 hk)
  · have h3 := Rat.mul_le_mul_of_nonneg_left h2 (show 0 ≤ -k by grind)
    grind
theorem mid_mul' {p q y k G : Rat} (h1 : p ≤ y) (h2 : y ≤ q) (i1 : k * p ≤ G) (i2 : k * q ≤ G) : k * y ≤ G := by
  have := mid_mul (k := -k) (L := -G) h1 h2 (by grind) (by grind)
  grind
theorem prod_low {a b c d x y L : Rat} (hx1 : a ≤ x) (hx2 : x ≤ b) (hy1 : c ≤ y) (hy2 : y ≤ d) (h : L ≤ a * c ∧ L ≤ a * d ∧ L ≤ b * c ∧ L ≤ b * d) : L ≤ x * y := by
  have e1 := mid_mul hy1 hy2 h.1 h.2.1
  have e2 := mid_mul hy1 hy2 h.2.2.1 h.2.2.2
  rw [Rat.mul_comm]
  exact mid_mul hx1 hx2 (by rw [Rat.mul_comm]; exact e1) (by rw [Rat.mul_comm]; exact e2)
theorem prod_high {a b c d x y G : Rat} (hx1 : a ≤ x) (hx2 : x ≤ b) (hy1 : c ≤ y) (hy2 : y ≤ d) (h : a * c ≤ G ∧ a * d ≤ G ∧ b * c ≤ G ∧ b * d ≤ G) : x * y ≤ G := by
  have e1 := mid_mul' hy1 hy2 h.1 h.2.1
  have e2 := mid_mul' hy1 hy2 h.2.2.1 h.2.2.2
  rw [Rat.mul_comm]
  exact mid_mul' hx1 hx2 (by rw [Rat.mul_comm]; exact e1) (by rw [Rat.mul_comm]; exact e2)
/-- the least and the greatest product of ends -/
theorem prod_in {a b c d x y : Rat} (hx : a ≤ x ∧ x ≤ b) (hy : c ≤ y ∧ y ≤ d) : leastOf (a * c) [a * d, b * c, b * d] ≤ x * y ∧ x * y ≤ greatestOf (a * c) [a * d, b * c, b * d] :=
  ⟨prod_low hx.1 hx.2 hy.1 hy.2 (least4 _ _ _ _), prod_high hx.1 hx.2 hy.1 hy.2 (greatest4 _ _ _ _)⟩
theorem prod_inside {a b c d A B : Rat} (hab : a ≤ b) (hcd : c ≤ d) (h1 : A ≤ a) (h2 : b ≤ B) :
    leastOf (A * c) [A * d, B * c, B * d] ≤ leastOf (a * c) [a * d, b * c, b * d] ∧ greatestOf (a * c) [a * d, b * c, b * d] ≤ greatestOf (A * c) [A * d, B * c, B * d] := by
  have ha : A ≤ a ∧ a ≤ B := ⟨h1, Rat.le_trans hab h2⟩
  have hb : A ≤ b ∧ b ≤ B := ⟨Rat.le_trans h1 hab, h2⟩
  have hc : c ≤ c ∧ c ≤ d := ⟨Rat.le_refl, hcd⟩
  have hd : c ≤ d ∧ d ≤ d := ⟨hcd, Rat.le_refl⟩
  exact ⟨least_ge ⟨(prod_in ha hc).1, (prod_in ha hd).1, (prod_in hb hc).1, (prod_in hb hd).1⟩, greatest_le ⟨(prod_in ha hc).2, (prod_in ha hd).2, (prod_in hb hc).2, (prod_in hb hd).2⟩⟩
theorem inv_le_pos {x y : Rat} (hx : 0 < x) (h : x ≤ y) : y⁻¹ ≤ x⁻¹ := by
  have hy : 0 < y := by grind
  have h1 := Rat.inv_pos.2 hx
  have h2 := Rat.inv_pos.2 hy
  have h3 := Rat.mul_le_mul_of_nonneg_left h (Rat.le_of_lt (Rat.mul_pos h1 h2))
  have e1 : x⁻¹ * y⁻¹ * x = y⁻¹ := by
    rw [Rat.mul_comm x⁻¹, Rat.mul_assoc, Rat.inv_mul_cancel x (by intro e; rw [e] at hx; exact absurd hx (by decide)), Rat.mul_one]
  have e2 : x⁻¹ * y⁻¹ * y = x⁻¹ := by
    rw [Rat.mul_assoc, Rat.inv_mul_cancel y (by intro e; rw [e] at hy; exact absurd hy (by decide)), Rat.mul_one]
  rw [e1, e2] at h3; exact h3
theorem inv_between {A B y : Rat} (h0 : ¬ (A ≤ 0 ∧ 0 ≤ B)) (h1 : A ≤ y) (h2 : y ≤ B) : B⁻¹ ≤ y⁻¹ ∧ y⁻¹ ≤ A⁻¹ := by
  rcases Decidable.em (0 < A) with hA | hA
  · exact ⟨inv_le_pos (by grind) h2, inv_le_pos hA h1⟩
  · have hB : B < 0 := by
      rcases Decidable.em (B < 0) with h | h
      · exact h
      · exact absurd ⟨Rat.not_lt.1 hA, Rat.not_lt.1 h⟩ h0
    have i1 := inv_le_pos (x := -B) (y := -y) (by grind) (by grind)
    have i2 := inv_le_pos (x := -y) (y := -A) (by grind) (by grind)
    have e : ∀ z : Rat, (-z)⁻¹ = -(z⁻¹) := fun z => by grind
    rw [e, e] at i1
    rw [e, e] at i2
    constructor <;> grind
theorem quot_in {a b c d x y : Rat} (h0 : ¬ (c ≤ 0 ∧ 0 ≤ d)) (hx : a ≤ x ∧ x ≤ b) (hy : c ≤ y ∧ y ≤ d) : leastOf (a / c) [a / d, b / c, b / d] ≤ x / y ∧ x / y ≤ greatestOf (a / c) [a / d, b / c, b / d] := by
  obtain ⟨i1, i2⟩ := inv_between h0 hy.1 hy.2
  have l4 := least4 (a / c) (a / d) (b / c) (b / d)
  have g4 := greatest4 (a / c) (a / d) (b / c) (b / d)
  simp only [Rat.div_def] at *
  exact ⟨prod_low hx.1 hx.2 i1 i2 ⟨l4.2.1, l4.1, l4.2.2.2, l4.2.2.1⟩, prod_high hx.1 hx.2 i1 i2 ⟨g4.2.1, g4.1, g4.2.2.2, g4.2.2.1⟩⟩
/-- a smaller divisor -/
theorem quot_inside {a b c d A B : Rat} (h0 : ¬ (A ≤ 0 ∧ 0 ≤ B)) (hab : a ≤ b) (hcd : c ≤ d) (h1 : A ≤ a) (h2 : b ≤ B) :
    leastOf (c / A) [c / B, d / A, d / B] ≤ leastOf (c / a) [c / b, d / a, d / b] ∧ greatestOf (c / a) [c / b, d / a, d / b] ≤ greatestOf (c / A) [c / B, d / A, d / B] := by
  have ha : A ≤ a ∧ a ≤ B := ⟨h1, Rat.le_trans hab h2⟩
  have hb : A ≤ b ∧ b ≤ B := ⟨Rat.le_trans h1 hab, h2⟩
  have hc : c ≤ c ∧ c ≤ d := ⟨Rat.le_refl, hcd⟩
  have hd : c ≤ d ∧ d ≤ d := ⟨hcd, Rat.le_refl⟩
  exact ⟨least_ge ⟨(quot_in h0 hc ha).1, (quot_in h0 hc hb).1, (quot_in h0 hd ha).1, (quot_in h0 hd hb).1⟩, greatest_le ⟨(quot_in h0 hc ha).2, (quot_in h0 hc hb).2, (quot_in h0 hd ha).2, (quot_in h0 hd hb).2⟩⟩
theorem abs_two (x : Rat) : (0 ≤ x ∧ x.abs = x) ∨ (x ≤ 0 ∧ x.abs = -x) := by
  unfold Rat.abs
  split
  · left; constructor <;> grind
  · right; constructor <;> grind
theorem least2 (x y : Rat) : leastOf x [y] = if y < x then y else x := rfl
theorem greatest2 (x y : Rat) : greatestOf x [y] = if x < y then y else x := rfl
theorem least3 (x y z : Rat) : leastOf x [y, z] = if z < (if y < x then y else x) then z else (if y < x then y else x) := rfl
theorem greatest3 (x y z : Rat) : greatestOf x [y, z] = if (if x < y then y else x) < z then z else (if x < y then y else x) := rfl
/-- what the box of absolute values is -/
theorem absLo_is {a b : Rat} (h : a ≤ b) : absLo a b = if a ≤ 0 ∧ 0 ≤ b then 0 else if 0 < a then a else -b := by
  have ha := abs_two a
  have hb := abs_two b
  unfold absLo
  rw [least2, least3]
  grind
theorem absHi_is {a b : Rat} (h : a ≤ b) : absHi a b = if -a ≤ b then b else -a := by
  have ha := abs_two a
  have hb := abs_two b
  unfold absHi
  rw [greatest2, greatest3]
  grind
theorem abs_inside {a b A B : Rat} (hab : a ≤ b) (h1 : A ≤ a) (h2 : b ≤ B) : absLo A B ≤ absLo a b ∧ absHi a b ≤ absHi A B := by
  rw [absLo_is hab, absLo_is (show A ≤ B by grind), absHi_is hab, absHi_is (show A ≤ B by grind)]
  constructor <;> grind
theorem abs_in {a b x : Rat} (hab : a ≤ b) (h1 : a ≤ x) (h2 : x ≤ b) : absLo a b ≤ x.abs ∧ x.abs ≤ absHi a b := by
  have hx := abs_two x
  rw [absLo_is hab, absHi_is hab]
  constructor <;> grind
/-- the least box around two -/
theorem hull_is {a b e f A B : Rat} (hab : a ≤ b) (hef : e ≤ f) (hA : leastOf a [b, e, f] = A) (hB : greatestOf a [b, e, f] = B) : A ≤ a ∧ b ≤ B ∧ A ≤ e ∧ f ≤ B ∧ (A = a ∨ A = e) ∧ (B = b ∨ B = f) := by
  have l4 := least4 a b e f
  have g4 := greatest4 a b e f
  have m1 : A = if e < a then e else a := by
    rw [← hA]
    show (if f < (if e < (if b < a then b else a) then e else (if b < a then b else a)) then f else (if e < (if b < a then b else a) then e else (if b < a then b else a))) = _
    grind
  have m2 : B = if b < f then f else b := by
    rw [← hB]
    show (if (if (if a < b then b else a) < e then e else (if a < b then b else a)) < f then f else (if (if a < b then b else a) < e then e else (if a < b then b else a))) = _
    grind
  rw [hA] at l4
  rw [hB] at g4
  refine ⟨l4.1, g4.2.1, l4.2.2.1, g4.2.2.2, ?_, ?_⟩
  · rw [m1]; split <;> simp
  · rw [m2]; split <;> simp
end Go.Proofs.YtlffafddmmhbmaaGreatDoor
namespace Go.Proofs.YtlffafddmmhbmaaGreatDoor
open Go.RowKit
open Vx

theorem i64_small {n : Nat} (h : n ≤ 255) : IntKind.i64.wrap ((n : Nat) : Int) = ((n : Nat) : Int) := by
  unfold IntKind.wrap
  simp [IntKind.bits, IntKind.signed]
  omega
theorem ratio_255 (p : Nat) : (if (255 : Int) = 0 then 0 else mkRat (if (255 : Int) < 0 then -((p : Nat) : Int) else ((p : Nat) : Int)) (255 : Int).natAbs) = mkRat ((p : Nat) : Int) 255 := by
  rw [if_neg (by decide), if_neg (by decide)]; rfl
theorem siz_ratio {p : Nat} (hp : p ≤ 255) : siz (mkRat ((p : Nat) : Int) 255) ≤ 1 := by
  refine Nat.le_trans (siz_mk _ _) ?_
  have h1 : len ((p : Nat) : Int).natAbs ≤ 1 := by
    rw [Int.natAbs_natCast]
    exact len_le (by rw [W_eq]; omega)
  have h2 : len 255 ≤ 1 := len_le (by rw [W_eq]; omega)
  omega

theorem add_q {w : World} {vx vy : Value} {x y q : Rat} (hq : x + y = q) (hx : IsNum w vx x) (hy : IsNum w vy y) (hs : siz x ≤ 34359738368) (ht : siz y ≤ 34359738368) :
    Calls Tryz.prog 14 #[vx, vy] w (NumRet w q) := by rw [← hq]; exact numAdd_any hx hy hs ht
theorem mul_q {w : World} {vx vy : Value} {x y q : Rat} (hq : x * y = q) (hx : IsNum w vx x) (hy : IsNum w vy y) (hs : siz x ≤ 34359738368) (ht : siz y ≤ 34359738368) :
    Calls Tryz.prog 15 #[vx, vy] w (NumRet w q) := by rw [← hq]; exact numMul_any hx hy hs ht

set_option maxRecDepth 100000 in
set_option maxHeartbeats 2000000 in
theorem at_any {w : World} {v : Value} {a b : Rat} {p : Nat} (hv : IsBox w v a b) (hp : p ≤ 255) (sa : siz a ≤ 1073741824) (sb : siz b ≤ 1073741824) :
    Calls Tryz.prog 30 #[v, .int .u8 (p : Nat)] w (NumRet w (a + (b - a) * mkRat ((p : Nat) : Int) 255)) := by
  obtain ⟨A1, c1, A2, c2, A3, c3, A4, c4, rfl, ha, hb⟩ := hv.opened
  obtain ⟨wB, hwB⟩ : ∃ u, u = (w.alloc (.cells #[.bool (decide (a.num < 0)), .slice A1 (len a.num.natAbs) c1, .slice A2 (len (below a.den)) c2, .bool (decide (b.num < 0)), .slice A3 (len b.num.natAbs) c3, .slice A4 (len (below b.den)) c4] 53)).alloc (.cells #[.bool false, .slice none 0 0, .slice none 0 0] 27) := ⟨_, rfl⟩
  obtain ⟨b0, g0, g1⟩ := news2 w (.cells #[.bool (decide (a.num < 0)), .slice A1 (len a.num.natAbs) c1, .slice A2 (len (below a.den)) c2, .bool (decide (b.num < 0)), .slice A3 (len b.num.natAbs) c3, .slice A4 (len (below b.den)) c4] 53) (.cells #[.bool false, .slice none 0 0, .slice none 0 0] 27)
  rw [← hwB] at b0 g0 g1
  have k0 : wB.cell? ⟨w.heap.size, 0, none⟩ = some (.bool (decide (a.num < 0))) := cell_of_row _ _ _ _ _ _ g0
  have k1 : wB.cell? ⟨w.heap.size, 1, none⟩ = some (.slice A1 (len a.num.natAbs) c1) := cell_of_row _ _ _ _ _ _ g0
  have k2 : wB.cell? ⟨w.heap.size, 2, none⟩ = some (.slice A2 (len (below a.den)) c2) := cell_of_row _ _ _ _ _ _ g0
  have k3 : wB.cell? ⟨w.heap.size, 3, none⟩ = some (.bool (decide (b.num < 0))) := cell_of_row _ _ _ _ _ _ g0
  have k4 : wB.cell? ⟨w.heap.size, 4, none⟩ = some (.slice A3 (len b.num.natAbs) c3) := cell_of_row _ _ _ _ _ _ g0
  have k5 : wB.cell? ⟨w.heap.size, 5, none⟩ = some (.slice A4 (len (below b.den)) c4) := cell_of_row _ _ _ _ _ _ g0
  have HK0 := Lib.hid (Kept.start (T := 27) rfl (plain3 _ _ _ _ _ _ _) g1)
  have HB0 := Lib.hid b0
  have hlt1 : w.heap.size < w.heap.size + 1 := by omega
  clear g0 g1 b0
  obtain ⟨f, ef⟩ : ∃ z : Rat, mkRat ((p : Nat) : Int) 255 = z := ⟨_, rfl⟩
  obtain ⟨d, ed⟩ : ∃ z : Rat, b - a = z := ⟨_, rfl⟩
  rw [ef, ed]
  obtain ⟨m, em⟩ : ∃ z : Rat, d * f = z := ⟨_, rfl⟩
  rw [em]
  obtain ⟨q, eq⟩ : ∃ z : Rat, a + m = z := ⟨_, rfl⟩
  rw [eq]
  have zd' : siz d ≤ 2147483649 := by rw [← ed]; exact Nat.le_trans (siz_sub b a) (by omega)
  have zf' : siz f ≤ 1 := by rw [← ef]; exact siz_ratio hp
  have zm' : siz m ≤ 2147483650 := by rw [← em]; exact Nat.le_trans (siz_mul d f) (by omega)
  have zd : Hid (siz d ≤ 34359738368) := Nat.le_trans zd' (by omega)
  have zf : Hid (siz f ≤ 34359738368) := Nat.le_trans zf' (by omega)
  have zm : Hid (siz m ≤ 34359738368) := Nat.le_trans zm' (by omega)
  have za : Hid (siz a ≤ 34359738368) := Nat.le_trans sa (by omega)
  have H1 := fun (w' : World) (hk : Held3 wB (w.heap.size + 1) wB w') => Lib.hid (boxLo_any (IsNum.pair (hk.stay.num (ha.keep HB0.out)) (hk.stay.num (hb.keep HB0.out))) (Nat.le_trans sa (by omega)))
  have H2 := fun (w' : World) (hk : Held3 wB (w.heap.size + 1) wB w') => Lib.hid (boxWidth_any (IsNum.pair (hk.stay.num (ha.keep HB0.out)) (hk.stay.num (hb.keep HB0.out))) (Nat.le_trans sa (by omega)) (Nat.le_trans sb (by omega)))
  rw [ed] at H2
  have H3 := fun (w' : World) => ratio_to (w := w') (a := ((p : Nat) : Int)) (b := 255) (by omega) (by omega) (by omega) (by omega) ((ratio_255 p).trans ef)
  have hp1 : ((p : Nat) : Int) ≤ 255 := by omega
  have hw64 := i64_small hp
  replace em := Lib.hid em
  replace eq := Lib.hid eq
  have H0 := HK0.out.begin
  have H0' := H0
  unfold Held3 at H0'
  clear ed ef zd' zf' zm' hv ha hb sa sb hp
  go_enter Tryz.func30, Tryz.ntmps30
  go_upto_region 1 with fail
  rw [← hwB]
  clear hwB
  go_wp2_with fail
  go_region_held3 (fun w' => (∀ b o, b < w.heap.size + 1 → w'.cell? ⟨b, o, none⟩ = wB.cell? ⟨b, o, none⟩) ∧ w'.cell? ⟨w.heap.size + 1, 0, none⟩ = some (cur w' ⟨w.heap.size + 1, 0, none⟩) ∧ w'.cell? ⟨w.heap.size + 1, 1, none⟩ = some (cur w' ⟨w.heap.size + 1, 1, none⟩) ∧ w'.cell? ⟨w.heap.size + 1, 2, none⟩ = some (cur w' ⟨w.heap.size + 1, 2, none⟩) ∧ w'.frozen? ⟨w.heap.size + 1, 0, none⟩ = false ∧ w'.frozen? ⟨w.heap.size + 1, 1, none⟩ = false ∧ w'.frozen? ⟨w.heap.size + 1, 2, none⟩ = false ∧ Kept 3 27 wB (w.heap.size + 1) w' ∧ Stay wB w')
    (first | with_reducible exact H0' | with_reducible exact hk1' | with_reducible exact hk2' | with_reducible exact hk3' | with_reducible exact hk4' | with_reducible exact hk5' | exact hk5.store)
    (first | (go_at_call 14; refine (add_q eq.out (((hv1.keep hbl2).keep hbl3).keep hbl4) hv4 za.out zm.out).mono ?_; rintro e w5 ⟨v5, rfl, hv5, hbl5⟩; obtain ⟨C9, j9, C10, j10, rfl, -, -⟩ := id hv5.opened; have hk5 := hk4.call hbl5; have hk5' := hk5; unfold Held3 at hk5') | (go_at_call 15; refine (mul_q em.out (hv2.keep hbl3) hv3 zd.out zf.out).mono ?_; rintro e w4 ⟨v4, rfl, hv4, hbl4⟩; obtain ⟨C7, j7, C8, j8, rfl, -, -⟩ := id hv4.opened; have hk4 := hk3.call hbl4; have hk4' := hk4; unfold Held3 at hk4') | (go_at_call 53; refine (H3 _).mono ?_; rintro e w3 ⟨v3, rfl, hv3, hbl3⟩; obtain ⟨C5, j5, C6, j6, rfl, -, -⟩ := id hv3.opened; have hk3 := hk2.call hbl3; have hk3' := hk3; unfold Held3 at hk3') | (go_at_call 50; refine ((H2 _ hk1).out).mono ?_; rintro e w2 ⟨v2, rfl, hv2, hbl2⟩; obtain ⟨C3, j3, C4, j4, rfl, -, -⟩ := id hv2.opened; have hk2 := hk1.call hbl2; have hk2' := hk2; unfold Held3 at hk2') | (go_at_call 40; refine ((H1 _ H0).out).mono ?_; rintro e w1 ⟨v1, rfl, hv1, hbl1⟩; obtain ⟨C1, j1, C2, j2, rfl, -, -⟩ := id hv1.opened; have hk1 := H0.call hbl1; have hk1' := hk1; unfold Held3 at hk1'))
  rename_i hHl
  clear hHl
  have HD := hk5.done (q := q) (b := decide (q.num < 0)) (A1 := C9) (n1 := len q.num.natAbs) (c1 := j9) (A2 := C10) (n2 := len (below q.den)) (c2 := j10) (hv5)
  obtain ⟨d1, d2, d3⟩ := HD
  have r0 := cell_of_row _ _ 0 _ _ _ d3
  have r1 := cell_of_row _ _ 1 _ _ _ d3
  have r2 := cell_of_row _ _ 2 _ _ _ d3
  simp only [List.getElem?_toArray, List.getElem?_cons_zero, List.getElem?_cons_succ] at r0 r1 r2
  have HD := Lib.hid (And.intro d1 d2)
  clear d1 d2 d3
  go_wp2_with fail
  refine bodyPost_ret (v := .agg #[.bool (decide (q.num < 0)), .slice (C9) (len q.num.natAbs) (j9), .slice (C10) (len (below q.den)) (j10)]) ?_ rfl ⟨_, rfl, HD.out.1, below_to HB0.out (by omega) HD.out.2⟩
  simp [results, Tryz.results30, go_sem, r0, r1, r2]
end Go.Proofs.YtlffafddmmhbmaaGreatDoor
namespace Go.Proofs.YtlffafddmmhbmaaGreatDoor
open Go.RowKit
open Vx

theorem parse_siz (s : ByteArray) : siz (parseV s).1 ≤ 4100 := by
  unfold parseV
  split
  · exact Nat.le_trans (show siz 0 ≤ 3 by decide +kernel) (by omega)
  · rename_i h0
    have hsz : s.data.toList.length ≤ 2000 := by
      rw [size_data]; omega
    split
    · exact Nat.le_trans (show siz 0 ≤ 3 by decide +kernel) (by omega)
    · rename_i q hq
      have ht := trim_len s.data.toList [45]
      have c1 := cut_len (Lib.trimPrefix s.data.toList [45]) [47]
      have c2 := cut_len (Lib.trimPrefix s.data.toList [45]) [46]
      unfold parseL at hq
      split at hq
      · split at hq
        · rename_i h1
          obtain rfl := Option.some.inj hq
          refine Nat.le_trans (siz_mk _ _) ?_
          have n1 := len_valL (dig_all (whole_dig h1.1))
          have n2 := len_valL (dig_all (whole_dig h1.2.1))
          rw [sgn_natAbs]
          omega
        · cases hq
      · split at hq
        · rename_i h1 h2
          obtain rfl := Option.some.inj hq
          refine Nat.le_trans (siz_mk _ _) ?_
          have hb : (Lib.cut (Lib.trimPrefix s.data.toList [45]) [46]).2.1.all digC = true := by
            rcases hf : (Lib.cut (Lib.trimPrefix s.data.toList [45]) [46]).2.2 with _ | _
            · rw [cut_none _ _ hf]; rfl
            · exact dig_all (h2.2 hf)
          have hab : ((Lib.cut (Lib.trimPrefix s.data.toList [45]) [46]).1 ++ (Lib.cut (Lib.trimPrefix s.data.toList [45]) [46]).2.1).all digC = true := by
            rw [List.all_append, hb, dig_all (whole_dig h2.1)]; rfl
          have n1 := len_valL hab
          rw [List.length_append] at n1
          have n2 := len_pow_le 10 (Lib.cut (Lib.trimPrefix s.data.toList [45]) [46]).2.1.length
          have n3 : len 10 = 1 := by decide +kernel
          rw [n3] at n2
          rw [sgn_natAbs]
          omega
        · cases hq
theorem add_val {w : World} {vx vy : Value} {x y q : Rat} (hq : x + y = q) (hx : IsNum w vx x) (hy : IsNum w vy y) (hs : siz x ≤ 536870912) (ht : siz y ≤ 536870912) :
    Calls Tryz.prog 14 #[vx, vy] w (NumRet w q) := by rw [← hq]; exact numAdd_any hx hy (Nat.le_trans hs (by omega)) (Nat.le_trans ht (by omega))
theorem sub_val {w : World} {vx vy : Value} {x y q : Rat} (hq : x - y = q) (hx : IsNum w vx x) (hy : IsNum w vy y) (hs : siz x ≤ 536870912) (ht : siz y ≤ 536870912) :
    Calls Tryz.prog 16 #[vx, vy] w (NumRet w q) := by rw [← hq]; exact numSub_any hx hy (Nat.le_trans hs (by omega)) (Nat.le_trans ht (by omega))
theorem mul_val' {w : World} {vx vy : Value} {x y q : Rat} (hq : x * y = q) (hx : IsNum w vx x) (hy : IsNum w vy y) (hs : siz x ≤ 536870912) (ht : siz y ≤ 536870912) :
    Calls Tryz.prog 15 #[vx, vy] w (NumRet w q) := by rw [← hq]; exact numMul_any hx hy (Nat.le_trans hs (by omega)) (Nat.le_trans ht (by omega))
theorem neg_val {w : World} {vx : Value} {x q : Rat} (hq : -x = q) (hx : IsNum w vx x) (hs : siz x ≤ 536870912) :
    Calls Tryz.prog 17 #[vx] w (NumRet w q) := by rw [← hq]; exact numNeg_any hx (Nat.le_trans hs (by omega))
theorem zero_at {q : Rat} (h : q = 0) (w : World) : IsNum w (.agg #[.bool false, .slice none 0 0, .slice none 0 0]) q := by rw [h]; exact zero_num w
theorem Held0.drew {wB wS w : World} {G : Nat} (h : Held0 wB G wS w) (hG : G ≤ wB.heap.size) : Held0 wB G wS w.drew := h.call hG ⟨rfl, rfl, rfl, Nat.le_refl _, fun _ _ => rfl⟩
theorem div_val {w : World} {vx vy : Value} {x y q : Rat} {c : Int} (hq : x / y = q) (hc : (if y = 0 then 10 else 0) = c) (hx : IsNum w vx x) (hy : IsNum w vy y) (hs : siz x ≤ 536870912) (ht : siz y ≤ 536870912) :
    Calls Tryz.prog 19 #[vx, vy] w (NumErrRet w q c) := by rw [← hq, ← hc]; exact numDiv_any hx hy (Nat.le_trans hs (by omega)) (Nat.le_trans ht (by omega))
theorem sign_val {w : World} {vx : Value} {x : Rat} {n : Int} (hn : x.num.sign = n) (hx : IsNum w vx x) : Calls Tryz.prog 20 #[vx] w (IntRet w n) := by rw [← hn]; exact numSign_any hx
theorem cell_keep {w w' : World} {b : Nat} {v : Value} (h : w.cell? ⟨b, 0, none⟩ = some v) (hb : Below w.heap.size w w') : w'.cell? ⟨b, 0, none⟩ = some v := (hb.cell (p := ⟨b, 0, none⟩) (World.block_lt_of_cell? w _ h)).trans h
theorem number_val {w : World} {s : ByteArray} {mx : Int} {q : Rat} (hM : w.cell? ⟨1, 0, none⟩ = some (.int .i64 mx)) (hq : (parseV s).1 = q) :
    Calls Tryz.prog 12 #[.string s] w (NumRet w q) := number_to hM hq

theorem long_three {w : World} {sa sb sc : ByteArray} {r : Bool} (h : [sa, sb, sc].any (fun s => decide (120 < s.size)) = r) :
    Calls Tryz.prog 10 #[.slice (some ⟨w.heap.size, 0, none⟩) 3 3] (w.alloc (.cells #[.string sa, .string sb, .string sc] 9)) (fun e w' => e = .returned (.bool r) ∧ w' = w.alloc (.cells #[.string sa, .string sb, .string sc] 9)) := by
  have hg : (w.alloc (.cells #[.string sa, .string sb, .string sc] 9)).heap[w.heap.size]? = some (.cells #[.string sa, .string sb, .string sc] 9 (0, 0)) := heap_alloc_new w _
  rw [← h]
  refine long_any (l := [sa, sb, sc]) (o := 0) ?_ (by simp)
  intro i s hi
  match i, hi with
  | 0, hi => obtain rfl := Option.some.inj hi; exact cell_of_row _ _ 0 _ _ _ hg
  | 1, hi => obtain rfl := Option.some.inj hi; exact cell_of_row _ _ 1 _ _ _ hg
  | 2, hi => obtain rfl := Option.some.inj hi; exact cell_of_row _ _ 2 _ _ _ hg
  | _ + 3, hi => exact absurd hi (by simp)
end Go.Proofs.YtlffafddmmhbmaaGreatDoor
