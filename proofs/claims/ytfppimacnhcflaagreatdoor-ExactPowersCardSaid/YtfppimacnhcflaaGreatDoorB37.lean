/-
  Contracts of the functions that the law calls, for every input (Sg Sh Si Ta Tb Tc).
-/
import Derived.Test.YtfppimacnhcflaaGreatDoorB36
import Derived.Test.YtfppimacnhcflaaGreatDoorB31
import Derived.Test.YtfppimacnhcflaaGreatDoorB35
import Derived.Test.YtfppimacnhcflaaGreatDoorB19
import Derived.Test.YtfppimacnhcflaaGreatDoorB32
set_option linter.all false
namespace Go.Proofs.YtfppimacnhcflaaGreatDoor.Rf
open Go.RowKit
open Rx
open Lib (hid)
open List renaming getElem?_toArray → lg, getElem?_cons_zero → lz, getElem?_cons_succ → ls, setIfInBounds_toArray → lt, set_cons_zero → ly, set_cons_succ → lu

theorem rat_add {p q : Rat} {m : Bool} {T : Nat} (h : (if m = true then -((T : Nat) : Int) else ((T : Nat) : Int)) = p.num * q.den + q.num * p.den) : rat m T (p.den * q.den) = p + q := by
  unfold rat
  rw [h]
  conv => rhs; rw [← Rat.mkRat_self p, ← Rat.mkRat_self q, Rat.mkRat_add_mkRat _ _ p.den_nz q.den_nz]
theorem add_three (p q : Rat) :
    (decide (p.num < 0) = decide (q.num < 0) → rat (decide (p.num < 0)) (p.num.natAbs * q.den + q.num.natAbs * p.den) (p.den * q.den) = p + q) ∧
    (decide (p.num < 0) ≠ decide (q.num < 0) → q.num.natAbs * p.den ≤ p.num.natAbs * q.den → rat (decide (p.num < 0)) (p.num.natAbs * q.den - q.num.natAbs * p.den) (p.den * q.den) = p + q) ∧
    (decide (p.num < 0) ≠ decide (q.num < 0) → p.num.natAbs * q.den < q.num.natAbs * p.den → rat (decide (q.num < 0)) (q.num.natAbs * p.den - p.num.natAbs * q.den) (p.den * q.den) = p + q) := by
  have e1 : p.num * (q.den : Int) = if decide (p.num < 0) = true then -((p.num.natAbs * q.den : Nat) : Int) else ((p.num.natAbs * q.den : Nat) : Int) := by
    by_cases k : p.num < 0
    · rw [if_pos (decide_eq_true k), Int.natCast_mul, ← Int.neg_mul]; congr 1; omega
    · rw [if_neg (by rw [decide_eq_false k]; decide), Int.natCast_mul]; congr 1; omega
  have e2 : q.num * (p.den : Int) = if decide (q.num < 0) = true then -((q.num.natAbs * p.den : Nat) : Int) else ((q.num.natAbs * p.den : Nat) : Int) := by
    by_cases k : q.num < 0
    · rw [if_pos (decide_eq_true k), Int.natCast_mul, ← Int.neg_mul]; congr 1; omega
    · rw [if_neg (by rw [decide_eq_false k]; decide), Int.natCast_mul]; congr 1; omega
  refine ⟨fun h => rat_add ?_, fun h k => rat_add ?_, fun h k => rat_add ?_⟩
  all_goals
    rw [e1, e2]
    generalize p.num.natAbs * q.den = X at *
    generalize q.num.natAbs * p.den = Y at *
    generalize decide (p.num < 0) = b at *
    generalize decide (q.num < 0) = d at *
    cases b <;> cases d <;> simp at h ⊢ <;> omega

set_option maxRecDepth 100000 in
set_option maxHeartbeats 8000000 in
theorem addR_any {w : World} {vx vy : Value} {p q r : Rat} (hr : p + q = r) (hx : IsRat w vx p) (hy : IsRat w vy q) (s1 : len p.num.natAbs ≤ 1073741824) (s2 : len p.den ≤ 1073741824) (s3 : len q.num.natAbs ≤ 1073741824) (s4 : len q.den ≤ 1073741824) : Calls Tryz.prog 24 #[vx, vy] w (RatRet w r) := by
  obtain ⟨A1, c1, A2, c2, rfl, h1, h2⟩ := hx.opened
  obtain ⟨A3, c3, A4, c4, rfl, h3, h4⟩ := hy.opened
  obtain ⟨g1, g2, g3⟩ := add_three p q
  rw [hr] at g1 g2 g3
  have hpos : 0 < p.den * q.den := Nat.mul_pos p.den_pos q.den_pos
  obtain ⟨b, hb⟩ : ∃ b, decide (p.num < 0) = b := ⟨_, rfl⟩
  obtain ⟨d, hd⟩ : ∃ b, decide (q.num < 0) = b := ⟨_, rfl⟩
  obtain ⟨N, hN⟩ : ∃ N, p.num.natAbs = N := ⟨_, rfl⟩
  obtain ⟨D, hD⟩ : ∃ N, p.den = N := ⟨_, rfl⟩
  obtain ⟨M, hM⟩ : ∃ N, q.num.natAbs = N := ⟨_, rfl⟩
  obtain ⟨E, hE⟩ : ∃ N, q.den = N := ⟨_, rfl⟩
  rw [hb, hd, hN, hD, hM, hE] at g1 g2
  rw [hb, hd, hN, hD, hM, hE] at g3
  rw [hN] at h1 s1
  rw [hD] at h2 s2
  rw [hM] at h3 s3
  rw [hE] at h4 s4
  rw [hD, hE] at hpos
  rw [hb, hd, hN, hD, hM, hE]
  obtain ⟨n1, hn1⟩ : ∃ m, len N = m := ⟨_, rfl⟩
  obtain ⟨n2, hn2⟩ : ∃ m, len D = m := ⟨_, rfl⟩
  obtain ⟨n3, hn3⟩ : ∃ m, len M = m := ⟨_, rfl⟩
  obtain ⟨n4, hn4⟩ : ∃ m, len E = m := ⟨_, rfl⟩
  have t1 := len_mul_le N E
  have t2 := len_mul_le M D
  have t3 := len_mul_le D E
  have HT1 := fun (u : World) (hu : Below w.heap.size w u) => times_any (w := u) (h1.keep hu) (h4.keep hu) (by omega) (by omega)
  have HT2 := fun (u : World) (hu : Below w.heap.size w u) => times_any (w := u) (h3.keep hu) (h2.keep hu) (by omega) (by omega)
  have HT3 := fun (u : World) (hu : Below w.heap.size w u) => times_any (w := u) (h2.keep hu) (h4.keep hu) (by omega) (by omega)
  have u1' : len (N * E) ≤ 4294967296 := by omega
  have u2' : len (M * D) ≤ 4294967296 := by omega
  have u3' : len (D * E) ≤ 68719476736 := by omega
  obtain ⟨X, hX⟩ : ∃ X, N * E = X := ⟨_, rfl⟩
  obtain ⟨Y, hY⟩ : ∃ X, M * D = X := ⟨_, rfl⟩
  obtain ⟨Z, hZ⟩ : ∃ X, D * E = X := ⟨_, rfl⟩
  rw [hX] at HT1 u1' g1 g2 g3
  rw [hY] at HT2 u2' g1 g2 g3
  rw [hZ] at HT3 u3' hpos g1 g2 g3
  have u4' : len (X + Y) ≤ 68719476736 := by have := len_add_le X Y; omega
  have u5' : len (X - Y) ≤ 68719476736 := Nat.le_trans (len_mono (Nat.sub_le _ _)) (by omega)
  have u6' : len (Y - X) ≤ 68719476736 := Nat.le_trans (len_mono (Nat.sub_le _ _)) (by omega)
  rw [hn1, hn2, hn3, hn4]
  rw [hn1, hn4] at HT1
  rw [hn3, hn2] at HT2
  rw [hn2, hn4] at HT3
  replace HT1 := hid HT1
  replace HT2 := hid HT2
  replace HT3 := hid HT3
  replace u1' := hid u1'
  replace u2' := hid u2'
  replace u3' := hid u3'
  replace u4' := hid u4'
  replace u5' := hid u5'
  replace u6' := hid u6'
  replace g1 := hid g1
  replace g2 := hid g2
  replace g3 := hid g3
  replace hpos := hid hpos
  clear hb hd hN hD hM hE hn1 hn2 hn3 hn4 t1 t2 t3 hX hY hZ h1 h2 h3 h4 s1 s2 s3 s4 hr hx hy
  obtain ⟨wB, hwB⟩ : ∃ u, u = ((w.alloc (.cells #[.bool b, .slice A1 n1 c1, .slice A2 n2 c2] 33)).alloc (.cells #[.bool d, .slice A3 n3 c3, .slice A4 n4 c4] 33)).alloc (.cells #[.bool false, .slice none 0 0, .slice none 0 0] 33) := ⟨_, rfl⟩
  obtain ⟨R, hR⟩ : ∃ R, w.heap.size = R := ⟨_, rfl⟩
  obtain ⟨wA, b0, hsA, bA, hRB, k0, k1, k2, j0, j1, j2⟩ := box_res3 hR _ hwB
  have hS := hid (fun (u : World) (hu : RB wA (R + 2) u) (b o : Nat) (hb : b < R + 2) => hu.1.cell (p := ⟨b, o, none⟩) hb)
  have hRA := hid (fun (u : World) (hu : RB wA (R + 2) u) => chain b0 (show Below wA.heap.size wA u by rw [hsA]; exact hu.1))
  obtain ⟨u0, hu0⟩ : ∃ u, u = wB.drew := ⟨_, rfl⟩
  have hB0 := hid (show RB wA (R + 2) u0 by rw [hu0]; exact hRB.call (below_drew wB))
  have HA := hid (HT1.out u0 (hRA.out u0 hB0.out))
  have hRF := hid (fun (u : World) (hu : Below (R + 2) wA u) => chain b0 (show Below wA.heap.size wA u by rw [hsA]; exact hu))
  clear hRB bA HT1 hsA b0
  go_enter Tryz.func24, Tryz.ntmps24
  go_upto_region 1 with fail
  rw [← hwB]
  replace hR := hid hR
  clear hwB
  refine wp_region_held_drew (S := (fun w' => (∀ b o, b < R + 2 → w'.cell? ⟨b, o, none⟩ = wA.cell? ⟨b, o, none⟩))) (by kernel_rfl) ?_ (fun hHeld => ?_)
  · (try dsimp only)
    rw [← hu0]
    exact hS.out _ hB0.out
  rw [← hu0] at hHeld ⊢
  clear hu0
  refine tk (i := 0) (h := ?_)
  try simp only [Act.put, lt, ly, lu]
  refine tk (i := 1) (h := ?_)
  try simp only [Act.put, lt, ly, lu]
  refine tk (i := 2) (h := ?_)
  try simp only [Act.put, lt, ly, lu]
  refine tk (i := 3) (h := ?_)
  try simp only [Act.put, lt, ly, lu]
  refine tk (i := 5) (h := ?_)
  try simp only [Act.put, lt, ly, lu]
  refine tk (i := 6) (h := ?_)
  try simp only [Act.put, lt, ly, lu]
  refine tk (i := 7) (h := ?_)
  try simp only [Act.put, lt, ly, lu]
  refine tk (i := 8) (h := ?_)
  try simp only [Act.put, lt, ly, lu]
  refine tk (i := 10) (h := ?_)
  try simp only [Act.put, lt, ly, lu]
  refine tk (i := 11) (h := ?_)
  try simp only [Act.put, lt, ly, lu]
  refine tk (i := 12) (h := ?_)
  try simp only [Act.put, lt, ly, lu]
  refine tk (i := 13) (h := ?_)
  try simp only [Act.put, lt, ly, lu]
  refine wpAnyH_ready (rs := [4]) (by kernel_rfl) (by simp) (AllReadyH.cons (o := ?o4) ?e4 ?k4 AllReadyH.nil)
  case e4 => simp only [lg, lz, ls]; rfl
  intro K hK
  go_simp; go_at_call 106
  refine (HA.out).mono ?_
  rintro e w1 ⟨v1, rfl, hv1, b1⟩
  obtain ⟨BX, eX, rfl, -, -, -, -⟩ := id hv1
  replace hv1 := hid hv1

  have hB1 := hid (hB0.out.call b1)
  clear HA b1
  refine hK.out _ _ ?_ (fun hHeld2 => ?_)
  · (try dsimp only)
    exact hS.out _ hB1.out
  clear hK K hHeld
  try simp only [Act.put, lt, ly, lu]
  have hHeld := hHeld2
  clear hHeld2
  have HB := hid (HT2.out w1 (hRA.out w1 hB1.out))
  clear HT2
  refine wpAnyH_ready (rs := [9]) (by kernel_rfl) (by simp) (AllReadyH.cons (o := ?o9) ?e9 ?k9 AllReadyH.nil)
  case e9 => simp only [lg, lz, ls]; rfl
  intro K hK
  go_simp; go_at_call 106
  refine (HB.out).mono ?_
  rintro e w2 ⟨v2, rfl, hv2, b2⟩
  obtain ⟨BY, eY, rfl, -, -, -, -⟩ := id hv2
  replace hv2 := hid hv2

  have hB2 := hid (hB1.out.call b2)
  have hvX2 := hid (hv1.out.keep b2)
  clear HB b2 hv1
  refine hK.out _ _ ?_ (fun hHeld2 => ?_)
  · (try dsimp only)
    exact hS.out _ hB2.out
  clear hK K hHeld
  try simp only [Act.put, lt, ly, lu]
  have hHeld := hHeld2
  clear hHeld2
  have HC := hid (HT3.out w2 (hRA.out w2 hB2.out))
  clear HT3
  refine wpAnyH_ready (rs := [14]) (by kernel_rfl) (by simp) (AllReadyH.cons (o := ?o14) ?e14 ?k14 AllReadyH.nil)
  case e14 => simp only [lg, lz, ls]; rfl
  intro K hK
  go_simp; go_at_call 106
  refine (HC.out).mono ?_
  rintro e w3 ⟨v3, rfl, hvZ, b3⟩
  obtain ⟨BZ, eZ, rfl, -, -, -, -⟩ := id hvZ
  replace hvZ := hid hvZ

  have hB3 := hid (hB2.out.call b3)
  have hvX := hid (hvX2.out.keep b3)
  have hvY := hid (hv2.out.keep b3)
  clear HC b3 hvX2 hv2
  refine hK.out _ _ ?_ (fun hHeld2 => ?_)
  · (try dsimp only)
    exact hS.out _ hB3.out
  clear hK K hHeld
  try simp only [Act.put, lt, ly, lu]
  have hHeld := hHeld2
  clear hHeld2
  refine tk (i := 15) (h := ?_)
  try simp only [Act.put, lt, ly, lu]
  refine tk (i := 16) (h := ?_)
  try simp only [Act.put, lt, ly, lu]
  refine tk (i := 17) (h := ?_)
  try simp only [Act.put, lt, ly, lu]
  refine wpAnyH_done (by kernel_rfl) ?_ _
  clear hHeld
  obtain ⟨lX, hlX⟩ : ∃ m, len X = m := ⟨_, rfl⟩
  obtain ⟨lY, hlY⟩ : ∃ m, len Y = m := ⟨_, rfl⟩
  obtain ⟨lZ, hlZ⟩ : ∃ m, len Z = m := ⟨_, rfl⟩
  rw [hlX, hlY, hlZ]
  rw [hlX] at hvX
  rw [hlY] at hvY
  rw [hlZ] at hvZ
  have kk0 : w3.cell? ⟨R, 0, none⟩ = some (.bool b) := (hS.out _ hB3.out R 0 (by omega)).trans k0
  have kk1 : w3.cell? ⟨R + 1, 0, none⟩ = some (.bool d) := (hS.out _ hB3.out (R + 1) 0 (by omega)).trans j0
  replace hlX := hid hlX
  replace hlY := hid hlY
  replace hlZ := hid hlZ
  by_cases hbd : b = d
  · subst hbd
    have hrt := hid (g1.out rfl)
    clear g2 g3 g1
    go_wp2_with fail
    have hB4 := hid (hB3.out.call (below_drew w3))
    obtain ⟨u4, hu4⟩ : ∃ u, u = w3.drew := ⟨_, rfl⟩
    rw [← hu4] at hB4
    have bd : Below w3.heap.size w3 u4 := by rw [hu4]; exact below_drew w3
    have HP := hid (plus_any (hvX.out.keep bd) (hvY.out.keep bd) (Nat.le_trans u1'.out (by decide)) (Nat.le_trans u2'.out (by decide)))
    have hvZ4 := hid (hvZ.out.keep bd)
    clear bd kk0 kk1
    refine wp_region_held_drew (S := (fun w' => (∀ b o, b < R + 2 → w'.cell? ⟨b, o, none⟩ = wA.cell? ⟨b, o, none⟩))) (by kernel_rfl) ?_ (fun hHeld => ?_)
    · (try dsimp only)
      rw [← hu4]
      exact hS.out _ hB4.out
    rw [← hu4] at hHeld ⊢
    clear hu4
    refine tk (i := 0) (h := ?_)
    try simp only [Act.put, lt, ly, lu]
    refine tk (i := 1) (h := ?_)
    try simp only [Act.put, lt, ly, lu]
    refine tk (i := 2) (h := ?_)
    try simp only [Act.put, lt, ly, lu]
    refine tk (i := 3) (h := ?_)
    try simp only [Act.put, lt, ly, lu]
    refine tk (i := 5) (h := ?_)
    try simp only [Act.put, lt, ly, lu]
    refine wpAnyH_ready (rs := [4]) (by kernel_rfl) (by simp) (AllReadyH.cons (o := ?o4x1) ?e4x1 ?k4x1 AllReadyH.nil)
    case e4x1 => simp only [lg, lz, ls]; rfl
    intro K hK
    go_simp; go_at_call 108
    refine (HP.out).mono ?_
    rintro e w5 ⟨v5, rfl, hv5, b5⟩
    obtain ⟨B5, e5, rfl, -, -, -, -⟩ := id hv5
    replace hv5 := hid hv5

    have hB5 := hid (hB4.out.call b5)
    have hvZ5 := hid (hvZ4.out.keep b5)
    clear HP b5 hvZ4
    refine hK.out _ _ ?_ (fun hHeld2 => ?_)
    · (try dsimp only)
      exact hS.out _ hB5.out
    clear hK K hHeld
    try simp only [Act.put, lt, ly, lu]
    have hHeld := hHeld2
    clear hHeld2
    have HM := hid (make_any hrt.out hv5.out hvZ5.out hpos.out u4'.out u3'.out)
    refine wpAnyH_ready (rs := [6]) (by kernel_rfl) (by simp) (AllReadyH.cons (o := ?o6x1) ?e6x1 ?k6x1 AllReadyH.nil)
    case e6x1 => simp only [lg, lz, ls]; rfl
    intro K hK
    go_simp; go_at_call 107
    refine (HM.out).mono ?_
    rintro e w6 ⟨v6, rfl, hv6, b6⟩
    obtain ⟨B3, e3, B4, e4, rfl, g1, g2⟩ := hv6.opened
    replace g1 := hid g1
    replace g2 := hid g2

    have hB6 := hid (hB5.out.call b6)
    clear HM b6 hv5 hv6 hvZ5
    refine hK.out _ _ ?_ (fun hHeld2 => ?_)
    · (try dsimp only)
      exact hS.out _ hB6.out
    clear hK K hHeld
    try simp only [Act.put, lt, ly, lu]
    have hHeld := hHeld2
    clear hHeld2
    obtain ⟨sb, hsb⟩ : ∃ b, decide (r.num < 0) = b := ⟨_, rfl⟩
    obtain ⟨m1, hm1⟩ : ∃ b, len r.num.natAbs = b := ⟨_, rfl⟩
    obtain ⟨m2, hm2⟩ : ∃ b, len r.den = b := ⟨_, rfl⟩
    rw [hm1] at g1 ⊢
    rw [hm2] at g2 ⊢
    rw [hsb]
    obtain ⟨hbF, ⟨r0, r1, r2⟩, hkF⟩ := (hB6.out).store (b := sb) (A := B3) (n := m1) (c := e3) (A' := B4) (n' := m2) (c' := e4) _ rfl
    obtain ⟨x0, x1, x2, ⟨l0, l1, l2⟩, f0, f1, f2⟩ := (hB6.out).cells
    have FIN := hid (show IsRat _ (.agg #[.bool sb, .slice B3 m1 e3, .slice B4 m2 e4]) r from ⟨_, _, by rw [hsb], hkF _ _ g1.out, hkF _ _ g2.out⟩)
    have FB := hid hbF
    replace hsb := hid hsb
    replace hm1 := hid hm1
    replace hm2 := hid hm2
    have hcells := hid (fun (b o : Nat) (hb : b < R + 2) => FB.out.cell (p := ⟨b, o, none⟩) hb)
    clear hkF hbF
    refine wpAnyH_ready (rs := [7]) (by kernel_rfl) (by simp) (AllReadyH.cons (o := ?oSx1) ?eSx1 ?kSx1 AllReadyH.nil)
    case eSx1 => simp only [lg, lz, ls]; rfl
    intro K hK
    go_simp
    refine hK.out _ _ ?_ (fun hHeld2 => ?_)
    · (try dsimp only)
      exact hcells.out
    clear hK K hHeld hHeld2
    try simp only [Act.put, lt, ly, lu]
    refine wpAnyH_done (by kernel_rfl) ?_ _
    go_wp2_with fail
    refine bodyPost_ret (v := .agg #[.bool sb, .slice B3 m1 e3, .slice B4 m2 e4]) ?_ rfl ⟨_, rfl, FIN.out, hRF.out _ FB.out⟩
    simp [results, Tryz.results24, go_sem, r0, r1, r2]
  · have hne : (b == d) = false := by rw [beq_eq_false_iff_ne]; exact hbd
    rcases Nat.lt_or_ge X Y with hXY | hXY
    · have hrt := hid (g3.out hbd hXY)
      have hge := cmpN_ngt hXY
      have HK := hid (compare_any hvX.out hvY.out (Nat.le_trans u1'.out (by decide)) (Nat.le_trans u2'.out (by decide)))
      obtain ⟨cc, hcc⟩ : ∃ c, cmpN X Y = c := ⟨_, rfl⟩
      rw [hcc] at HK hge
      have hXY9 := hid hXY
      clear g1 g2 g3 hcc hXY
      replace hbd := hid hbd
      go_wp2_with fail
      refine (HK.out).mono ?_
      rintro e w9 ⟨rfl, rfl⟩
      clear HK
      go_wp2_with fail
      have hB4 := hid (hB3.out.call (below_drew w3))
      obtain ⟨u4, hu4⟩ : ∃ u, u = w3.drew := ⟨_, rfl⟩
      rw [← hu4] at hB4
      have bd : Below w3.heap.size w3 u4 := by rw [hu4]; exact below_drew w3
      have HP := hid (minus_any (hvY.out.keep bd) (hvX.out.keep bd) (Nat.le_of_lt hXY9.out) (Nat.le_trans u2'.out (by decide)))
      have hvZ4 := hid (hvZ.out.keep bd)
      clear bd kk0 kk1
      refine wp_region_held_drew (S := (fun w' => (∀ b o, b < R + 2 → w'.cell? ⟨b, o, none⟩ = wA.cell? ⟨b, o, none⟩))) (by kernel_rfl) ?_ (fun hHeld => ?_)
      · (try dsimp only)
        rw [← hu4]
        exact hS.out _ hB4.out
      rw [← hu4] at hHeld ⊢
      clear hu4
      refine tk (i := 0) (h := ?_)
      try simp only [Act.put, lt, ly, lu]
      refine tk (i := 1) (h := ?_)
      try simp only [Act.put, lt, ly, lu]
      refine tk (i := 2) (h := ?_)
      try simp only [Act.put, lt, ly, lu]
      refine tk (i := 3) (h := ?_)
      try simp only [Act.put, lt, ly, lu]
      refine tk (i := 5) (h := ?_)
      try simp only [Act.put, lt, ly, lu]
      refine wpAnyH_ready (rs := [4]) (by kernel_rfl) (by simp) (AllReadyH.cons (o := ?o4x2) ?e4x2 ?k4x2 AllReadyH.nil)
      case e4x2 => simp only [lg, lz, ls]; rfl
      intro K hK
      go_simp; go_at_call 109
      refine (HP.out).mono ?_
      rintro e w5 ⟨v5, rfl, hv5, b5⟩
      obtain ⟨B5, e5, rfl, -, -, -, -⟩ := id hv5
      replace hv5 := hid hv5

      have hB5 := hid (hB4.out.call b5)
      have hvZ5 := hid (hvZ4.out.keep b5)
      clear HP b5 hvZ4
      refine hK.out _ _ ?_ (fun hHeld2 => ?_)
      · (try dsimp only)
        exact hS.out _ hB5.out
      clear hK K hHeld
      try simp only [Act.put, lt, ly, lu]
      have hHeld := hHeld2
      clear hHeld2
      have HM := hid (make_any hrt.out hv5.out hvZ5.out hpos.out u6'.out u3'.out)
      refine wpAnyH_ready (rs := [6]) (by kernel_rfl) (by simp) (AllReadyH.cons (o := ?o6x2) ?e6x2 ?k6x2 AllReadyH.nil)
      case e6x2 => simp only [lg, lz, ls]; rfl
      intro K hK
      go_simp; go_at_call 107
      refine (HM.out).mono ?_
      rintro e w6 ⟨v6, rfl, hv6, b6⟩
      obtain ⟨B3, e3, B4, e4, rfl, g1, g2⟩ := hv6.opened
      replace g1 := hid g1
      replace g2 := hid g2

      have hB6 := hid (hB5.out.call b6)
      clear HM b6 hv5 hv6 hvZ5
      refine hK.out _ _ ?_ (fun hHeld2 => ?_)
      · (try dsimp only)
        exact hS.out _ hB6.out
      clear hK K hHeld
      try simp only [Act.put, lt, ly, lu]
      have hHeld := hHeld2
      clear hHeld2
      obtain ⟨sb, hsb⟩ : ∃ b, decide (r.num < 0) = b := ⟨_, rfl⟩
      obtain ⟨m1, hm1⟩ : ∃ b, len r.num.natAbs = b := ⟨_, rfl⟩
      obtain ⟨m2, hm2⟩ : ∃ b, len r.den = b := ⟨_, rfl⟩
      rw [hm1] at g1 ⊢
      rw [hm2] at g2 ⊢
      rw [hsb]
      obtain ⟨hbF, ⟨r0, r1, r2⟩, hkF⟩ := (hB6.out).store (b := sb) (A := B3) (n := m1) (c := e3) (A' := B4) (n' := m2) (c' := e4) _ rfl
      obtain ⟨x0, x1, x2, ⟨l0, l1, l2⟩, f0, f1, f2⟩ := (hB6.out).cells
      have FIN := hid (show IsRat _ (.agg #[.bool sb, .slice B3 m1 e3, .slice B4 m2 e4]) r from ⟨_, _, by rw [hsb], hkF _ _ g1.out, hkF _ _ g2.out⟩)
      have FB := hid hbF
      replace hsb := hid hsb
      replace hm1 := hid hm1
      replace hm2 := hid hm2
      have hcells := hid (fun (b o : Nat) (hb : b < R + 2) => FB.out.cell (p := ⟨b, o, none⟩) hb)
      clear hkF hbF
      refine wpAnyH_ready (rs := [7]) (by kernel_rfl) (by simp) (AllReadyH.cons (o := ?oSx2) ?eSx2 ?kSx2 AllReadyH.nil)
      case eSx2 => simp only [lg, lz, ls]; rfl
      intro K hK
      go_simp
      refine hK.out _ _ ?_ (fun hHeld2 => ?_)
      · (try dsimp only)
        exact hcells.out
      clear hK K hHeld hHeld2
      try simp only [Act.put, lt, ly, lu]
      refine wpAnyH_done (by kernel_rfl) ?_ _
      go_wp2_with fail
      refine bodyPost_ret (v := .agg #[.bool sb, .slice B3 m1 e3, .slice B4 m2 e4]) ?_ rfl ⟨_, rfl, FIN.out, hRF.out _ FB.out⟩
      simp [results, Tryz.results24, go_sem, r0, r1, r2]
    · have hrt := hid (g2.out hbd hXY)
      have hge := cmpN_ge hXY
      have HK := hid (compare_any hvX.out hvY.out (Nat.le_trans u1'.out (by decide)) (Nat.le_trans u2'.out (by decide)))
      obtain ⟨cc, hcc⟩ : ∃ c, cmpN X Y = c := ⟨_, rfl⟩
      rw [hcc] at HK hge
      have hXY9 := hid hXY
      clear g1 g2 g3 hcc hXY
      replace hbd := hid hbd
      go_wp2_with fail
      refine (HK.out).mono ?_
      rintro e w9 ⟨rfl, rfl⟩
      clear HK
      go_wp2_with fail
      have hB4 := hid (hB3.out.call (below_drew w3))
      obtain ⟨u4, hu4⟩ : ∃ u, u = w3.drew := ⟨_, rfl⟩
      rw [← hu4] at hB4
      have bd : Below w3.heap.size w3 u4 := by rw [hu4]; exact below_drew w3
      have HP := hid (minus_any (hvX.out.keep bd) (hvY.out.keep bd) hXY9.out (Nat.le_trans u1'.out (by decide)))
      have hvZ4 := hid (hvZ.out.keep bd)
      clear bd kk0 kk1
      refine wp_region_held_drew (S := (fun w' => (∀ b o, b < R + 2 → w'.cell? ⟨b, o, none⟩ = wA.cell? ⟨b, o, none⟩))) (by kernel_rfl) ?_ (fun hHeld => ?_)
      · (try dsimp only)
        rw [← hu4]
        exact hS.out _ hB4.out
      rw [← hu4] at hHeld ⊢
      clear hu4
      refine tk (i := 0) (h := ?_)
      try simp only [Act.put, lt, ly, lu]
      refine tk (i := 1) (h := ?_)
      try simp only [Act.put, lt, ly, lu]
      refine tk (i := 2) (h := ?_)
      try simp only [Act.put, lt, ly, lu]
      refine tk (i := 3) (h := ?_)
      try simp only [Act.put, lt, ly, lu]
      refine tk (i := 5) (h := ?_)
      try simp only [Act.put, lt, ly, lu]
      refine wpAnyH_ready (rs := [4]) (by kernel_rfl) (by simp) (AllReadyH.cons (o := ?o4x3) ?e4x3 ?k4x3 AllReadyH.nil)
      case e4x3 => simp only [lg, lz, ls]; rfl
      intro K hK
      go_simp; go_at_call 109
      refine (HP.out).mono ?_
      rintro e w5 ⟨v5, rfl, hv5, b5⟩
      obtain ⟨B5, e5, rfl, -, -, -, -⟩ := id hv5
      replace hv5 := hid hv5

      have hB5 := hid (hB4.out.call b5)
      have hvZ5 := hid (hvZ4.out.keep b5)
      clear HP b5 hvZ4
      refine hK.out _ _ ?_ (fun hHeld2 => ?_)
      · (try dsimp only)
        exact hS.out _ hB5.out
      clear hK K hHeld
      try simp only [Act.put, lt, ly, lu]
      have hHeld := hHeld2
      clear hHeld2
      have HM := hid (make_any hrt.out hv5.out hvZ5.out hpos.out u5'.out u3'.out)
      refine wpAnyH_ready (rs := [6]) (by kernel_rfl) (by simp) (AllReadyH.cons (o := ?o6x3) ?e6x3 ?k6x3 AllReadyH.nil)
      case e6x3 => simp only [lg, lz, ls]; rfl
      intro K hK
      go_simp; go_at_call 107
      refine (HM.out).mono ?_
      rintro e w6 ⟨v6, rfl, hv6, b6⟩
      obtain ⟨B3, e3, B4, e4, rfl, g1, g2⟩ := hv6.opened
      replace g1 := hid g1
      replace g2 := hid g2

      have hB6 := hid (hB5.out.call b6)
      clear HM b6 hv5 hv6 hvZ5
      refine hK.out _ _ ?_ (fun hHeld2 => ?_)
      · (try dsimp only)
        exact hS.out _ hB6.out
      clear hK K hHeld
      try simp only [Act.put, lt, ly, lu]
      have hHeld := hHeld2
      clear hHeld2
      obtain ⟨sb, hsb⟩ : ∃ b, decide (r.num < 0) = b := ⟨_, rfl⟩
      obtain ⟨m1, hm1⟩ : ∃ b, len r.num.natAbs = b := ⟨_, rfl⟩
      obtain ⟨m2, hm2⟩ : ∃ b, len r.den = b := ⟨_, rfl⟩
      rw [hm1] at g1 ⊢
      rw [hm2] at g2 ⊢
      rw [hsb]
      obtain ⟨hbF, ⟨r0, r1, r2⟩, hkF⟩ := (hB6.out).store (b := sb) (A := B3) (n := m1) (c := e3) (A' := B4) (n' := m2) (c' := e4) _ rfl
      obtain ⟨x0, x1, x2, ⟨l0, l1, l2⟩, f0, f1, f2⟩ := (hB6.out).cells
      have FIN := hid (show IsRat _ (.agg #[.bool sb, .slice B3 m1 e3, .slice B4 m2 e4]) r from ⟨_, _, by rw [hsb], hkF _ _ g1.out, hkF _ _ g2.out⟩)
      have FB := hid hbF
      replace hsb := hid hsb
      replace hm1 := hid hm1
      replace hm2 := hid hm2
      have hcells := hid (fun (b o : Nat) (hb : b < R + 2) => FB.out.cell (p := ⟨b, o, none⟩) hb)
      clear hkF hbF
      refine wpAnyH_ready (rs := [7]) (by kernel_rfl) (by simp) (AllReadyH.cons (o := ?oSx3) ?eSx3 ?kSx3 AllReadyH.nil)
      case eSx3 => simp only [lg, lz, ls]; rfl
      intro K hK
      go_simp
      refine hK.out _ _ ?_ (fun hHeld2 => ?_)
      · (try dsimp only)
        exact hcells.out
      clear hK K hHeld hHeld2
      try simp only [Act.put, lt, ly, lu]
      refine wpAnyH_done (by kernel_rfl) ?_ _
      go_wp2_with fail
      refine bodyPost_ret (v := .agg #[.bool sb, .slice B3 m1 e3, .slice B4 m2 e4]) ?_ rfl ⟨_, rfl, FIN.out, hRF.out _ FB.out⟩
      simp [results, Tryz.results24, go_sem, r0, r1, r2]
end Go.Proofs.YtfppimacnhcflaaGreatDoor.Rf
namespace Go.Proofs.YtfppimacnhcflaaGreatDoor.Rf
open Go.RowKit
open Rx
open Lib (hid)
open List renaming getElem?_toArray → lg, getElem?_cons_zero → lz, getElem?_cons_succ → ls, setIfInBounds_toArray → lt, set_cons_zero → ly, set_cons_succ → lu

set_option maxRecDepth 100000 in
set_option maxHeartbeats 8000000 in
theorem subR_any {w : World} {vx vy : Value} {p q r : Rat} (hr : p - q = r) (hx : IsRat w vx p) (hy : IsRat w vy q) (s1 : len p.num.natAbs ≤ 1073741824) (s2 : len p.den ≤ 1073741824) (s3 : len q.num.natAbs ≤ 1073741824) (s4 : len q.den ≤ 1073741824) : Calls Tryz.prog 26 #[vx, vy] w (RatRet w r) := by
  obtain ⟨A1, c1, A2, c2, rfl, -, -⟩ := hx.opened
  obtain ⟨A3, c3, A4, c4, rfl, -, -⟩ := hy.opened
  obtain ⟨m, hm⟩ : ∃ m, -q = m := ⟨_, rfl⟩
  have hr2 : p + m = r := by rw [← hm, ← Rat.sub_eq_add_neg]; exact hr
  obtain ⟨i1, i2, -⟩ := neg_bits q
  rw [hm] at i1 i2
  have HN := hid (fun (u : World) (hu : Below w.heap.size w u) => negR_any hm (hy.keep hu))
  have HP := hid (fun (u : World) (v : Value) (hu : Below w.heap.size w u) (hv : IsRat u v m) => addR_any hr2 (hx.keep hu) hv s1 s2 (by rw [i1]; exact s3) (by rw [i2]; exact s4))
  obtain ⟨b, hb⟩ : ∃ b, decide (p.num < 0) = b := ⟨_, rfl⟩
  obtain ⟨d, hd⟩ : ∃ b, decide (q.num < 0) = b := ⟨_, rfl⟩
  obtain ⟨n1, hn1⟩ : ∃ m, len p.num.natAbs = m := ⟨_, rfl⟩
  obtain ⟨n2, hn2⟩ : ∃ m, len p.den = m := ⟨_, rfl⟩
  obtain ⟨n3, hn3⟩ : ∃ m, len q.num.natAbs = m := ⟨_, rfl⟩
  obtain ⟨n4, hn4⟩ : ∃ m, len q.den = m := ⟨_, rfl⟩
  rw [hb, hn1, hn2] at HP
  rw [hd, hn3, hn4] at HN
  rw [hb, hd, hn1, hn2, hn3, hn4]
  clear hx hy hr hr2 hm i1 i2 s1 s2 s3 s4 hb hd hn1 hn2 hn3 hn4
  obtain ⟨wB, hwB⟩ : ∃ u, u = ((w.alloc (.cells #[.bool b, .slice A1 n1 c1, .slice A2 n2 c2] 33)).alloc (.cells #[.bool d, .slice A3 n3 c3, .slice A4 n4 c4] 33)).alloc (.cells #[.bool false, .slice none 0 0, .slice none 0 0] 33) := ⟨_, rfl⟩
  obtain ⟨R, hR⟩ : ∃ R, w.heap.size = R := ⟨_, rfl⟩
  obtain ⟨wA, b0, hsA, bA, hRB, k0, k1, k2, j0, j1, j2⟩ := box_res3 hR _ hwB
  have hS := hid (fun (u : World) (hu : RB wA (R + 2) u) (b o : Nat) (hb : b < R + 2) => hu.1.cell (p := ⟨b, o, none⟩) hb)
  have hRA := hid (fun (u : World) (hu : RB wA (R + 2) u) => chain b0 (show Below wA.heap.size wA u by rw [hsA]; exact hu.1))
  obtain ⟨u0, hu0⟩ : ∃ u, u = wB.drew := ⟨_, rfl⟩
  have hB0 := hid (show RB wA (R + 2) u0 by rw [hu0]; exact hRB.call (below_drew wB))
  have HA := hid (HN.out u0 (hRA.out u0 hB0.out))
  have hRF := hid (fun (u : World) (hu : Below (R + 2) wA u) => chain b0 (show Below wA.heap.size wA u by rw [hsA]; exact hu))
  clear hRB bA hsA b0 HN
  go_enter Tryz.func26, Tryz.ntmps26
  go_upto_region 1 with fail
  rw [← hwB]
  replace hR := hid hR
  clear hwB
  refine wp_region_held_drew (S := (fun w' => (∀ b o, b < R + 2 → w'.cell? ⟨b, o, none⟩ = wA.cell? ⟨b, o, none⟩))) (by kernel_rfl) ?_ (fun hHeld => ?_)
  · (try dsimp only)
    rw [← hu0]
    exact hS.out _ hB0.out
  rw [← hu0] at hHeld ⊢
  clear hu0
  refine tk (i := 0) (h := ?_)
  try simp only [Act.put, lt, ly, lu]
  refine tk (i := 1) (h := ?_)
  try simp only [Act.put, lt, ly, lu]
  refine wpAnyH_ready (rs := [2]) (by kernel_rfl) (by simp) (AllReadyH.cons (o := ?o2) ?e2 ?k2 AllReadyH.nil)
  case e2 => simp only [lg, lz, ls]; rfl
  intro K hK
  go_simp; go_at_call 36
  refine (HA.out).mono ?_
  rintro e w1 ⟨v1, rfl, hv1, b1⟩
  obtain ⟨BX, eX, BX2, eX2, rfl, -, -⟩ := id hv1.opened
  replace hv1 := hid hv1

  have hB1 := hid (hB0.out.call b1)
  clear HA b1
  refine hK.out _ _ ?_ (fun hHeld2 => ?_)
  · (try dsimp only)
    exact hS.out _ hB1.out
  clear hK K hHeld
  try simp only [Act.put, lt, ly, lu]
  have hHeld := hHeld2
  clear hHeld2
  have HB := hid (HP.out w1 _ (hRA.out w1 hB1.out) hv1.out)
  clear HP
  refine wpAnyH_ready (rs := [3]) (by kernel_rfl) (by simp) (AllReadyH.cons (o := ?o3) ?e3 ?k3 AllReadyH.nil)
  case e3 => simp only [lg, lz, ls]; rfl
  intro K hK
  go_simp; go_at_call 24
  refine (HB.out).mono ?_
  rintro e w6 ⟨v6, rfl, hv6, b6⟩
  obtain ⟨B3, e3, B4, e4, rfl, g1, g2⟩ := hv6.opened
  replace g1 := hid g1
  replace g2 := hid g2

  have hB6 := hid (hB1.out.call b6)
  clear HB b6 hv1 hv6
  refine hK.out _ _ ?_ (fun hHeld2 => ?_)
  · (try dsimp only)
    exact hS.out _ hB6.out
  clear hK K hHeld
  try simp only [Act.put, lt, ly, lu]
  have hHeld := hHeld2
  clear hHeld2
  obtain ⟨sb, hsb⟩ : ∃ b, decide (r.num < 0) = b := ⟨_, rfl⟩
  obtain ⟨m1, hm1⟩ : ∃ b, len r.num.natAbs = b := ⟨_, rfl⟩
  obtain ⟨m2, hm2⟩ : ∃ b, len r.den = b := ⟨_, rfl⟩
  rw [hm1] at g1 ⊢
  rw [hm2] at g2 ⊢
  rw [hsb]
  obtain ⟨hbF, ⟨r0, r1, r2⟩, hkF⟩ := (hB6.out).store (b := sb) (A := B3) (n := m1) (c := e3) (A' := B4) (n' := m2) (c' := e4) _ rfl
  obtain ⟨x0, x1, x2, ⟨l0, l1, l2⟩, f0, f1, f2⟩ := (hB6.out).cells
  have FIN := hid (show IsRat _ (.agg #[.bool sb, .slice B3 m1 e3, .slice B4 m2 e4]) r from ⟨_, _, by rw [hsb], hkF _ _ g1.out, hkF _ _ g2.out⟩)
  have FB := hid hbF
  replace hsb := hid hsb
  replace hm1 := hid hm1
  replace hm2 := hid hm2
  have hcells := hid (fun (b o : Nat) (hb : b < R + 2) => FB.out.cell (p := ⟨b, o, none⟩) hb)
  clear hkF hbF
  refine wpAnyH_ready (rs := [4]) (by kernel_rfl) (by simp) (AllReadyH.cons (o := ?oS) ?eS ?kS AllReadyH.nil)
  case eS => simp only [lg, lz, ls]; rfl
  intro K hK
  go_simp
  refine hK.out _ _ ?_ (fun hHeld2 => ?_)
  · (try dsimp only)
    exact hcells.out
  clear hK K hHeld hHeld2
  try simp only [Act.put, lt, ly, lu]
  refine wpAnyH_done (by kernel_rfl) ?_ _
  go_wp2_with fail
  refine bodyPost_ret (v := .agg #[.bool sb, .slice B3 m1 e3, .slice B4 m2 e4]) ?_ rfl ⟨_, rfl, FIN.out, hRF.out _ FB.out⟩
  simp [results, Tryz.results26, go_sem, r0, r1, r2]
end Go.Proofs.YtfppimacnhcflaaGreatDoor.Rf
namespace Go.Proofs.YtfppimacnhcflaaGreatDoor.Rf
open Go.RowKit
open Rx
open Lib (hid)

theorem floor_three (q : Rat) : ∀ r, mkRat (q.num / (q.den : Int)) 1 = r →
    (decide (q.num < 0) = false → rat false (q.num.natAbs / q.den) 1 = r) ∧
    (decide (q.num < 0) = true → q.num.natAbs % q.den = 0 → rat true (q.num.natAbs / q.den) 1 = r ∧ 0 < q.num.natAbs / q.den) ∧
    (decide (q.num < 0) = true → 0 < q.num.natAbs % q.den → rat true (q.num.natAbs / q.den + 1) 1 = r) := by
  intro r hr
  refine ⟨fun h => ?_, fun h k => ⟨?_, ?_⟩, fun h k => ?_⟩
  · rw [← hr]; unfold rat; rw [if_neg (by decide), fl_nonneg (of_decide_eq_false h)]
  · rw [← hr]; unfold rat; rw [if_pos rfl, fl_neg (of_decide_eq_true h) q.den_pos k]
  · have h1 := Nat.div_add_mod q.num.natAbs q.den
    rw [k] at h1
    rcases Nat.eq_zero_or_pos (q.num.natAbs / q.den) with e | e
    · rw [e, Nat.mul_zero] at h1
      have := of_decide_eq_true h
      omega
    · exact e
  · rw [← hr]; unfold rat; rw [if_pos rfl, fl_down (of_decide_eq_true h) q.den_pos k]

set_option maxRecDepth 100000 in
set_option maxHeartbeats 4000000 in
theorem floorR_any {w : World} {vx : Value} {q r : Rat} (hr : mkRat (q.num / (q.den : Int)) 1 = r) (hx : IsRat w vx q) (s1 : len q.num.natAbs ≤ 1073741824) (s2 : len q.den ≤ 1073741824) : Calls Tryz.prog 40 #[vx] w (RatRet w r) := by
  obtain ⟨A1, c1, A2, c2, rfl, h1, h2⟩ := hx.opened
  obtain ⟨g1, g2, g3⟩ := floor_three q r hr
  have hd0 := q.den_pos
  obtain ⟨b, hb⟩ : ∃ b, decide (q.num < 0) = b := ⟨_, rfl⟩
  obtain ⟨N, hN⟩ : ∃ N, q.num.natAbs = N := ⟨_, rfl⟩
  obtain ⟨D, hD⟩ : ∃ N, q.den = N := ⟨_, rfl⟩
  rw [hb, hN, hD] at g1 g2
  rw [hb, hN, hD] at g3
  rw [hN] at h1 s1
  rw [hD] at h2 s2 hd0
  rw [hb, hN, hD]
  obtain ⟨n1, hn1⟩ : ∃ m, len N = m := ⟨_, rfl⟩
  obtain ⟨n2, hn2⟩ : ∃ m, len D = m := ⟨_, rfl⟩
  have HQ := fun (u : World) (hu : Below w.heap.size w u) => quotient_any (w := u) (h1.keep hu) (h2.keep hu) hd0 (by omega) (by omega)
  have t1 : len (N / D) ≤ 1073741824 := Nat.le_trans (len_mono (Nat.div_le_self _ _)) s1
  obtain ⟨X, hX⟩ : ∃ X, N / D = X := ⟨_, rfl⟩
  obtain ⟨M, hM⟩ : ∃ X, N % D = X := ⟨_, rfl⟩
  rw [hn1, hn2, hX, hM] at HQ
  rw [hX] at g1 g2 t1
  rw [hX] at g3
  rw [hM] at g2 g3
  rw [hn1, hn2]
  replace HQ := hid HQ
  replace g1 := hid g1
  replace g2 := hid g2
  replace g3 := hid g3
  replace t1 := hid t1
  clear hb hN hD hn1 hn2 hX hM h1 h2 s1 s2 hd0 hx hr
  obtain ⟨wB, hwB⟩ : ∃ u, u = (w.alloc (.cells #[.bool b, .slice A1 n1 c1, .slice A2 n2 c2] 33)).alloc (.cells #[.bool false, .slice none 0 0, .slice none 0 0] 33) := ⟨_, rfl⟩
  obtain ⟨R, hR⟩ : ∃ R, w.heap.size = R := ⟨_, rfl⟩
  obtain ⟨wA, b0, hsA, bA, hRB, k0, k1, k2⟩ := box_res2 hR _ hwB
  have hRlt : R < wB.heap.size := World.block_lt_of_cell? _ _ k0
  have HA := hid (HQ.out wB (chain b0 bA))
  replace b0 := hid b0
  replace hRB := hid hRB
  replace hsA := hid hsA
  clear HQ bA
  have hcs : b = false ∨ b = true := by cases b <;> simp
  have hms : M = 0 ∨ 0 < M := by omega
  rcases hcs with rfl | rfl
  · have hrt := hid (g1.out rfl)
    clear g1 g2 g3
    go_enter Tryz.func40, Tryz.ntmps40
    go_upto_region 1 with fail
    rw [← hwB]
    replace hR := hid hR
    clear hwB
    go_wp2_with fail
    refine (HA.out).mono ?_
    rintro e w1 ⟨v1, v2, rfl, hv1, hv2, b1⟩
    obtain ⟨AQ, cQ, rfl, -, -, -, -⟩ := id hv1
    obtain ⟨AM, cM, rfl, -, -, -, -⟩ := id hv2
    have kk0 : w1.cell? ⟨R, 0, none⟩ = some (.bool false) := (b1.cell (p := ⟨R, 0, none⟩) hRlt).trans k0
    have hRB1 := hid (hRB.out.call b1)
    have hlt1 : R < w1.heap.size := World.block_lt_of_cell? _ _ kk0
    replace hv1 := hid hv1
    clear HA hRB k0 k1 k2 hv2 b1
    obtain ⟨lM, hlM⟩ : ∃ m, len M = m := ⟨_, rfl⟩
    rw [hlM]
    replace hlM := hid hlM
    have hone := hid (big_one w1)
    have b2 := alloc_below w1 (.cells #[.int .i64 1] 3)
    have hRB2 := hid (hRB1.out.call b2)
    have hv9 := hid (hv1.out.keep b2)
    clear b2
    obtain ⟨p1, p2, p3⟩ := one_parts hrt.out
    obtain ⟨hbF, ⟨r0, r1, r2⟩, hkF⟩ := (hRB2.out).store (b := false) (A := AQ) (n := (len X)) (c := cQ) (A' := some ⟨w1.heap.size, 0, none⟩) (n' := 1) (c' := 1) _ rfl
    obtain ⟨x0, x1, x2, ⟨l0, l1, l2⟩, f0, f1, f2⟩ := (hRB2.out).cells
    have FIN := hid (show IsRat _ (.agg #[.bool false, .slice AQ (len X) cQ, .slice (some ⟨w1.heap.size, 0, none⟩) 1 1]) r from ⟨_, _, by rw [p3]; rfl, by rw [p1]; exact hkF _ _ hv9.out, by rw [p2]; exact hkF _ _ hone.out⟩)
    have FB := hid hbF
    clear hbF hkF p1 p2 p3
    go_wp2_with fail
    refine bodyPost_ret (v := .agg #[.bool false, .slice AQ (len X) cQ, .slice (some ⟨w1.heap.size, 0, none⟩) 1 1]) ?_ rfl ⟨_, rfl, FIN.out, chain b0.out (by rw [hsA.out]; exact FB.out)⟩
    simp [results, Tryz.results40, go_sem, r0, r1, r2]
  · rcases hms with rfl | hM0
    · obtain ⟨hrt, hXp⟩ := g2.out rfl rfl
      have hXq := hid hXp
      replace hrt := hid hrt
      clear g1 g2 g3 hXp
      go_enter Tryz.func40, Tryz.ntmps40
      go_upto_region 1 with fail
      rw [← hwB]
      replace hR := hid hR
      clear hwB
      go_wp2_with fail
      refine (HA.out).mono ?_
      rintro e w1 ⟨v1, v2, rfl, hv1, hv2, b1⟩
      obtain ⟨AQ, cQ, rfl, -, -, -, -⟩ := id hv1
      obtain ⟨AM, cM, rfl, -, -, -, -⟩ := id hv2
      have kk0 : w1.cell? ⟨R, 0, none⟩ = some (.bool true) := (b1.cell (p := ⟨R, 0, none⟩) hRlt).trans k0
      have hRB1 := hid (hRB.out.call b1)
      have hlt1 : R < w1.heap.size := World.block_lt_of_cell? _ _ kk0
      replace hv1 := hid hv1
      clear HA hRB k0 k1 k2 hv2 b1
      have hlp := len_pos.2 hXq.out
      have hz : decide (((len X : Nat) : Int) > 0) = true := decide_eq_true (by omega)
      have hz2 : decide (0 < len X) = true := decide_eq_true hlp
      rw [len_zero]
      have hone := hid (big_one w1)
      have b2 := alloc_below w1 (.cells #[.int .i64 1] 3)
      have hRB2 := hid (hRB1.out.call b2)
      have hv9 := hid (hv1.out.keep b2)
      clear b2
      obtain ⟨p1, p2, p3⟩ := one_parts hrt.out
      obtain ⟨hbF, ⟨r0, r1, r2⟩, hkF⟩ := (hRB2.out).store (b := true) (A := AQ) (n := (len X)) (c := cQ) (A' := some ⟨w1.heap.size, 0, none⟩) (n' := 1) (c' := 1) _ rfl
      obtain ⟨x0, x1, x2, ⟨l0, l1, l2⟩, f0, f1, f2⟩ := (hRB2.out).cells
      have FIN := hid (show IsRat _ (.agg #[.bool true, .slice AQ (len X) cQ, .slice (some ⟨w1.heap.size, 0, none⟩) 1 1]) r from ⟨_, _, by rw [p3]; rw [decide_eq_true hXq.out]; rfl, by rw [p1]; exact hkF _ _ hv9.out, by rw [p2]; exact hkF _ _ hone.out⟩)
      have FB := hid hbF
      clear hbF hkF p1 p2 p3
      go_wp2_with fail
      refine bodyPost_ret (v := .agg #[.bool true, .slice AQ (len X) cQ, .slice (some ⟨w1.heap.size, 0, none⟩) 1 1]) ?_ rfl ⟨_, rfl, FIN.out, chain b0.out (by rw [hsA.out]; exact FB.out)⟩
      simp [results, Tryz.results40, go_sem, r0, r1, r2]
    · replace hM0 := hid hM0
      have hrt := hid (g3.out rfl hM0.out)
      clear g1 g2 g3
      go_enter Tryz.func40, Tryz.ntmps40
      go_upto_region 1 with fail
      rw [← hwB]
      replace hR := hid hR
      clear hwB
      go_wp2_with fail
      refine (HA.out).mono ?_
      rintro e w1 ⟨v1, v2, rfl, hv1, hv2, b1⟩
      obtain ⟨AQ, cQ, rfl, -, -, -, -⟩ := id hv1
      obtain ⟨AM, cM, rfl, -, -, -, -⟩ := id hv2
      have kk0 : w1.cell? ⟨R, 0, none⟩ = some (.bool true) := (b1.cell (p := ⟨R, 0, none⟩) hRlt).trans k0
      have hRB1 := hid (hRB.out.call b1)
      have hlt1 : R < w1.heap.size := World.block_lt_of_cell? _ _ kk0
      replace hv1 := hid hv1
      clear HA hRB k0 k1 k2 hv2 b1
      have hlm := len_pos.2 hM0.out
      have hz : decide (((len M : Nat) : Int) > 0) = true := decide_eq_true (by omega)
      have hz2 : decide (0 < len M) = true := decide_eq_true hlm
      have HP := hid (plus_any (hv1.out.keep (alloc_below w1 (.cells #[.int .i64 1] 3))) (big_one w1) (Nat.le_trans t1.out (by decide)) (by rw [len_one]; decide))
      have ba := hid (alloc_below w1 (.cells #[.int .i64 1] 3))
      go_wp2_with fail
      refine (HP.out).mono ?_
      rintro e w2 ⟨v3, rfl, hv3, b3⟩
      obtain ⟨AS, cS, rfl, -, -, -, -⟩ := id hv3
      have kk1 : w2.cell? ⟨R, 0, none⟩ = some (.bool true) := ((chain ba.out b3).cell (p := ⟨R, 0, none⟩) hlt1).trans kk0
      have hRB3 := hid ((hRB1.out.call ba.out).call b3)
      have hlp : 0 < len (X + 1) := len_pos.2 (Nat.succ_pos X)
      have hz3 : decide (((len (X + 1) : Nat) : Int) > 0) = true := decide_eq_true (by omega)
      have hz4 : decide (0 < len (X + 1)) = true := decide_eq_true hlp
      replace hv3 := hid hv3
      clear HP b3 kk0 hlm hz hz2 hv1 hRB1
      obtain ⟨Y, hY⟩ : ∃ Y, X + 1 = Y := ⟨_, rfl⟩
      have hYp := hid (show 0 < Y by omega)
      rw [hY] at hrt hv3 hz3 hz4 ⊢
      replace hY := hid hY
      clear hlp
      have hlp : 0 < len Y := len_pos.2 hYp.out
      have hone := hid (big_one w2)
      have b2 := alloc_below w2 (.cells #[.int .i64 1] 3)
      have hRB2 := hid (hRB3.out.call b2)
      have hv9 := hid (hv3.out.keep b2)
      clear b2
      obtain ⟨p1, p2, p3⟩ := one_parts hrt.out
      obtain ⟨hbF, ⟨r0, r1, r2⟩, hkF⟩ := (hRB2.out).store (b := true) (A := AS) (n := (len Y)) (c := cS) (A' := some ⟨w2.heap.size, 0, none⟩) (n' := 1) (c' := 1) _ rfl
      obtain ⟨x0, x1, x2, ⟨l0, l1, l2⟩, f0, f1, f2⟩ := (hRB2.out).cells
      have FIN := hid (show IsRat _ (.agg #[.bool true, .slice AS (len Y) cS, .slice (some ⟨w2.heap.size, 0, none⟩) 1 1]) r from ⟨_, _, by rw [p3]; rw [decide_eq_true hYp.out]; rfl, by rw [p1]; exact hkF _ _ hv9.out, by rw [p2]; exact hkF _ _ hone.out⟩)
      have FB := hid hbF
      clear hbF hkF p1 p2 p3
      go_wp2_with fail
      refine bodyPost_ret (v := .agg #[.bool true, .slice AS (len Y) cS, .slice (some ⟨w2.heap.size, 0, none⟩) 1 1]) ?_ rfl ⟨_, rfl, FIN.out, chain b0.out (by rw [hsA.out]; exact FB.out)⟩
      simp [results, Tryz.results40, go_sem, r0, r1, r2]
end Go.Proofs.YtfppimacnhcflaaGreatDoor.Rf
namespace Go.Proofs.YtfppimacnhcflaaGreatDoor
open Go.RowKit
open Vx
/-- A numeral's number is small by its length. -/
theorem parse_siz_le (s : ByteArray) : siz (parseV s).1 ≤ 2 * s.size + 3 := by
  unfold parseV
  split
  · exact Nat.le_trans (show siz 0 ≤ 3 by decide +kernel) (by omega)
  · rename_i h0
    have hsz : s.data.toList.length = s.size := size_data s
    split
    · exact Nat.le_trans (show siz 0 ≤ 3 by decide +kernel) (by omega)
    · rename_i q hq
      have ht := trim_len s.data.toList [45]
      have c1 := cut_len (Lib.trimPrefix s.data.toList [45]) [47]
      have c2 := cut_len (Lib.trimPrefix s.data.toList [45]) [46]
      unfold parseL at hq
      split at hq
      · split at hq
        · rename_i h1
          obtain rfl := Option.some.inj hq
          refine Nat.le_trans (siz_mk _ _) ?_
          have n1 := len_valL (dig_all (whole_dig h1.1))
          have n2 := len_valL (dig_all (whole_dig h1.2.1))
          rw [sgn_natAbs]
          omega
        · cases hq
      · split at hq
        · rename_i h1 h2
          obtain rfl := Option.some.inj hq
          refine Nat.le_trans (siz_mk _ _) ?_
          have hb : (Lib.cut (Lib.trimPrefix s.data.toList [45]) [46]).2.1.all digC = true := by
            rcases hf : (Lib.cut (Lib.trimPrefix s.data.toList [45]) [46]).2.2 with _ | _
            · rw [cut_none _ _ hf]; rfl
            · exact dig_all (h2.2 hf)
          have hab : ((Lib.cut (Lib.trimPrefix s.data.toList [45]) [46]).1 ++ (Lib.cut (Lib.trimPrefix s.data.toList [45]) [46]).2.1).all digC = true := by
            rw [List.all_append, hb, dig_all (whole_dig h2.1)]; rfl
          have n1 := len_valL hab
          rw [List.length_append] at n1
          have n2 := len_pow_le 10 (Lib.cut (Lib.trimPrefix s.data.toList [45]) [46]).2.1.length
          have n3 : len 10 = 1 := by decide +kernel
          rw [n3] at n2
          rw [sgn_natAbs]
          omega
        · cases hq
end Go.Proofs.YtfppimacnhcflaaGreatDoor
namespace Go.Proofs.YtfppimacnhcflaaGreatDoor
open Go.RowKit
open Vx
theorem add_val {w : World} {vx vy : Value} {x y q : Rat} (hq : x + y = q) (hx : IsNum w vx x) (hy : IsNum w vy y) (hs : siz x ≤ 536870912) (ht : siz y ≤ 536870912) :
    Calls Tryz.prog 23 #[vx, vy] w (NumRet w q) := by rw [← hq]; exact numAdd_any hx hy (Nat.le_trans hs (by omega)) (Nat.le_trans ht (by omega))
theorem sub_val {w : World} {vx vy : Value} {x y q : Rat} (hq : x - y = q) (hx : IsNum w vx x) (hy : IsNum w vy y) (hs : siz x ≤ 536870912) (ht : siz y ≤ 536870912) :
    Calls Tryz.prog 25 #[vx, vy] w (NumRet w q) := by rw [← hq]; exact numSub_any hx hy (Nat.le_trans hs (by omega)) (Nat.le_trans ht (by omega))
theorem mul_val' {w : World} {vx vy : Value} {x y q : Rat} (hq : x * y = q) (hx : IsNum w vx x) (hy : IsNum w vy y) (hs : siz x ≤ 536870912) (ht : siz y ≤ 536870912) :
    Calls Tryz.prog 27 #[vx, vy] w (NumRet w q) := by rw [← hq]; exact numMul_any hx hy (Nat.le_trans hs (by omega)) (Nat.le_trans ht (by omega))
theorem neg_val {w : World} {vx : Value} {x q : Rat} (hq : -x = q) (hx : IsNum w vx x) (hs : siz x ≤ 536870912) :
    Calls Tryz.prog 35 #[vx] w (NumRet w q) := by rw [← hq]; exact numNeg_any hx (Nat.le_trans hs (by omega))
theorem nabs_val {w : World} {vx : Value} {x q : Rat} (hq : x.abs = q) (hx : IsNum w vx x) (hs : siz x ≤ 536870912) : Calls Tryz.prog 37 #[vx] w (NumRet w q) := by
  rw [← hq]; exact numAbs_any hx (Nat.le_trans hs (by omega))
theorem div_val {w : World} {vx vy : Value} {x y q : Rat} {c : Int} (hq : x / y = q) (hc : (if y = 0 then 10 else 0) = c) (hx : IsNum w vx x) (hy : IsNum w vy y) (hs : siz x ≤ 536870912) (ht : siz y ≤ 536870912) :
    Calls Tryz.prog 32 #[vx, vy] w (NumErrRet w q c) := by rw [← hq, ← hc]; exact numDiv_any hx hy (Nat.le_trans hs (by omega)) (Nat.le_trans ht (by omega))
theorem sign_val {w : World} {vx : Value} {x : Rat} {n : Int} (hn : x.num.sign = n) (hx : IsNum w vx x) : Calls Tryz.prog 16 #[vx] w (IntRet w n) := by rw [← hn]; exact numSign_any hx
theorem cmp_val {w : World} {vx vy : Value} {x y : Rat} {n : Int} (hn : cmpQ x y = n) (hx : IsNum w vx x) (hy : IsNum w vy y) (hs : siz x ≤ 536870912) (ht : siz y ≤ 536870912) :
    Calls Tryz.prog 29 #[vx, vy] w (IntRet w n) := by rw [← hn]; exact numCmp_any hx hy (Nat.le_trans hs (by omega)) (Nat.le_trans ht (by omega))
theorem floor_val {w : World} {vx : Value} {x q : Rat} (hq : flr x = q) (hx : IsNum w vx x) (hs : siz x ≤ 536870912) :
    Calls Tryz.prog 39 #[vx] w (NumRet w q) := by rw [← hq]; exact numFloor_any hx (Nat.le_trans hs (by omega))
theorem round_val {w : World} {vx vz : Value} {x z r : Rat} (hr : flr (x / z + mkRat 1 2) * z = r) (hz : 0 < z.num) (hx : IsNum w vx x) (hzz : IsNum w vz z) (hs : siz x ≤ 536870912) (ht : siz z ≤ 536870912) :
    Calls Tryz.prog 42 #[vx, vz] w (NumErrRet w r 0) := round_ok hx hzz hz hr (Nat.le_trans hs (by omega)) (Nat.le_trans ht (by omega))
theorem round_no {w : World} {vx vz : Value} {x z o : Rat} (ho : 0 = o) (hz : z.num ≤ 0) (hx : IsNum w vx x) (hzz : IsNum w vz z) :
    Calls Tryz.prog 42 #[vx, vz] w (NumErrRet w o 3) := by rw [← ho]; exact round_bad hx hzz hz
theorem zero_at {q : Rat} (h : q = 0) (w : World) : IsNum w (.agg #[.bool false, .slice none 0 0, .slice none 0 0]) q := by rw [h]; exact zero_num w
end Go.Proofs.YtfppimacnhcflaaGreatDoor
namespace Go.Proofs.YtfppimacnhcflaaGreatDoor.Rf
open Go.RowKit
open Rx
open Vx (siz siz_num siz_den)
theorem siz_absq (x : Rat) : siz x.abs = siz x := by
  unfold siz
  rw [(abs_bits x).1, (abs_bits x).2.1]
theorem big_len {q : Rat} (h : siz q ≤ 268435456) : len q.num.natAbs ≤ 1073741824 ∧ len q.den ≤ 1073741824 := by
  have h1 := siz_num q
  have h2 := siz_den q
  have h3 := rlen_le q.num.natAbs
  have h4 := rlen_le q.den
  omega
theorem addR_val {w : World} {vx vy : Value} {p q r : Rat} (hr : p + q = r) (hx : IsRat w vx p) (hy : IsRat w vy q) (s1 : siz p ≤ 268435456) (s2 : siz q ≤ 268435456) :
    Calls Tryz.prog 24 #[vx, vy] w (RatRet w r) := addR_any hr hx hy (big_len s1).1 (big_len s1).2 (big_len s2).1 (big_len s2).2
theorem subR_val {w : World} {vx vy : Value} {p q r : Rat} (hr : p - q = r) (hx : IsRat w vx p) (hy : IsRat w vy q) (s1 : siz p ≤ 268435456) (s2 : siz q ≤ 268435456) :
    Calls Tryz.prog 26 #[vx, vy] w (RatRet w r) := subR_any hr hx hy (big_len s1).1 (big_len s1).2 (big_len s2).1 (big_len s2).2
theorem mulR_val {w : World} {vx vy : Value} {p q r : Rat} (hr : p * q = r) (hx : IsRat w vx p) (hy : IsRat w vy q) (s1 : siz p ≤ 268435456) (s2 : siz q ≤ 268435456) :
    Calls Tryz.prog 28 #[vx, vy] w (RatRet w r) := mulR_any hr hx hy (big_len s1).1 (big_len s1).2 (big_len s2).1 (big_len s2).2
theorem divR_val {w : World} {vx vy : Value} {p q r : Rat} (h0 : q ≠ 0) (hr : p / q = r) (hx : IsRat w vx p) (hy : IsRat w vy q) (s1 : siz p ≤ 268435456) (s2 : siz q ≤ 268435456) :
    Calls Tryz.prog 34 #[vx, vy] w (RatRet w r) := divR_any h0 hr hx hy (big_len s1).1 (big_len s1).2 (big_len s2).1 (big_len s2).2
theorem cmpR_val {w : World} {vx vy : Value} {p q : Rat} {r : Int} (hr : cmpQ p q = r) (hx : IsRat w vx p) (hy : IsRat w vy q) (s1 : siz p ≤ 268435456) (s2 : siz q ≤ 268435456) :
    Calls Tryz.prog 30 #[vx, vy] w (IntGo w r) := cmpR_any hr hx hy (big_len s1).1 (big_len s1).2 (big_len s2).1 (big_len s2).2
theorem floorR_val {w : World} {vx : Value} {q r : Rat} (hr : flr q = r) (hx : IsRat w vx q) (s1 : siz q ≤ 268435456) : Calls Tryz.prog 40 #[vx] w (RatRet w r) := floorR_any hr hx (big_len s1).1 (big_len s1).2
/-- A number of the program and one of the document. -/
def BothRet (w : World) (q : Rat) (e : Ending) (w' : World) : Prop := ∃ v1 v2, e = .returned (.tuple #[v1, v2]) ∧ IsNum w' v1 q ∧ IsRat w' v2 q ∧ Below w.heap.size w w'
theorem exact_parse {w : World} {s : ByteArray} {mx : Int} {q : Rat} {c : Int} (hq : (parseV s).1 = q) (hc : (parseV s).2 = c) (hM : w.cell? ⟨3, 0, none⟩ = some (.int .i64 mx)) :
    Calls Tryz.prog 93 #[.string s] w (NumErrRet w q c) := by rw [← hq, ← hc]; exact numParse_any hM
theorem ref_parse {w : World} {s : ByteArray} {q : Rat} {c : Int} (hq : (parseV s).1 = q) (hc : (parseV s).2 = c) (hs : s.size ≤ 1048576) :
    Calls Tryz.prog 101 #[.string s] w (RatErrRet w q c) := by rw [← hq, ← hc]; exact parse_ref hs
end Go.Proofs.YtfppimacnhcflaaGreatDoor.Rf
namespace Go.Proofs.YtfppimacnhcflaaGreatDoor
open Go.RowKit
open Vx
open Lib (hid)
open List renaming getElem?_toArray → lg, getElem?_cons_zero → lz, getElem?_cons_succ → ls, setIfInBounds_toArray → lt, set_cons_zero → ly, set_cons_succ → lu
theorem tk {P : Program} {ops : Array Oper} {Q : Exit → Act → World → Prop} {md : Region.Mode} {S : World → Prop} {i : Nat} {oi : Oper} {v : Value} {fuel : Nat} {listed : Array Bool} {a : Act} {w : World} (hi : ops[i]? = some oi := by simp only [lg, lz, ls]; rfl)
    (hb : (Region.noSelect ops && (Region.free md ops listed i && (Region.ready md ops listed).contains i)) = true := by kernel_rfl) (hQ : ∀ c a w, Q (.panic c) (a.put oi.dst v) w → Q (.panic c) a w := by exact fun _ _ _ h => h) (hS : S w := by assumption) (hy : YieldsIf P ops S oi v a := by refine Or.inl ⟨by rfl, ?_⟩; intro w hSw; (try dsimp only at hSw); go_simp; try with_reducible rfl)
    (h : wpAnyH P md ops Q S fuel (listed.setIfInBounds i true) (a.put oi.dst v) w) : wpAnyH P md ops Q S (fuel + 1) listed a w := by
  rw [Bool.and_eq_true, Bool.and_eq_true] at hb
  exact wpAnyH_take hi hb.1 hb.2.1 hb.2.2 hQ hy hS h
theorem wp_letter {P : Program} {c : Code} {Q : Exit → Act → World → Prop} {a : Act} {w : World} (h : ∀ A0, a = A0 → c.wp P Q A0 w) : c.wp P Q a w := h _ rfl
theorem k_letter {K : Act → World → Prop} {a : Act} {w : World} (h : ∀ A0, a = A0 → K A0 w) : K a w := h _ rfl
theorem cells3 {w : World} {b : Nat} {v0 v1 v2 : Value} {ty : TypeId} (h : w.heap[b]? = some (.cells #[v0, v1, v2] ty (0, 0))) : w.cell? ⟨b, 0, none⟩ = some v0 ∧ w.cell? ⟨b, 1, none⟩ = some v1 ∧ w.cell? ⟨b, 2, none⟩ = some v2 := ⟨cell_of_row _ _ 0 _ _ _ h, cell_of_row _ _ 1 _ _ _ h, cell_of_row _ _ 2 _ _ _ h⟩
theorem cells6 {w : World} {b : Nat} {v0 v1 v2 v3 v4 v5 : Value} {ty : TypeId} (h : w.heap[b]? = some (.cells #[v0, v1, v2, v3, v4, v5] ty (0, 0))) : w.cell? ⟨b, 0, none⟩ = some v0 ∧ w.cell? ⟨b, 1, none⟩ = some v1 ∧ w.cell? ⟨b, 2, none⟩ = some v2 ∧ w.cell? ⟨b, 3, none⟩ = some v3 ∧ w.cell? ⟨b, 4, none⟩ = some v4 ∧ w.cell? ⟨b, 5, none⟩ = some v5 := ⟨cell_of_row _ _ 0 _ _ _ h, cell_of_row _ _ 1 _ _ _ h, cell_of_row _ _ 2 _ _ _ h, cell_of_row _ _ 3 _ _ _ h, cell_of_row _ _ 4 _ _ _ h, cell_of_row _ _ 5 _ _ _ h⟩
theorem hcall {wB wS w w' : World} {N : Nat} (h : Held0 wB N wS w) (e : Hid (wB.heap.size = N)) (hb : Below w.heap.size w w') : Held0 wB N wS w' := Held0.call h (Nat.le_of_eq e.out.symm) hb
theorem at_lt {u : World} {n : Nat} {o : Obj} (h : u.heap[n]? = some o) : n < u.heap.size := (Array.getElem?_eq_some_iff.1 h).1
theorem at_keep {u u' : World} {n : Nat} {o : Obj} (h : u.heap[n]? = some o) (hb : Below u.heap.size u u') : u'.heap[n]? = some o := (hb.block _ (at_lt h)).trans h
theorem hgrow {wB wS w : World} {N : Nat} (h : Held0 wB N wS w) (e : Hid (wB.heap.size = N)) : N ≤ w.heap.size := Nat.le_trans (Nat.le_of_eq e.out.symm) h.2.1.size
theorem long_three {w : World} {sa sb sc : ByteArray} {r : Bool} (h : [sa, sb, sc].any (fun s => decide (120 < s.size)) = r) :
    Calls Tryz.prog 21 #[.slice (some ⟨w.heap.size, 0, none⟩) 3 3] (w.alloc (.cells #[.string sa, .string sb, .string sc] 9)) (fun e w' => e = .returned (.bool r) ∧ w' = w.alloc (.cells #[.string sa, .string sb, .string sc] 9)) := by
  have hg : (w.alloc (.cells #[.string sa, .string sb, .string sc] 9)).heap[w.heap.size]? = some (.cells #[.string sa, .string sb, .string sc] 9 (0, 0)) := heap_alloc_new w _
  rw [← h]
  refine long_any (l := [sa, sb, sc]) (o := 0) ?_ (by simp)
  intro i s hi
  match i, hi with
  | 0, hi => obtain rfl := Option.some.inj hi; exact cell_of_row _ _ 0 _ _ _ hg
  | 1, hi => obtain rfl := Option.some.inj hi; exact cell_of_row _ _ 1 _ _ _ hg
  | 2, hi => obtain rfl := Option.some.inj hi; exact cell_of_row _ _ 2 _ _ _ hg
  | _ + 3, hi => exact absurd hi (by simp)
theorem long_two {w : World} {sa sb : ByteArray} {r : Bool} (h : [sa, sb].any (fun s => decide (120 < s.size)) = r) :
    Calls Tryz.prog 21 #[.slice (some ⟨w.heap.size, 0, none⟩) 2 2] (w.alloc (.cells #[.string sa, .string sb] 9)) (fun e w' => e = .returned (.bool r) ∧ w' = w.alloc (.cells #[.string sa, .string sb] 9)) := by
  have hg : (w.alloc (.cells #[.string sa, .string sb] 9)).heap[w.heap.size]? = some (.cells #[.string sa, .string sb] 9 (0, 0)) := heap_alloc_new w _
  rw [← h]
  refine long_any (l := [sa, sb]) (o := 0) ?_ (by simp)
  intro i s hi
  match i, hi with
  | 0, hi => obtain rfl := Option.some.inj hi; exact cell_of_row _ _ 0 _ _ _ hg
  | 1, hi => obtain rfl := Option.some.inj hi; exact cell_of_row _ _ 1 _ _ _ hg
  | _ + 2, hi => exact absurd hi (by simp)
end Go.Proofs.YtfppimacnhcflaaGreatDoor
