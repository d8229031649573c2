/-
  Contracts of the functions that the law calls, for every input (Nat Sa Sc Si Tb Td Te BoxJ Tg Ts Place Va BoxN Vb Vc).
-/
import Derived.Test.YtfppimacnhcflaaGreatDoorD00
import Derived.Test.YtfppimacnhcflaaGreatDoorD01
import Derived.Test.YtfppimacnhcflaaGreatDoorD02
import Derived.Test.YtfppimacnhcflaaGreatDoorD03
import Derived.Test.YtfppimacnhcflaaGreatDoorD04
import Derived.Test.YtfppimacnhcflaaGreatDoorD05
import Derived.Test.YtfppimacnhcflaaGreatDoorD06
import Derived.Test.YtfppimacnhcflaaGreatDoorD07
import Derived.Test.YtfppimacnhcflaaGreatDoorD08
import Derived.Test.YtfppimacnhcflaaGreatDoorD09
import Derived.Test.YtfppimacnhcflaaGreatDoorD10
import Derived.Test.YtfppimacnhcflaaGreatDoorD11
import Derived.Test.YtfppimacnhcflaaGreatDoorD12
import Derived.Test.YtfppimacnhcflaaGreatDoorD13
import Derived.Test.YtfppimacnhcflaaGreatDoorD14
import Derived.Test.YtfppimacnhcflaaGreatDoorD15
import Derived.Test.YtfppimacnhcflaaGreatDoorD16
import Derived.Test.YtfppimacnhcflaaGreatDoorD17
import Derived.Test.YtfppimacnhcflaaGreatDoorD18
import Derived.Test.YtfppimacnhcflaaGreatDoorD19
import Derived.Test.YtfppimacnhcflaaGreatDoorD20
import Derived.Test.YtfppimacnhcflaaGreatDoorD21
import Derived.Test.YtfppimacnhcflaaGreatDoorD22
import Derived.Test.YtfppimacnhcflaaGreatDoorD23
import Derived.Test.YtfppimacnhcflaaGreatDoorD24
import Derived.Test.YtfppimacnhcflaaGreatDoorD25
import Derived.Test.YtfppimacnhcflaaGreatDoorD26
import Derived.Test.YtfppimacnhcflaaGreatDoorD27
import Derived.Test.YtfppimacnhcflaaGreatDoorD28
import Derived.Test.YtfppimacnhcflaaGreatDoorD29
import Derived.Test.YtfppimacnhcflaaGreatDoorD30
import Derived.Test.YtfppimacnhcflaaGreatDoorD31
import Derived.Test.YtfppimacnhcflaaGreatDoorD32
import Derived.Test.YtfppimacnhcflaaGreatDoorD33
import Derived.Test.YtfppimacnhcflaaGreatDoorD34
import Derived.Test.YtfppimacnhcflaaGreatDoorD35
import Derived.Test.YtfppimacnhcflaaGreatDoorD36
import Derived.Test.YtfppimacnhcflaaGreatDoorD37
import Derived.Test.YtfppimacnhcflaaGreatDoorD38
import Derived.Test.YtfppimacnhcflaaGreatDoorD39
set_option linter.all false
set_option maxRecDepth 100000
set_option maxHeartbeats 40000000
namespace Vx
theorem root_lt (a : Nat) : a < (rootOf a + 1) * (rootOf a + 1) := by
  rcases Nat.lt_or_ge a ((rootOf a + 1) * (rootOf a + 1)) with h | h
  · exact h
  · have := root_max h; omega
end Vx
namespace Go.Proofs.YtfppimacnhcflaaGreatDoor.Rf
open Lib (hid)
open Go.RowKit
open Rx
theorem sign_parts (q : Rat) : (decide (q.num < 0) = true ∧ q.num.sign = -1) ∨ (decide (q.num < 0) = false ∧ min ((len q.num.natAbs : Nat) : Int) 1 = q.num.sign) := by
  rcases Int.lt_trichotomy q.num 0 with h | h | h
  · exact Or.inl ⟨decide_eq_true h, Int.sign_eq_neg_one_of_neg h⟩
  · refine Or.inr ⟨decide_eq_false (by omega), ?_⟩
    rw [h]; rfl
  · refine Or.inr ⟨decide_eq_false (by omega), ?_⟩
    rw [Int.sign_eq_one_of_pos h]
    have : 0 < len q.num.natAbs := len_pos.2 (by omega)
    omega
theorem signR_any {w : World} {vx : Value} {q : Rat} {r : Int} (hr : q.num.sign = r) (hx : IsRat w vx q) : Calls Tryz.prog 31 #[vx] w (IntGo w r) := by
  obtain ⟨A1, c1, A2, c2, rfl, -, -⟩ := hx.opened
  have z := sign_parts q
  rw [hr] at z
  obtain ⟨b, hb⟩ : ∃ b, decide (q.num < 0) = b := ⟨_, rfl⟩
  obtain ⟨n1, hn1⟩ : ∃ m, len q.num.natAbs = m := ⟨_, rfl⟩
  obtain ⟨n2, hn2⟩ : ∃ m, len q.den = m := ⟨_, rfl⟩
  rw [hb, hn1] at z
  rw [hb, hn1, hn2]
  clear hb hn1 hn2 hx hr
  obtain ⟨wB, hwB⟩ : ∃ u, u = w.alloc (.cells #[.bool b, .slice A1 n1 c1, .slice A2 n2 c2] 33) := ⟨_, rfl⟩
  obtain ⟨b0, k0, k1, k2⟩ := box3 _ hwB
  obtain ⟨R, hR⟩ : ∃ R, w.heap.size = R := ⟨_, rfl⟩
  rw [hR] at k0 k1 k2
  replace b0 := hid b0
  rcases z with ⟨rfl, rfl⟩ | ⟨rfl, z⟩
  all_goals
    go_enter Tryz.func31, Tryz.ntmps31
    go_upto_region 1 with fail
    rw [← hwB]
    clear hwB hR
    go_wp2_with fail
    go_ret
    exact ⟨rfl, b0.out⟩
end Go.Proofs.YtfppimacnhcflaaGreatDoor.Rf
namespace Go.Proofs.YtfppimacnhcflaaGreatDoor.Rf
open Lib (hid)
open Go.RowKit
open Rx
open List renaming getElem?_toArray → lg, getElem?_cons_zero → lz, getElem?_cons_succ → ls, setIfInBounds_toArray → lt, set_cons_zero → ly, set_cons_succ → lu
theorem rat_mul (p q : Rat) : rat (decide (p.num < 0) != decide (q.num < 0)) (p.num.natAbs * q.num.natAbs) (p.den * q.den) = p * q := by
  unfold rat
  rw [sgn_mul, ← num_sign, ← num_sign]
  conv => rhs; rw [← Rat.mkRat_self p, ← Rat.mkRat_self q, Rat.mkRat_mul_mkRat]
theorem mulR_any {w : World} {vx vy : Value} {p q r : Rat} (hr : p * q = r) (hx : IsRat w vx p) (hy : IsRat w vy q) (s1 : len p.num.natAbs ≤ 1073741824) (s2 : len p.den ≤ 1073741824) (s3 : len q.num.natAbs ≤ 1073741824) (s4 : len q.den ≤ 1073741824) : Calls Tryz.prog 28 #[vx, vy] w (RatRet w r) := by
  obtain ⟨A1, c1, A2, c2, rfl, h1, h2⟩ := hx.opened
  obtain ⟨A3, c3, A4, c4, rfl, h3, h4⟩ := hy.opened
  have hrat := rat_mul p q
  rw [hr] at hrat
  have hpos : 0 < p.den * q.den := Nat.mul_pos p.den_pos q.den_pos
  obtain ⟨b, hb⟩ : ∃ b, decide (p.num < 0) = b := ⟨_, rfl⟩
  obtain ⟨d, hd⟩ : ∃ b, decide (q.num < 0) = b := ⟨_, rfl⟩
  obtain ⟨N, hN⟩ : ∃ N, p.num.natAbs = N := ⟨_, rfl⟩
  obtain ⟨D, hD⟩ : ∃ N, p.den = N := ⟨_, rfl⟩
  obtain ⟨M, hM⟩ : ∃ N, q.num.natAbs = N := ⟨_, rfl⟩
  obtain ⟨E, hE⟩ : ∃ N, q.den = N := ⟨_, rfl⟩
  rw [hb, hd, hN, hD, hM, hE] at hrat
  rw [hN] at h1 s1
  rw [hD] at h2 s2
  rw [hM] at h3 s3
  rw [hE] at h4 s4
  rw [hD, hE] at hpos
  rw [hb, hd, hN, hD, hM, hE]
  obtain ⟨n1, hn1⟩ : ∃ m, len N = m := ⟨_, rfl⟩
  obtain ⟨n2, hn2⟩ : ∃ m, len D = m := ⟨_, rfl⟩
  obtain ⟨n3, hn3⟩ : ∃ m, len M = m := ⟨_, rfl⟩
  obtain ⟨n4, hn4⟩ : ∃ m, len E = m := ⟨_, rfl⟩
  have t1 := len_mul_le N M
  have t2 := len_mul_le D E
  have HT1 := fun (u : World) (hu : Below w.heap.size w u) => times_any (w := u) (h1.keep hu) (h3.keep hu) (by omega) (by omega)
  have HT2 := fun (u : World) (hu : Below w.heap.size w u) => times_any (w := u) (h2.keep hu) (h4.keep hu) (by omega) (by omega)
  have u1' : len (N * M) ≤ 68719476736 := by omega
  have u2' : len (D * E) ≤ 68719476736 := by omega
  obtain ⟨X, hX⟩ : ∃ X, N * M = X := ⟨_, rfl⟩
  obtain ⟨Y, hY⟩ : ∃ X, D * E = X := ⟨_, rfl⟩
  rw [hX] at HT1 hrat u1'
  rw [hY] at HT2 hrat u2' hpos
  rw [hn1, hn2, hn3, hn4]
  rw [hn1, hn3] at HT1; rw [hn2, hn4] at HT2
  replace HT1 := hid HT1
  replace HT2 := hid HT2
  replace hrat := hid hrat
  replace u1' := hid u1'
  replace u2' := hid u2'
  replace hpos := hid hpos
  clear hb hd hN hD hM hE hn1 hn2 hn3 hn4 t1 t2 hX hY h1 h2 h3 h4 s1 s2 s3 s4 hr hx hy 
  obtain ⟨wB, hwB⟩ : ∃ u, u = ((w.alloc (.cells #[.bool b, .slice A1 n1 c1, .slice A2 n2 c2] 33)).alloc (.cells #[.bool d, .slice A3 n3 c3, .slice A4 n4 c4] 33)).alloc (.cells #[.bool false, .slice none 0 0, .slice none 0 0] 33) := ⟨_, rfl⟩
  obtain ⟨R, hR⟩ : ∃ R, w.heap.size = R := ⟨_, rfl⟩
  obtain ⟨wA, b0, hsA, bA, hRB, k0, k1, k2, j0, j1, j2⟩ := box_res3 hR _ hwB
  have hS := hid (fun (u : World) (hu : RB wA (R + 2) u) (b o : Nat) (hb : b < R + 2) => hu.1.cell (p := ⟨b, o, none⟩) hb)
  have hRA := hid (fun (u : World) (hu : RB wA (R + 2) u) => chain b0 (show Below wA.heap.size wA u by rw [hsA]; exact hu.1))
  obtain ⟨u0, hu0⟩ : ∃ u, u = wB.drew := ⟨_, rfl⟩
  have hB0 := hid (show RB wA (R + 2) u0 by rw [hu0]; exact hRB.call (below_drew wB))
  have HA := hid (HT1.out u0 (hRA.out u0 hB0.out))
  have hRF := hid (fun (u : World) (hu : Below (R + 2) wA u) => chain b0 (show Below wA.heap.size wA u by rw [hsA]; exact hu))
  clear hRB bA HT1 hsA b0
  obtain ⟨mb, hmb⟩ : ∃ m, (b != d) = m := ⟨_, rfl⟩
  rw [hmb] at hrat
  have hmb2 := hid hmb
  clear hmb
  have hgo : True := trivial
  · go_enter Tryz.func28, Tryz.ntmps28
    go_upto_region 1 with fail
    rw [← hwB]
    replace hR := hid hR
    clear hwB
    refine wp_region_held_drew (S := (fun w' => (∀ b o, b < R + 2 → w'.cell? ⟨b, o, none⟩ = wA.cell? ⟨b, o, none⟩))) (by kernel_rfl) ?_ (fun hHeld => ?_)
    · (try dsimp only)
      rw [← hu0]
      exact hS.out _ hB0.out
    rw [← hu0] at hHeld ⊢
    clear hu0
    refine tk (i := 0) (h := ?_)
    try simp only [Act.put, lt, ly, lu]
    refine tk (i := 1) (h := ?_)
    try simp only [Act.put, lt, ly, lu]
    refine tk (i := 2) (h := ?_)
    try simp only [Act.put, lt, ly, lu]
    refine tk (i := 3) (h := ?_)
    try simp only [Act.put, lt, ly, lu]
    refine tk (i := 4) (v := .bool mb) (hy := ?_) (h := ?_)
    · refine Or.inl ⟨by rfl, ?_⟩
      intro w hSw
      rw [← hmb2.out]
      cases b <;> cases d <;> (go_simp; try with_reducible rfl)
    try simp only [Act.put, lt, ly, lu]
    refine tk (i := 5) (h := ?_)
    try simp only [Act.put, lt, ly, lu]
    refine tk (i := 6) (h := ?_)
    try simp only [Act.put, lt, ly, lu]
    refine tk (i := 7) (h := ?_)
    try simp only [Act.put, lt, ly, lu]
    refine tk (i := 8) (h := ?_)
    try simp only [Act.put, lt, ly, lu]
    refine tk (i := 10) (h := ?_)
    try simp only [Act.put, lt, ly, lu]
    refine tk (i := 11) (h := ?_)
    try simp only [Act.put, lt, ly, lu]
    refine tk (i := 12) (h := ?_)
    try simp only [Act.put, lt, ly, lu]
    refine tk (i := 13) (h := ?_)
    try simp only [Act.put, lt, ly, lu]
    refine wpAnyH_ready (rs := [9]) (by kernel_rfl) (by simp) (AllReadyH.cons (o := ?o9) ?e9 ?k9 AllReadyH.nil)
    case e9 => simp only [lg, lz, ls]; rfl
    intro K hK
    go_simp; go_at_call 106
    refine (HA.out).mono ?_
    rintro e w1 ⟨v1, rfl, hv1, b1⟩
    obtain ⟨B1, e1, rfl, -, -, -, -⟩ := id hv1
    replace hv1 := hid hv1

    have hB1 := hid (hB0.out.call b1)
    clear HA b1
    refine hK.out _ _ ?_ (fun hHeld2 => ?_)
    · (try dsimp only)
      exact hS.out _ hB1.out
    clear hK K hHeld
    try simp only [Act.put, lt, ly, lu]
    have hHeld := hHeld2
    clear hHeld2
    have HB := hid (HT2.out w1 (hRA.out w1 hB1.out))
    clear HT2
    refine wpAnyH_ready (rs := [14]) (by kernel_rfl) (by simp) (AllReadyH.cons (o := ?o14) ?e14 ?k14 AllReadyH.nil)
    case e14 => simp only [lg, lz, ls]; rfl
    intro K hK
    go_simp; go_at_call 106
    refine (HB.out).mono ?_
    rintro e w2 ⟨v2, rfl, hv2, b2⟩
    obtain ⟨B2, e2, rfl, -, -, -, -⟩ := id hv2
    replace hv2 := hid hv2

    have hB2 := hid (hB1.out.call b2)
    have hv1b := hid (hv1.out.keep b2)
    clear HB b2 hv1
    refine hK.out _ _ ?_ (fun hHeld2 => ?_)
    · (try dsimp only)
      exact hS.out _ hB2.out
    clear hK K hHeld
    try simp only [Act.put, lt, ly, lu]
    have hHeld := hHeld2
    clear hHeld2
    have HM := hid (make_any hrat.out hv1b.out hv2.out hpos.out u1'.out u2'.out)
    refine wpAnyH_ready (rs := [15]) (by kernel_rfl) (by simp) (AllReadyH.cons (o := ?o15) ?e15 ?k15 AllReadyH.nil)
    case e15 => simp only [lg, lz, ls]; rfl
    intro K hK
    go_simp; go_at_call 107
    refine (HM.out).mono ?_
    rintro e w3 ⟨v3, rfl, hv3, b3⟩
    obtain ⟨B3, e3, B4, e4, rfl, g1, g2⟩ := hv3.opened
    replace g1 := hid g1
    replace g2 := hid g2

    have hB3 := hid (hB2.out.call b3)
    clear HM b3 hv3 hv1b hv2
    refine hK.out _ _ ?_ (fun hHeld2 => ?_)
    · (try dsimp only)
      exact hS.out _ hB3.out
    clear hK K hHeld
    try simp only [Act.put, lt, ly, lu]
    have hHeld := hHeld2
    clear hHeld2
    obtain ⟨sb, hsb⟩ : ∃ b, decide (r.num < 0) = b := ⟨_, rfl⟩
    obtain ⟨m1, hm1⟩ : ∃ b, len r.num.natAbs = b := ⟨_, rfl⟩
    obtain ⟨m2, hm2⟩ : ∃ b, len r.den = b := ⟨_, rfl⟩
    rw [hm1] at g1 ⊢
    rw [hm2] at g2 ⊢
    rw [hsb]
    obtain ⟨hbF, ⟨r0, r1, r2⟩, hkF⟩ := (hB3.out).store (b := sb) (A := B3) (n := m1) (c := e3) (A' := B4) (n' := m2) (c' := e4) _ rfl
    obtain ⟨x0, x1, x2, ⟨l0, l1, l2⟩, f0, f1, f2⟩ := (hB3.out).cells
    have FIN := hid (show IsRat _ (.agg #[.bool sb, .slice B3 m1 e3, .slice B4 m2 e4]) r from ⟨_, _, by rw [hsb], hkF _ _ g1.out, hkF _ _ g2.out⟩)
    have FB := hid hbF
    replace hsb := hid hsb
    replace hm1 := hid hm1
    replace hm2 := hid hm2
    have hcells := hid (fun (b o : Nat) (hb : b < R + 2) => FB.out.cell (p := ⟨b, o, none⟩) hb)
    clear hkF hbF
    refine wpAnyH_ready (rs := [16]) (by kernel_rfl) (by simp) (AllReadyH.cons (o := ?o16) ?e16 ?k16 AllReadyH.nil)
    case e16 => simp only [lg, lz, ls]; rfl
    intro K hK
    go_simp
    refine hK.out _ _ ?_ (fun hHeld2 => ?_)
    · (try dsimp only)
      exact hcells.out
    clear hK K hHeld hHeld2
    try simp only [Act.put, lt, ly, lu]
    refine wpAnyH_done (by kernel_rfl) ?_ _
    go_wp2_with fail
    refine bodyPost_ret (v := .agg #[.bool sb, .slice B3 m1 e3, .slice B4 m2 e4]) ?_ rfl ⟨_, rfl, FIN.out, hRF.out _ FB.out⟩
    simp [results, Tryz.results28, go_sem, r0, r1, r2]
end Go.Proofs.YtfppimacnhcflaaGreatDoor.Rf
namespace Go.Proofs.YtfppimacnhcflaaGreatDoor.Rf
open Lib (hid)
open Go.RowKit
open Rx
theorem floor_three (q : Rat) : ∀ r, mkRat (q.num / (q.den : Int)) 1 = r →
    (decide (q.num < 0) = false → rat false (q.num.natAbs / q.den) 1 = r) ∧
    (decide (q.num < 0) = true → q.num.natAbs % q.den = 0 → rat true (q.num.natAbs / q.den) 1 = r ∧ 0 < q.num.natAbs / q.den) ∧
    (decide (q.num < 0) = true → 0 < q.num.natAbs % q.den → rat true (q.num.natAbs / q.den + 1) 1 = r) := by
  intro r hr
  refine ⟨fun h => ?_, fun h k => ⟨?_, ?_⟩, fun h k => ?_⟩
  · rw [← hr]; unfold rat; rw [if_neg (by decide), fl_nonneg (of_decide_eq_false h)]
  · rw [← hr]; unfold rat; rw [if_pos rfl, fl_neg (of_decide_eq_true h) q.den_pos k]
  · have h1 := Nat.div_add_mod q.num.natAbs q.den
    rw [k] at h1
    rcases Nat.eq_zero_or_pos (q.num.natAbs / q.den) with e | e
    · rw [e, Nat.mul_zero] at h1
      have := of_decide_eq_true h
      omega
    · exact e
  · rw [← hr]; unfold rat; rw [if_pos rfl, fl_down (of_decide_eq_true h) q.den_pos k]
theorem floorR_any {w : World} {vx : Value} {q r : Rat} (hr : mkRat (q.num / (q.den : Int)) 1 = r) (hx : IsRat w vx q) (s1 : len q.num.natAbs ≤ 1073741824) (s2 : len q.den ≤ 1073741824) : Calls Tryz.prog 40 #[vx] w (RatRet w r) := by
  obtain ⟨A1, c1, A2, c2, rfl, h1, h2⟩ := hx.opened
  obtain ⟨g1, g2, g3⟩ := floor_three q r hr
  have hd0 := q.den_pos
  obtain ⟨b, hb⟩ : ∃ b, decide (q.num < 0) = b := ⟨_, rfl⟩
  obtain ⟨N, hN⟩ : ∃ N, q.num.natAbs = N := ⟨_, rfl⟩
  obtain ⟨D, hD⟩ : ∃ N, q.den = N := ⟨_, rfl⟩
  rw [hb, hN, hD] at g1 g2
  rw [hb, hN, hD] at g3
  rw [hN] at h1 s1
  rw [hD] at h2 s2 hd0
  rw [hb, hN, hD]
  obtain ⟨n1, hn1⟩ : ∃ m, len N = m := ⟨_, rfl⟩
  obtain ⟨n2, hn2⟩ : ∃ m, len D = m := ⟨_, rfl⟩
  have HQ := fun (u : World) (hu : Below w.heap.size w u) => quotient_any (w := u) (h1.keep hu) (h2.keep hu) hd0 (by omega) (by omega)
  have t1 : len (N / D) ≤ 1073741824 := Nat.le_trans (len_mono (Nat.div_le_self _ _)) s1
  obtain ⟨X, hX⟩ : ∃ X, N / D = X := ⟨_, rfl⟩
  obtain ⟨M, hM⟩ : ∃ X, N % D = X := ⟨_, rfl⟩
  rw [hn1, hn2, hX, hM] at HQ
  rw [hX] at g1 g2 t1
  rw [hX] at g3
  rw [hM] at g2 g3
  rw [hn1, hn2]
  replace HQ := hid HQ
  replace g1 := hid g1
  replace g2 := hid g2
  replace g3 := hid g3
  replace t1 := hid t1
  clear hb hN hD hn1 hn2 hX hM h1 h2 s1 s2 hd0 hx hr
  obtain ⟨wB, hwB⟩ : ∃ u, u = (w.alloc (.cells #[.bool b, .slice A1 n1 c1, .slice A2 n2 c2] 33)).alloc (.cells #[.bool false, .slice none 0 0, .slice none 0 0] 33) := ⟨_, rfl⟩
  obtain ⟨R, hR⟩ : ∃ R, w.heap.size = R := ⟨_, rfl⟩
  obtain ⟨wA, b0, hsA, bA, hRB, k0, k1, k2⟩ := box_res2 hR _ hwB
  have hRlt : R < wB.heap.size := World.block_lt_of_cell? _ _ k0
  have HA := hid (HQ.out wB (chain b0 bA))
  replace b0 := hid b0
  replace hRB := hid hRB
  replace hsA := hid hsA
  clear HQ bA
  have hcs : b = false ∨ b = true := by cases b <;> simp
  have hms : M = 0 ∨ 0 < M := by omega
  rcases hcs with rfl | rfl
  · have hrt := hid (g1.out rfl)
    clear g1 g2 g3
    go_enter Tryz.func40, Tryz.ntmps40
    go_upto_region 1 with fail
    rw [← hwB]
    replace hR := hid hR
    clear hwB
    go_wp2_with fail
    refine (HA.out).mono ?_
    rintro e w1 ⟨v1, v2, rfl, hv1, hv2, b1⟩
    obtain ⟨AQ, cQ, rfl, -, -, -, -⟩ := id hv1
    obtain ⟨AM, cM, rfl, -, -, -, -⟩ := id hv2
    have kk0 : w1.cell? ⟨R, 0, none⟩ = some (.bool false) := (b1.cell (p := ⟨R, 0, none⟩) hRlt).trans k0
    have hRB1 := hid (hRB.out.call b1)
    have hlt1 : R < w1.heap.size := World.block_lt_of_cell? _ _ kk0
    replace hv1 := hid hv1
    clear HA hRB k0 k1 k2 hv2 b1
    obtain ⟨lM, hlM⟩ : ∃ m, len M = m := ⟨_, rfl⟩
    rw [hlM]
    replace hlM := hid hlM
    have hone := hid (big_one w1)
    have b2 := alloc_below w1 (.cells #[.int .i64 1] 3)
    have hRB2 := hid (hRB1.out.call b2)
    have hv9 := hid (hv1.out.keep b2)
    clear b2
    obtain ⟨p1, p2, p3⟩ := one_parts hrt.out
    obtain ⟨hbF, ⟨r0, r1, r2⟩, hkF⟩ := (hRB2.out).store (b := false) (A := AQ) (n := (len X)) (c := cQ) (A' := some ⟨w1.heap.size, 0, none⟩) (n' := 1) (c' := 1) _ rfl
    obtain ⟨x0, x1, x2, ⟨l0, l1, l2⟩, f0, f1, f2⟩ := (hRB2.out).cells
    have FIN := hid (show IsRat _ (.agg #[.bool false, .slice AQ (len X) cQ, .slice (some ⟨w1.heap.size, 0, none⟩) 1 1]) r from ⟨_, _, by rw [p3]; rfl, by rw [p1]; exact hkF _ _ hv9.out, by rw [p2]; exact hkF _ _ hone.out⟩)
    have FB := hid hbF
    clear hbF hkF p1 p2 p3
    go_wp2_with fail
    refine bodyPost_ret (v := .agg #[.bool false, .slice AQ (len X) cQ, .slice (some ⟨w1.heap.size, 0, none⟩) 1 1]) ?_ rfl ⟨_, rfl, FIN.out, chain b0.out (by rw [hsA.out]; exact FB.out)⟩
    simp [results, Tryz.results40, go_sem, r0, r1, r2]
  · rcases hms with rfl | hM0
    · obtain ⟨hrt, hXp⟩ := g2.out rfl rfl
      have hXq := hid hXp
      replace hrt := hid hrt
      clear g1 g2 g3 hXp
      go_enter Tryz.func40, Tryz.ntmps40
      go_upto_region 1 with fail
      rw [← hwB]
      replace hR := hid hR
      clear hwB
      go_wp2_with fail
      refine (HA.out).mono ?_
      rintro e w1 ⟨v1, v2, rfl, hv1, hv2, b1⟩
      obtain ⟨AQ, cQ, rfl, -, -, -, -⟩ := id hv1
      obtain ⟨AM, cM, rfl, -, -, -, -⟩ := id hv2
      have kk0 : w1.cell? ⟨R, 0, none⟩ = some (.bool true) := (b1.cell (p := ⟨R, 0, none⟩) hRlt).trans k0
      have hRB1 := hid (hRB.out.call b1)
      have hlt1 : R < w1.heap.size := World.block_lt_of_cell? _ _ kk0
      replace hv1 := hid hv1
      clear HA hRB k0 k1 k2 hv2 b1
      have hlp := len_pos.2 hXq.out
      have hz : decide (((len X : Nat) : Int) > 0) = true := decide_eq_true (by omega)
      have hz2 : decide (0 < len X) = true := decide_eq_true hlp
      rw [len_zero]
      have hone := hid (big_one w1)
      have b2 := alloc_below w1 (.cells #[.int .i64 1] 3)
      have hRB2 := hid (hRB1.out.call b2)
      have hv9 := hid (hv1.out.keep b2)
      clear b2
      obtain ⟨p1, p2, p3⟩ := one_parts hrt.out
      obtain ⟨hbF, ⟨r0, r1, r2⟩, hkF⟩ := (hRB2.out).store (b := true) (A := AQ) (n := (len X)) (c := cQ) (A' := some ⟨w1.heap.size, 0, none⟩) (n' := 1) (c' := 1) _ rfl
      obtain ⟨x0, x1, x2, ⟨l0, l1, l2⟩, f0, f1, f2⟩ := (hRB2.out).cells
      have FIN := hid (show IsRat _ (.agg #[.bool true, .slice AQ (len X) cQ, .slice (some ⟨w1.heap.size, 0, none⟩) 1 1]) r from ⟨_, _, by rw [p3]; rw [decide_eq_true hXq.out]; rfl, by rw [p1]; exact hkF _ _ hv9.out, by rw [p2]; exact hkF _ _ hone.out⟩)
      have FB := hid hbF
      clear hbF hkF p1 p2 p3
      go_wp2_with fail
      refine bodyPost_ret (v := .agg #[.bool true, .slice AQ (len X) cQ, .slice (some ⟨w1.heap.size, 0, none⟩) 1 1]) ?_ rfl ⟨_, rfl, FIN.out, chain b0.out (by rw [hsA.out]; exact FB.out)⟩
      simp [results, Tryz.results40, go_sem, r0, r1, r2]
    · replace hM0 := hid hM0
      have hrt := hid (g3.out rfl hM0.out)
      clear g1 g2 g3
      go_enter Tryz.func40, Tryz.ntmps40
      go_upto_region 1 with fail
      rw [← hwB]
      replace hR := hid hR
      clear hwB
      go_wp2_with fail
      refine (HA.out).mono ?_
      rintro e w1 ⟨v1, v2, rfl, hv1, hv2, b1⟩
      obtain ⟨AQ, cQ, rfl, -, -, -, -⟩ := id hv1
      obtain ⟨AM, cM, rfl, -, -, -, -⟩ := id hv2
      have kk0 : w1.cell? ⟨R, 0, none⟩ = some (.bool true) := (b1.cell (p := ⟨R, 0, none⟩) hRlt).trans k0
      have hRB1 := hid (hRB.out.call b1)
      have hlt1 : R < w1.heap.size := World.block_lt_of_cell? _ _ kk0
      replace hv1 := hid hv1
      clear HA hRB k0 k1 k2 hv2 b1
      have hlm := len_pos.2 hM0.out
      have hz : decide (((len M : Nat) : Int) > 0) = true := decide_eq_true (by omega)
      have hz2 : decide (0 < len M) = true := decide_eq_true hlm
      have HP := hid (plus_any (hv1.out.keep (alloc_below w1 (.cells #[.int .i64 1] 3))) (big_one w1) (Nat.le_trans t1.out (by decide)) (by rw [len_one]; decide))
      have ba := hid (alloc_below w1 (.cells #[.int .i64 1] 3))
      go_wp2_with fail
      refine (HP.out).mono ?_
      rintro e w2 ⟨v3, rfl, hv3, b3⟩
      obtain ⟨AS, cS, rfl, -, -, -, -⟩ := id hv3
      have kk1 : w2.cell? ⟨R, 0, none⟩ = some (.bool true) := ((chain ba.out b3).cell (p := ⟨R, 0, none⟩) hlt1).trans kk0
      have hRB3 := hid ((hRB1.out.call ba.out).call b3)
      have hlp : 0 < len (X + 1) := len_pos.2 (Nat.succ_pos X)
      have hz3 : decide (((len (X + 1) : Nat) : Int) > 0) = true := decide_eq_true (by omega)
      have hz4 : decide (0 < len (X + 1)) = true := decide_eq_true hlp
      replace hv3 := hid hv3
      clear HP b3 kk0 hlm hz hz2 hv1 hRB1
      obtain ⟨Y, hY⟩ : ∃ Y, X + 1 = Y := ⟨_, rfl⟩
      have hYp := hid (show 0 < Y by omega)
      rw [hY] at hrt hv3 hz3 hz4 ⊢
      replace hY := hid hY
      clear hlp
      have hlp : 0 < len Y := len_pos.2 hYp.out
      have hone := hid (big_one w2)
      have b2 := alloc_below w2 (.cells #[.int .i64 1] 3)
      have hRB2 := hid (hRB3.out.call b2)
      have hv9 := hid (hv3.out.keep b2)
      clear b2
      obtain ⟨p1, p2, p3⟩ := one_parts hrt.out
      obtain ⟨hbF, ⟨r0, r1, r2⟩, hkF⟩ := (hRB2.out).store (b := true) (A := AS) (n := (len Y)) (c := cS) (A' := some ⟨w2.heap.size, 0, none⟩) (n' := 1) (c' := 1) _ rfl
      obtain ⟨x0, x1, x2, ⟨l0, l1, l2⟩, f0, f1, f2⟩ := (hRB2.out).cells
      have FIN := hid (show IsRat _ (.agg #[.bool true, .slice AS (len Y) cS, .slice (some ⟨w2.heap.size, 0, none⟩) 1 1]) r from ⟨_, _, by rw [p3]; rw [decide_eq_true hYp.out]; rfl, by rw [p1]; exact hkF _ _ hv9.out, by rw [p2]; exact hkF _ _ hone.out⟩)
      have FB := hid hbF
      clear hbF hkF p1 p2 p3
      go_wp2_with fail
      refine bodyPost_ret (v := .agg #[.bool true, .slice AS (len Y) cS, .slice (some ⟨w2.heap.size, 0, none⟩) 1 1]) ?_ rfl ⟨_, rfl, FIN.out, chain b0.out (by rw [hsA.out]; exact FB.out)⟩
      simp [results, Tryz.results40, go_sem, r0, r1, r2]
end Go.Proofs.YtfppimacnhcflaaGreatDoor.Rf
namespace Go.Proofs.YtfppimacnhcflaaGreatDoor
open Lib (hid)
open Go.RowKit
open Vx
end Go.Proofs.YtfppimacnhcflaaGreatDoor
namespace Go.Proofs.YtfppimacnhcflaaGreatDoor.Rf
open Lib (hid)
open Go.RowKit
open Rx
open Vx (siz siz_num siz_den)
theorem mulR_val {w : World} {vx vy : Value} {p q r : Rat} (hr : p * q = r) (hx : IsRat w vx p) (hy : IsRat w vy q) (s1 : siz p ≤ 268435456) (s2 : siz q ≤ 268435456) :
    Calls Tryz.prog 28 #[vx, vy] w (RatRet w r) := mulR_any hr hx hy (big_len s1).1 (big_len s1).2 (big_len s2).1 (big_len s2).2
theorem floorR_val {w : World} {vx : Value} {q r : Rat} (hr : flr q = r) (hx : IsRat w vx q) (s1 : siz q ≤ 268435456) : Calls Tryz.prog 40 #[vx] w (RatRet w r) := floorR_any hr hx (big_len s1).1 (big_len s1).2
end Go.Proofs.YtfppimacnhcflaaGreatDoor.Rf
namespace Go.Proofs.YtfppimacnhcflaaGreatDoor.Rf
open Lib (hid)
open Go.RowKit
open Rx
open Vx (siz siz_num siz_den)
open List renaming getElem?_toArray → lg, getElem?_cons_zero → lz, getElem?_cons_succ → ls, setIfInBounds_toArray → lt, set_cons_zero → ly, set_cons_succ → lu
theorem stay_trans {w w' w'' : World} (h : Stay w w') (k : Live w' w'') : Stay w w'' := fun v q a => k.1 v q (h v q a)
end Go.Proofs.YtfppimacnhcflaaGreatDoor.Rf
namespace Go.Proofs.YtfppimacnhcflaaGreatDoor.Rf
open Lib (hid)
open Go.RowKit
open Rx
open Vx (siz siz_num siz_den)
open List renaming getElem?_toArray → lg, getElem?_cons_zero → lz, getElem?_cons_succ → ls, setIfInBounds_toArray → lt, set_cons_zero → ly, set_cons_succ → lu
theorem siz_ceil (x : Rat) : siz (-(flr (-x))) ≤ siz x := by
  have h1 := Vx.siz_neg (flr (-x))
  have h2 := siz_flr (-x)
  have h3 := Vx.siz_neg x
  omega
theorem ceilR_any {w : World} {vx : Value} {p r : Rat} (hr : -(flr (-p)) = r) (hx : IsRat w vx p) (sp : siz p ≤ 16777216) :
    Calls Tryz.prog 128 #[vx] w (RatRet w r) := by
  obtain ⟨a, ea⟩ : ∃ z : Rat, -p = z := ⟨_, rfl⟩
  obtain ⟨b, eb⟩ : ∃ z : Rat, flr a = z := ⟨_, rfl⟩
  rw [ea, eb] at hr
  have ta : siz a ≤ 268435456 := by rw [← ea, Vx.siz_neg]; omega
  replace ta := hid ta
  replace ea := hid ea
  replace eb := hid eb
  replace hr := hid hr
  clear sp
  obtain ⟨C1, j1, C2, j2, rfl, -, -⟩ := id hx.opened
  replace hx := hid hx
  obtain ⟨w1, hw1⟩ : ∃ u, u = ((w.alloc (.cells #[.bool (decide (p.num < 0)), .slice C1 (len p.num.natAbs) j1, .slice C2 (len p.den) j2] 33)).alloc (.cells #[.bool false, .slice none 0 0, .slice none 0 0] 33)) := ⟨_, rfl⟩
  obtain ⟨b1, g1, g2⟩ := news2' hw1
  replace g1 := hid g1
  replace g2 := hid g2
  replace b1 := hid b1
  go_enter Tryz.func128, Tryz.ntmps128
  go_upto_region 1 with fail
  rw [← hw1]
  clear hw1
  have hg : w1.heap[w.heap.size]? = some (.cells #[.bool (decide (p.num < 0)), .slice C1 (len p.num.natAbs) j1, .slice C2 (len p.den) j2] 33 (0, 0)) := ((Below.refl _ w1).block _ (Array.getElem?_eq_some_iff.1 g1.out).1).trans g1.out
  obtain ⟨z_x_0, z_x_1, z_x_2⟩ := cells3 hg
  clear hg
  have HX := hid (negR_any ea.out (hx.out.keep b1.out))
  go_wp2_with fail
  refine (HX.out).mono ?_
  rintro e w2 ⟨v2, rfl, hv2, b2⟩
  obtain ⟨C3, j3, C4, j4, rfl, -, -⟩ := id hv2.opened
  replace hv2 := hid hv2
  replace b2 := hid b2
  clear HX
  clear z_x_0 z_x_1 z_x_2
  have HX := hid (floorR_val eb.out hv2.out ta.out)
  go_wp2_with fail
  refine (HX.out).mono ?_
  rintro e w3 ⟨v3, rfl, hv3, b3⟩
  obtain ⟨C5, j5, C6, j6, rfl, -, -⟩ := id hv3.opened
  replace hv3 := hid hv3
  replace b3 := hid b3
  clear HX
  have HX := hid (negR_any hr.out hv3.out)
  go_wp2_with fail
  refine (HX.out).mono ?_
  rintro e w4 ⟨v4, rfl, hv4, b4⟩
  obtain ⟨C7, j7, C8, j8, rfl, -, -⟩ := id hv4.opened
  replace hv4 := hid hv4
  replace b4 := hid b4
  clear HX
  have DR := (at_keep g2.out (Below.step (Below.step b2.out b3.out) b4.out))
  have q0 : w4.cell? ⟨w.heap.size + 1, 0, none⟩ = some (.bool false) := cell_of_row _ _ _ _ _ _ DR
  have F0 : w4.frozen? ⟨w.heap.size + 1, 0, none⟩ = false := frozen_of_row w4 (w.heap.size + 1) 0 _ _ DR
  have q1 : w4.cell? ⟨w.heap.size + 1, 1, none⟩ = some (.slice none 0 0) := cell_of_row _ _ _ _ _ _ DR
  have F1 : w4.frozen? ⟨w.heap.size + 1, 1, none⟩ = false := frozen_of_row w4 (w.heap.size + 1) 1 _ _ DR
  have q2 : w4.cell? ⟨w.heap.size + 1, 2, none⟩ = some (.slice none 0 0) := cell_of_row _ _ _ _ _ _ DR
  have F2 : w4.frozen? ⟨w.heap.size + 1, 2, none⟩ = false := frozen_of_row w4 (w.heap.size + 1) 2 _ _ DR
  have FB := (Below.step (Below.step (Below.step b1.out b2.out) b3.out) b4.out)
  have FV := hv4.out
  obtain ⟨ue, hw⟩ : ∃ z, z = (((w4.setCell ⟨w.heap.size + 1, 0, none⟩ (.bool (decide (r.num < 0)))).setCell ⟨w.heap.size + 1, 1, none⟩ (.slice C7 (len r.num.natAbs) j7)).setCell ⟨w.heap.size + 1, 2, none⟩ (.slice C8 (len r.den) j8)) := ⟨_, rfl⟩
  obtain ⟨E_ue, -, LV, BL⟩ := stored3 DR hw
  have FE := hid (LV.rat FV)
  replace FB := hid (BL _ _ (by omega) FB)
  replace E_ue := hid E_ue
  replace hw := hid hw
  clear DR FV LV BL
  go_wp2_with fail
  rw [← hw.out]
  obtain ⟨r0, r1, r2⟩ := cells3 E_ue.out
  refine bodyPost_ret (v := .agg #[.bool (decide (r.num < 0)), .slice C7 (len r.num.natAbs) j7, .slice C8 (len r.den) j8]) ?_ rfl ⟨_, rfl, FE.out, FB.out⟩
  simp [results, Tryz.results128, go_sem, r0, r1, r2]
end Go.Proofs.YtfppimacnhcflaaGreatDoor.Rf
namespace Go.Proofs.YtfppimacnhcflaaGreatDoor
open Lib (hid)
open Go.RowKit
open Vx
theorem cmpQ_le0 {x y : Rat} : cmpQ x y ≤ 0 ↔ x ≤ y := by
  constructor
  · intro h
    rcases Decidable.em (x ≤ y) with h2 | h2
    · exact h2
    · have := cmpQ_gt h2; omega
  · intro h
    have := cmpQ_le h; omega
end Go.Proofs.YtfppimacnhcflaaGreatDoor
namespace Go.Proofs.YtfppimacnhcflaaGreatDoor.Rf
open Lib (hid)
open Go.RowKit
open Rx
open Vx (siz siz_num siz_den)
open List renaming getElem?_toArray → lg, getElem?_cons_zero → lz, getElem?_cons_succ → ls, setIfInBounds_toArray → lt, set_cons_zero → ly, set_cons_succ → lu
theorem sameBox_any {w : World} {vx vy : Value} {a b : Rat} (hx : IsBox w vx a b) (hy : IsRBox w vy a b) (sa : siz a ≤ 4100) (sb : siz b ≤ 4100) (hT : TabAt 0 Lib.deBruijn64tab w) :
    Calls Tryz.prog 52 #[vx, vy] w (BoolRet w true) := by
  have s1 : siz a ≤ 536870912 := by omega
  have s2 : siz b ≤ 536870912 := by omega
  replace s1 := hid s1
  replace s2 := hid s2
  replace sa := hid sa
  replace sb := hid sb
  replace hT := hid hT
  obtain ⟨C1, j1, C2, j2, C3, j3, C4, j4, rfl, hxl, hxh⟩ := id hx.opened
  replace hx := hid hx
  replace hxl := hid hxl
  replace hxh := hid hxh
  obtain ⟨C5, j5, C6, j6, C7, j7, C8, j8, rfl, hyl, hyh⟩ := id hy.opened
  replace hy := hid hy
  replace hyl := hid hyl
  replace hyh := hid hyh
  obtain ⟨w1, hw1⟩ : ∃ u, u = ((w.alloc (.cells #[.bool (decide (a.num < 0)), .slice C1 (Vx.len a.num.natAbs) j1, .slice C2 (Vx.len (below a.den)) j2, .bool (decide (b.num < 0)), .slice C3 (Vx.len b.num.natAbs) j3, .slice C4 (Vx.len (below b.den)) j4] 71)).alloc (.cells #[.bool (decide (a.num < 0)), .slice C5 (len a.num.natAbs) j5, .slice C6 (len a.den) j6, .bool (decide (b.num < 0)), .slice C7 (len b.num.natAbs) j7, .slice C8 (len b.den) j8] 76)) := ⟨_, rfl⟩
  obtain ⟨b1, g1, g2⟩ := news2' hw1
  replace g1 := hid g1
  replace g2 := hid g2
  replace b1 := hid b1
  go_enter Tryz.func52, Tryz.ntmps52
  go_upto_region 1 with fail
  rw [← hw1]
  clear hw1
  go_wp2_with fail
  have HSZa : Hid ((w.heap.size + 2) ≤ w1.heap.size) := hid (by have := at_lt (at_keep g2.out (Below.refl _ w1)); omega)
  have hg : w1.heap[w.heap.size]? = some (.cells #[.bool (decide (a.num < 0)), .slice C1 (Vx.len a.num.natAbs) j1, .slice C2 (Vx.len (below a.den)) j2, .bool (decide (b.num < 0)), .slice C3 (Vx.len b.num.natAbs) j3, .slice C4 (Vx.len (below b.den)) j4] 71 (0, 0)) := ((Below.refl _ w1).block _ (Array.getElem?_eq_some_iff.1 g1.out).1).trans g1.out
  obtain ⟨z_x_0, z_x_1, z_x_2, z_x_3, z_x_4, z_x_5⟩ := cells6 hg
  clear hg
  have hlta_x : w.heap.size < (w.heap.size + 2) := by omega
  have hg : w1.heap[w.heap.size + 1]? = some (.cells #[.bool (decide (a.num < 0)), .slice C5 (len a.num.natAbs) j5, .slice C6 (len a.den) j6, .bool (decide (b.num < 0)), .slice C7 (len b.num.natAbs) j7, .slice C8 (len b.den) j8] 76 (0, 0)) := ((Below.refl _ w1).block _ (Array.getElem?_eq_some_iff.1 g2.out).1).trans g2.out
  obtain ⟨z_y_0, z_y_1, z_y_2, z_y_3, z_y_4, z_y_5⟩ := cells6 hg
  clear hg
  have hlta_y : w.heap.size + 1 < (w.heap.size + 2) := by omega
  have H0 := Held0.start w1 (w.heap.size + 2)
  have H0' := H0
  unfold Held0 at H0'
  refine wp_region_held_drew (S := (fun w' => (∀ b o, b < (w.heap.size + 2) → w'.cell? ⟨b, o, none⟩ = w1.cell? ⟨b, o, none⟩) ∧ Below ((w.heap.size + 2)) w1 w' ∧ Stay w1 w')) (by kernel_rfl) ?_ (fun hHeld => ?_)
  · (try dsimp only)
    exact H0'
  obtain ⟨w2, hw2⟩ : ∃ u, u = w1.drew := ⟨_, rfl⟩
  have b2 : Hid (Below w1.heap.size w1 w2) := by rw [hw2]; exact ⟨rfl, rfl, rfl, Nat.le_refl _, fun _ _ => rfl⟩
  rw [← hw2] at hHeld H0 ⊢
  clear hw2 H0'
  refine tk (i := 0) (h := ?_)
  try simp only [Act.put, lt, ly, lu]
  refine tk (i := 2) (h := ?_)
  try simp only [Act.put, lt, ly, lu]
  refine tk (i := 3) (h := ?_)
  try simp only [Act.put, lt, ly, lu]
  refine wpAnyH_ready (rs := [1]) (by kernel_rfl) (by simp) (AllReadyH.cons (o := ?oq4) ?eq4 ?kq4 AllReadyH.nil)
  case eq4 => simp only [lg, lz, ls]; rfl
  intro K hK; go_simp; go_at_call 95
  refine (boxLo_any (hx.out.keep (Below.step b1.out b2.out)) (Nat.le_trans s1.out (by omega))).mono ?_
  rintro e w3 ⟨v3, rfl, hv3, b3⟩
  obtain ⟨C9, j9, C10, j10, rfl, -, -⟩ := id hv3.opened
  replace hv3 := hid hv3
  replace b3 := hid b3
  have hk3 := hcall_le H0 HSZa b3.out; have hk3' := hk3; unfold Held0 at hk3'; clear hHeld H0
  refine hK.out _ _ ?_ (fun hHeld => ?_)
  · (try dsimp only); with_reducible exact hk3'
  clear hK K hk3'; try simp only [Act.put, lt, ly, lu]
  refine wpAnyH_ready (rs := [4]) (by kernel_rfl) (by simp) (AllReadyH.cons (o := ?oq5) ?eq5 ?kq5 AllReadyH.nil)
  case eq5 => simp only [lg, lz, ls]; rfl
  intro K hK; go_simp; go_at_call 13
  refine (same_any hv3.out (hyl.out.keep (Below.step (Below.step b1.out b2.out) b3.out)) sa.out (tab_keep hT.out (Below.step (Below.step b1.out b2.out) b3.out))).mono ?_
  rintro e w4 ⟨rfl, b4⟩
  replace b4 := hid b4
  have hk4 := hcall_le hk3 HSZa b4.out; have hk4' := hk4; unfold Held0 at hk4'; clear hHeld hk3
  refine hK.out _ _ ?_ (fun hHeld => ?_)
  · (try dsimp only); with_reducible exact hk4'
  clear hK K hk4'; try simp only [Act.put, lt, ly, lu]
  refine tk (i := 5) (h := ?_)
  try simp only [Act.put, lt, ly, lu]
  refine tk (i := 6) (h := ?_)
  try simp only [Act.put, lt, ly, lu]
  refine tk (i := 8) (h := ?_)
  try simp only [Act.put, lt, ly, lu]
  refine tk (i := 9) (h := ?_)
  try simp only [Act.put, lt, ly, lu]
  refine wpAnyH_ready (rs := [7]) (by kernel_rfl) (by simp) (AllReadyH.cons (o := ?oq10) ?eq10 ?kq10 AllReadyH.nil)
  case eq10 => simp only [lg, lz, ls]; rfl
  intro K hK; go_simp; go_at_call 96
  refine (boxHi_any (hx.out.keep (Below.step (Below.step (Below.step b1.out b2.out) b3.out) b4.out)) (Nat.le_trans s2.out (by omega))).mono ?_
  rintro e w5 ⟨v5, rfl, hv5, b5⟩
  obtain ⟨C11, j11, C12, j12, rfl, -, -⟩ := id hv5.opened
  replace hv5 := hid hv5
  replace b5 := hid b5
  have hk5 := hcall_le hk4 HSZa b5.out; have hk5' := hk5; unfold Held0 at hk5'; clear hHeld hk4
  refine hK.out _ _ ?_ (fun hHeld => ?_)
  · (try dsimp only); with_reducible exact hk5'
  clear hK K hk5'; try simp only [Act.put, lt, ly, lu]
  refine wpAnyH_ready (rs := [10]) (by kernel_rfl) (by simp) (AllReadyH.cons (o := ?oq11) ?eq11 ?kq11 AllReadyH.nil)
  case eq11 => simp only [lg, lz, ls]; rfl
  intro K hK; go_simp; go_at_call 13
  refine (same_any hv5.out (hyh.out.keep (Below.step (Below.step (Below.step (Below.step b1.out b2.out) b3.out) b4.out) b5.out)) sb.out (tab_keep hT.out (Below.step (Below.step (Below.step (Below.step b1.out b2.out) b3.out) b4.out) b5.out))).mono ?_
  rintro e w6 ⟨rfl, b6⟩
  replace b6 := hid b6
  have hk6 := hcall_le hk5 HSZa b6.out; have hk6' := hk6; unfold Held0 at hk6'; clear hHeld hk5
  refine hK.out _ _ ?_ (fun hHeld => ?_)
  · (try dsimp only); with_reducible exact hk6'
  clear hK K hk6'; try simp only [Act.put, lt, ly, lu]
  refine tk (i := 11) (h := ?_)
  try simp only [Act.put, lt, ly, lu]
  refine tk (i := 12) (h := ?_)
  try simp only [Act.put, lt, ly, lu]
  have HE := hid (Below.step (Below.step (Below.step (Below.step (Below.step b1.out b2.out) b3.out) b4.out) b5.out) b6.out)
  refine wpAnyH_done (by kernel_rfl) ?_ _
  clear hHeld
  go_wp2_with fail
  go_ret
  exact ⟨rfl, HE.out⟩
theorem none_any {w : World} {vx : Value} {a b : Rat} (ha : a = 0) (hb : b = 0) (hx : IsBox w vx a b) :
    Calls Tryz.prog 50 #[vx] w (BoolRet w true) := by
  have ea : a.num.sign = 0 := by rw [ha]; rfl
  have eb : b.num.sign = 0 := by rw [hb]; rfl
  have s1 : siz a ≤ 3 := by rw [ha]; decide +kernel
  have s2 : siz b ≤ 3 := by rw [hb]; decide +kernel
  clear ha hb
  replace ea := hid ea
  replace eb := hid eb
  replace s1 := hid s1
  replace s2 := hid s2
  obtain ⟨C1, j1, C2, j2, C3, j3, C4, j4, rfl, hxl, hxh⟩ := id hx.opened
  replace hx := hid hx
  replace hxl := hid hxl
  replace hxh := hid hxh
  obtain ⟨w1, hw1⟩ : ∃ u, u = (w.alloc (.cells #[.bool (decide (a.num < 0)), .slice C1 (Vx.len a.num.natAbs) j1, .slice C2 (Vx.len (below a.den)) j2, .bool (decide (b.num < 0)), .slice C3 (Vx.len b.num.natAbs) j3, .slice C4 (Vx.len (below b.den)) j4] 71)) := ⟨_, rfl⟩
  have b1 := alloc_below w (.cells #[.bool (decide (a.num < 0)), .slice C1 (Vx.len a.num.natAbs) j1, .slice C2 (Vx.len (below a.den)) j2, .bool (decide (b.num < 0)), .slice C3 (Vx.len b.num.natAbs) j3, .slice C4 (Vx.len (below b.den)) j4] 71)
  have g1 := heap_alloc_new w (.cells #[.bool (decide (a.num < 0)), .slice C1 (Vx.len a.num.natAbs) j1, .slice C2 (Vx.len (below a.den)) j2, .bool (decide (b.num < 0)), .slice C3 (Vx.len b.num.natAbs) j3, .slice C4 (Vx.len (below b.den)) j4] 71)
  rw [← hw1] at b1 g1
  replace g1 := hid g1
  replace b1 := hid b1
  go_enter Tryz.func50, Tryz.ntmps50
  go_upto_region 1 with fail
  rw [← hw1]
  clear hw1
  have hg : w1.heap[w.heap.size]? = some (.cells #[.bool (decide (a.num < 0)), .slice C1 (Vx.len a.num.natAbs) j1, .slice C2 (Vx.len (below a.den)) j2, .bool (decide (b.num < 0)), .slice C3 (Vx.len b.num.natAbs) j3, .slice C4 (Vx.len (below b.den)) j4] 71 (0, 0)) := ((Below.refl _ w1).block _ (Array.getElem?_eq_some_iff.1 g1.out).1).trans g1.out
  obtain ⟨z_x_0, z_x_1, z_x_2, z_x_3, z_x_4, z_x_5⟩ := cells6 hg
  clear hg
  have HX := hid (boxLo_any (hx.out.keep b1.out) (Nat.le_trans s1.out (by omega)))
  go_wp2_with fail
  refine (HX.out).mono ?_
  rintro e w2 ⟨v2, rfl, hv2, b2⟩
  obtain ⟨C5, j5, C6, j6, rfl, -, -⟩ := id hv2.opened
  replace hv2 := hid hv2
  replace b2 := hid b2
  clear HX
  clear z_x_0 z_x_1 z_x_2 z_x_3 z_x_4 z_x_5
  have HX := hid (sign_val ea.out hv2.out)
  go_wp2_with fail
  refine (HX.out).mono ?_
  rintro e w3 ⟨rfl, b3⟩
  replace b3 := hid b3
  clear HX
  have hg : w3.heap[w.heap.size]? = some (.cells #[.bool (decide (a.num < 0)), .slice C1 (Vx.len a.num.natAbs) j1, .slice C2 (Vx.len (below a.den)) j2, .bool (decide (b.num < 0)), .slice C3 (Vx.len b.num.natAbs) j3, .slice C4 (Vx.len (below b.den)) j4] 71 (0, 0)) := ((Below.step b2.out b3.out).block _ (Array.getElem?_eq_some_iff.1 g1.out).1).trans g1.out
  obtain ⟨z_x_0, z_x_1, z_x_2, z_x_3, z_x_4, z_x_5⟩ := cells6 hg
  clear hg
  have HX := hid (boxHi_any (hx.out.keep (Below.step (Below.step b1.out b2.out) b3.out)) (Nat.le_trans s2.out (by omega)))
  go_wp2_with fail
  refine (HX.out).mono ?_
  rintro e w4 ⟨v4, rfl, hv4, b4⟩
  obtain ⟨C7, j7, C8, j8, rfl, -, -⟩ := id hv4.opened
  replace hv4 := hid hv4
  replace b4 := hid b4
  clear HX
  clear z_x_0 z_x_1 z_x_2 z_x_3 z_x_4 z_x_5
  have HX := hid (sign_val eb.out hv4.out)
  go_wp2_with fail
  refine (HX.out).mono ?_
  rintro e w5 ⟨rfl, b5⟩
  replace b5 := hid b5
  clear HX
  have HE := hid (Below.step (Below.step (Below.step (Below.step b1.out b2.out) b3.out) b4.out) b5.out)
  go_wp2_with fail
  go_ret
  exact ⟨rfl, HE.out⟩
end Go.Proofs.YtfppimacnhcflaaGreatDoor.Rf
namespace Go.Proofs.YtfppimacnhcflaaGreatDoor.Rf
open Lib (hid)
open Go.RowKit
theorem newz1 {w u : World} {o : Obj} (h : u = w.alloc o) : u.heap[w.heap.size]? = some o := h ▸ heap_alloc_new w o
theorem newb1 {w u : World} {o : Obj} (h : u = w.alloc o) : Below w.heap.size w u := h ▸ alloc_below w o
theorem newz2 {w u : World} {o1 o2 : Obj} (h : u = (w.alloc o1).alloc o2) : Below w.heap.size w u ∧ u.heap[w.heap.size]? = some o1 ∧ u.heap[w.heap.size + 1]? = some o2 := h ▸ news2 w o1 o2
end Go.Proofs.YtfppimacnhcflaaGreatDoor.Rf
namespace Go.Proofs.YtfppimacnhcflaaGreatDoor
open Lib (hid)
open Vx
theorem div_nonneg {a g : Rat} (hg : 0 < g) (ha : 0 ≤ a) : 0 ≤ a / g := by
  rw [Rat.div_def]; exact Rat.mul_nonneg ha (Rat.le_of_lt (Rat.inv_pos.2 hg))
theorem nat_le {a b : Nat} (h : a ≤ b) : (a : Rat) ≤ (b : Rat) := Rat.natCast_le_natCast.2 h
end Go.Proofs.YtfppimacnhcflaaGreatDoor
namespace Go.Proofs.YtfppimacnhcflaaGreatDoor
open Lib (hid)
open Vx
theorem flr_floor (x : Rat) : flr x = (x.floor : Rat) := by
  unfold flr
  rw [Rat.floor_def, Rat.mkRat_one]
theorem flr_le (x : Rat) : flr x ≤ x := by rw [flr_floor]; exact Rat.floor_le x
theorem lt_flr (x : Rat) : x < flr x + 1 := by
  have h := Rat.lt_floor_add_one x
  rw [Rat.intCast_add] at h
  rw [flr_floor]; exact h
theorem div_mul_pos {a g : Rat} (hg : 0 < g) : a / g * g = a := Rat.div_mul_cancel (by intro h; rw [h] at hg; exact absurd hg (by decide))
theorem flr_nat {x : Rat} (h : 0 ≤ x) : flr x = (((flr x).num.natAbs : Nat) : Rat) := by
  have h1 : 0 ≤ x.floor := by rw [Rat.le_floor_iff]; exact h
  rw [flr_floor, Rat.num_intCast]
  obtain ⟨n, hn⟩ := Int.eq_ofNat_of_zero_le h1
  rw [hn]; simp [Rat.intCast_natCast]
theorem ceil_nat {x : Rat} (h : 0 ≤ x) : -flr (-x) = (((-flr (-x)).num.natAbs : Nat) : Rat) := by
  have h2 : (-x).floor ≤ 0 := by
    have h3 := Rat.floor_le (-x)
    have h4 : (((-x).floor : Int) : Rat) ≤ ((0 : Int) : Rat) := by
      refine Rat.le_trans h3 ?_
      have : ((0 : Int) : Rat) = 0 := rfl
      rw [this]; grind
    exact Rat.intCast_le_intCast.1 h4
  have e : -flr (-x) = ((-(-x).floor : Int) : Rat) := by rw [flr_floor, Rat.intCast_neg]
  rw [e, Rat.num_intCast]
  obtain ⟨n, hn⟩ := Int.eq_ofNat_of_zero_le (show 0 ≤ -(-x).floor by omega)
  rw [hn]; simp [Rat.intCast_natCast]
theorem up_sq (h : Nat) : h ≤ upRoot h * upRoot h := by
  unfold upRoot
  have h1 := root_lt h
  split
  · omega
  · rename_i h2; omega
theorem up_below {h m : Nat} (e : upRoot h = m + 1) : m * m < h := by
  unfold upRoot at e
  split at e
  · rename_i h2; rw [show m = rootOf h by omega]; exact h2
  · rename_i h2
    have h1 := root_sq h
    have : m * m < rootOf h * rootOf h := by
      rw [e]; exact Nat.mul_self_lt_mul_self (by omega)
    omega
theorem up_least {h m : Nat} (hm : h ≤ m * m) : upRoot h ≤ m := by
  rcases Nat.lt_or_ge m (upRoot h) with h1 | h1
  · obtain ⟨k, hk⟩ : ∃ k, upRoot h = k + 1 := ⟨upRoot h - 1, by omega⟩
    have h2 := up_below hk
    have h3 : m * m ≤ k * k := Nat.mul_le_mul (by omega) (by omega)
    omega
  · exact h1
def lowRt (a g : Rat) : Rat := ((rootOf (flr (a / (g * g))).num.natAbs : Nat) : Rat) * g
def highRt (b g : Rat) : Rat := ((upRoot (-flr (-(b / (g * g)))).num.natAbs : Nat) : Rat) * g
theorem sq_pos {g : Rat} (hg : 0 < g) : 0 < g * g := Rat.mul_pos hg hg
theorem low_nonneg {a g : Rat} (hg : 0 < g) : 0 ≤ lowRt a g := Rat.mul_nonneg (by exact nat_le (Nat.zero_le _)) (Rat.le_of_lt hg)
theorem low_sq {a g : Rat} (hg : 0 < g) (ha : 0 ≤ a) : lowRt a g * lowRt a g ≤ a := by
  have hq := sq_pos hg
  have h0 := div_nonneg hq ha
  unfold lowRt
  have h1 := flr_nat h0
  have h2 := flr_le (a / (g * g))
  obtain ⟨N, hN⟩ : ∃ N, N = (flr (a / (g * g))).num.natAbs := ⟨_, rfl⟩
  rw [← hN] at h1 ⊢
  rw [h1] at h2
  have h3 := nat_le (root_sq N)
  rw [Rat.natCast_mul] at h3
  have h4 := Rat.mul_le_mul_of_nonneg_right (Rat.le_trans h3 h2) (Rat.le_of_lt hq)
  rw [div_mul_pos hq] at h4
  grind
theorem low_up {a g : Rat} (hg : 0 < g) (ha : 0 ≤ a) : a < (lowRt a g + g) * (lowRt a g + g) := by
  have hq := sq_pos hg
  have h0 := div_nonneg hq ha
  unfold lowRt
  have h1 := flr_nat h0
  have h2 := lt_flr (a / (g * g))
  obtain ⟨N, hN⟩ : ∃ N, N = (flr (a / (g * g))).num.natAbs := ⟨_, rfl⟩
  rw [← hN] at h1 ⊢
  rw [h1] at h2
  have h3 := nat_le (show N + 1 ≤ (rootOf N + 1) * (rootOf N + 1) from root_lt N)
  rw [Rat.natCast_mul, Rat.natCast_add, Rat.natCast_add] at h3
  have h6 : ((1 : Nat) : Rat) = 1 := rfl
  rw [h6] at h3
  have h4 := Rat.mul_lt_mul_of_pos_right (show a / (g * g) < ((rootOf N : Rat) + 1) * ((rootOf N : Rat) + 1) by grind) hq
  rw [div_mul_pos hq] at h4
  grind
theorem high_sq {b g : Rat} (hg : 0 < g) (hb : 0 ≤ b) : b ≤ highRt b g * highRt b g := by
  have hq := sq_pos hg
  have h0 := div_nonneg hq hb
  unfold highRt
  have h1 := ceil_nat h0
  have h2 := flr_le (-(b / (g * g)))
  obtain ⟨N, hN⟩ : ∃ N, N = (-flr (-(b / (g * g)))).num.natAbs := ⟨_, rfl⟩
  rw [← hN] at h1 ⊢
  have h3 := nat_le (up_sq N)
  rw [Rat.natCast_mul] at h3
  have h5 : b / (g * g) ≤ (upRoot N : Rat) * (upRoot N : Rat) := by grind
  have h4 := Rat.mul_le_mul_of_nonneg_right h5 (Rat.le_of_lt hq)
  rw [div_mul_pos hq] at h4
  grind
theorem high_down {b g : Rat} (hg : 0 < g) (hb : 0 ≤ b) (h : 0 ≤ highRt b g - g) : (highRt b g - g) * (highRt b g - g) < b := by
  have hq := sq_pos hg
  have h0 := div_nonneg hq hb
  unfold highRt at h ⊢
  have h1 := ceil_nat h0
  have h2 := lt_flr (-(b / (g * g)))
  obtain ⟨N, hN⟩ : ∃ N, N = (-flr (-(b / (g * g)))).num.natAbs := ⟨_, rfl⟩
  rw [← hN] at h1 h ⊢
  rcases hm : upRoot N with _ | m
  · exfalso
    rw [hm] at h
    have : ((0 : Nat) : Rat) = 0 := rfl
    rw [this] at h
    grind
  · have h3 := nat_le (show m * m + 1 ≤ N from up_below hm)
    rw [Rat.natCast_add, Rat.natCast_mul] at h3
    have h6 : ((1 : Nat) : Rat) = 1 := rfl
    rw [h6] at h3
    have h5 : (m : Rat) * (m : Rat) < b / (g * g) := by grind
    have h4 := Rat.mul_lt_mul_of_pos_right h5 hq
    rw [div_mul_pos hq] at h4
    rw [Rat.natCast_add, h6]
    grind
theorem root_near {x g : Rat} (hg : 0 < g) (hx : 0 ≤ x) : highRt x g - lowRt x g < g + g := by
  have hq := sq_pos hg
  have h0 := div_nonneg hq hx
  have h1 := ceil_nat h0
  have h2 := flr_nat h0
  have h3 := lt_flr (x / (g * g))
  have h4 := lt_flr (-(x / (g * g)))
  unfold highRt lowRt
  obtain ⟨M, hM⟩ : ∃ M, M = (-flr (-(x / (g * g)))).num.natAbs := ⟨_, rfl⟩
  obtain ⟨N, hN⟩ : ∃ N, N = (flr (x / (g * g))).num.natAbs := ⟨_, rfl⟩
  rw [← hM] at h1 ⊢
  rw [← hN] at h2 ⊢
  have h6 : ((1 : Nat) : Rat) = 1 := rfl
  have h5 : (M : Rat) < ((N + 2 : Nat) : Rat) := by
    rw [Rat.natCast_add]
    have : ((2 : Nat) : Rat) = 2 := rfl
    rw [this]; grind
  have h7 : M ≤ N + 1 := by have := Rat.natCast_lt_natCast.1 h5; omega
  have h8 : upRoot M ≤ rootOf N + 1 := up_least (Nat.le_trans h7 (root_lt N))
  have h9 := nat_le h8
  rw [Rat.natCast_add, h6] at h9
  have h10 := Rat.mul_le_mul_of_nonneg_right h9 (Rat.le_of_lt hg)
  grind
theorem num_pos {q : Rat} : 0 < q.num ↔ 0 < q := by
  have h := Rat.num_nonneg (q := -q)
  rw [Rat.neg_num] at h
  constructor
  · intro h1
    rcases Decidable.em (0 < q) with h2 | h2
    · exact h2
    · have := h.2 (by grind)
      omega
  · intro h1
    rcases Decidable.em (0 < q.num) with h2 | h2
    · exact h2
    · have := h.1 (by omega)
      grind
theorem num_nonneg {q : Rat} : 0 ≤ q.num ↔ 0 ≤ q := by rw [Rat.num_nonneg]
end Go.Proofs.YtfppimacnhcflaaGreatDoor
namespace Go.Proofs.YtfppimacnhcflaaGreatDoor
open Lib (hid)
open Go.RowKit
open Vx
theorem mul_q {w : World} {vx vy : Value} {x y q : Rat} (hq : x * y = q) (hx : IsNum w vx x) (hy : IsNum w vy y) (hs : siz x ≤ 34359738368) (ht : siz y ≤ 34359738368) :
    Calls Tryz.prog 27 #[vx, vy] w (NumRet w q) := by rw [← hq]; exact numMul_any hx hy hs ht
theorem over_q {w : World} {vx vy : Value} {x y q : Rat} (hq : x / y = q) (hx : IsNum w vx x) (hy : IsNum w vy y) (hs : siz x ≤ 34359738368) (ht : siz y ≤ 34359738368) :
    Calls Tryz.prog 117 #[vx, vy] w (NumRet w q) := by rw [← hq]; exact numOver_any hx hy hs ht
theorem floor_q {w : World} {vx : Value} {x q : Rat} (hq : flr x = q) (hx : IsNum w vx x) (hs : siz x ≤ 34359738368) :
    Calls Tryz.prog 39 #[vx] w (NumRet w q) := by rw [← hq]; exact numFloor_any hx hs
theorem ceil_q {w : World} {vx : Value} {x q : Rat} (hq : -flr (-x) = q) (hx : IsNum w vx x) (hs : siz x ≤ 34359738368) :
    Calls Tryz.prog 125 #[vx] w (NumRet w q) := by rw [← hq]; exact numCeil_any hx hs
theorem boxOut_any {w : World} {v vg : Value} {a b g : Rat} (hv : IsBox w v a b) (hg : IsNum w vg g) (sa : siz a ≤ 1073741824) (sb : siz b ≤ 1073741824) (sg : siz g ≤ 1073741824) (hpos : 0 < g.num) :
    Calls Tryz.prog 81 #[v, vg] w (BoxErrRet w (flr (a / g) * g) (-flr (-(b / g)) * g) 0) := by
  obtain ⟨A1, c1, A2, c2, A3, c3, A4, c4, rfl, ha, hb⟩ := hv.opened
  obtain ⟨A5, c5, A6, c6, rfl, -, -⟩ := id hg.opened
  obtain ⟨wB, hwB⟩ : ∃ u, u = ((w.alloc (.cells #[.bool (decide (a.num < 0)), .slice A1 (len a.num.natAbs) c1, .slice A2 (len (below a.den)) c2, .bool (decide (b.num < 0)), .slice A3 (len b.num.natAbs) c3, .slice A4 (len (below b.den)) c4] 71)).alloc (.cells #[.bool (decide (g.num < 0)), .slice A5 (len g.num.natAbs) c5, .slice A6 (len (below g.den)) c6] 25)).alloc (.cells #[.bool false, .slice none 0 0, .slice none 0 0, .bool false, .slice none 0 0, .slice none 0 0] 71) := ⟨_, rfl⟩
  obtain ⟨b0, g0, g1, g2⟩ := news3' hwB
  obtain ⟨k0, k1, k2, k3, k4, k5⟩ := cells6 g0
  obtain ⟨k6, k7, k8⟩ := cells3 g1
  have HK0 := hid (Kept.start (T := 71) rfl plain6 g2)
  have HB0 := hid b0
  have hlt1 : w.heap.size < w.heap.size + 2 := by omega
  have hlt2 : w.heap.size + 1 < w.heap.size + 2 := by omega
  clear g0 g1 g2 b0
  have e0 : decide (g.num.sign ≤ 0) = false := decide_eq_false (by rw [Int.sign_eq_one_of_pos hpos]; omega)
  obtain ⟨y0, hy0⟩ : ∃ z : Int, z = g.num.sign := ⟨_, rfl⟩
  have HS := hid (numSign_any (hg.keep HB0.out))
  rw [← hy0] at e0 HS
  clear hy0 hpos
  obtain ⟨q1, e1⟩ : ∃ z : Rat, a / g = z := ⟨_, rfl⟩
  obtain ⟨q4, e4⟩ : ∃ z : Rat, b / g = z := ⟨_, rfl⟩
  rw [e1, e4]
  obtain ⟨q2, e2⟩ : ∃ z : Rat, flr q1 = z := ⟨_, rfl⟩
  obtain ⟨q5, e5⟩ : ∃ z : Rat, -flr (-q4) = z := ⟨_, rfl⟩
  rw [e2, e5]
  obtain ⟨q3, e3⟩ : ∃ z : Rat, q2 * g = z := ⟨_, rfl⟩
  obtain ⟨q6, e6⟩ : ∃ z : Rat, q5 * g = z := ⟨_, rfl⟩
  rw [e3, e6]
  have y1 : siz q1 ≤ 2147483648 := by rw [← e1]; exact Nat.le_trans (siz_div a g) (by omega)
  have y4 : siz q4 ≤ 2147483648 := by rw [← e4]; exact Nat.le_trans (siz_div b g) (by omega)
  have y2 : siz q2 ≤ 2147483648 := by rw [← e2]; exact Nat.le_trans (siz_flr q1) y1
  have y5 : siz q5 ≤ 2147483648 := by rw [← e5, siz_neg]; exact Nat.le_trans (siz_flr (-q4)) (by rw [siz_neg]; exact y4)
  have z1 : Hid (siz q1 ≤ 34359738368) := Nat.le_trans y1 (by omega)
  have z2 : Hid (siz q2 ≤ 34359738368) := Nat.le_trans y2 (by omega)
  have z4 : Hid (siz q4 ≤ 34359738368) := Nat.le_trans y4 (by omega)
  have z5 : Hid (siz q5 ≤ 34359738368) := Nat.le_trans y5 (by omega)
  have zg : Hid (siz g ≤ 34359738368) := Nat.le_trans sg (by omega)
  have za : Hid (siz a ≤ 34359738368) := Nat.le_trans sa (by omega)
  have zb : Hid (siz b ≤ 34359738368) := Nat.le_trans sb (by omega)
  replace e1 := hid e1
  replace e2 := hid e2
  replace e3 := hid e3
  replace e4 := hid e4
  replace e5 := hid e5
  replace e6 := hid e6
  replace ha := hid ha
  replace hb := hid hb
  replace hg := hid hg
  clear hv sa sb sg y1 y2 y4 y5
  go_enter Tryz.func81, Tryz.ntmps81
  go_upto_region 1 with fail
  rw [← hwB]
  clear hwB
  go_wp2_with fail
  refine (HS.out).mono ?_
  rintro e w0 ⟨rfl, b1⟩
  have HK1 := hid (HK0.out.call b1)
  have HB1 := below_to HB0.out (by omega) HK1.out.1
  have hgn := hid (hg.out.keep HB1)
  have H1 := fun (w' : World) (hk : Held6 wB (w.heap.size + 2) w0 w') => hid (over_q e1.out (hk.stay.num (ha.out.keep HB1)) (hk.stay.num hgn.out) za.out zg.out)
  have H4 := fun (w' : World) (hk : Held6 wB (w.heap.size + 2) w0 w') => hid (over_q e4.out (hk.stay.num (hb.out.keep HB1)) (hk.stay.num hgn.out) zb.out zg.out)
  have H0 := HK1.out.begin6
  have H0' := H0
  unfold Held6 at H0'
  clear HS b1 HB1
  go_wp2_with fail
  go_region_held3 (fun w' => (∀ b o, b < w.heap.size + 2 → w'.cell? ⟨b, o, none⟩ = wB.cell? ⟨b, o, none⟩) ∧ w'.cell? ⟨w.heap.size + 2, 0, none⟩ = some (cur w' ⟨w.heap.size + 2, 0, none⟩) ∧ w'.cell? ⟨w.heap.size + 2, 1, none⟩ = some (cur w' ⟨w.heap.size + 2, 1, none⟩) ∧ w'.cell? ⟨w.heap.size + 2, 2, none⟩ = some (cur w' ⟨w.heap.size + 2, 2, none⟩) ∧ w'.cell? ⟨w.heap.size + 2, 3, none⟩ = some (cur w' ⟨w.heap.size + 2, 3, none⟩) ∧ w'.cell? ⟨w.heap.size + 2, 4, none⟩ = some (cur w' ⟨w.heap.size + 2, 4, none⟩) ∧ w'.cell? ⟨w.heap.size + 2, 5, none⟩ = some (cur w' ⟨w.heap.size + 2, 5, none⟩) ∧ w'.frozen? ⟨w.heap.size + 2, 0, none⟩ = false ∧ w'.frozen? ⟨w.heap.size + 2, 1, none⟩ = false ∧ w'.frozen? ⟨w.heap.size + 2, 2, none⟩ = false ∧ w'.frozen? ⟨w.heap.size + 2, 3, none⟩ = false ∧ w'.frozen? ⟨w.heap.size + 2, 4, none⟩ = false ∧ w'.frozen? ⟨w.heap.size + 2, 5, none⟩ = false ∧ Kept 6 71 wB (w.heap.size + 2) w' ∧ Stay w0 w')
    (first | with_reducible exact H0' | with_reducible exact hk1' | with_reducible exact hk2' | with_reducible exact hk3' | with_reducible exact hk4' | with_reducible exact hk5' | with_reducible exact hk6' | exact hk6.store)
    (first | (go_at_call 27; refine (mul_q e6.out hv5 (hk5.stay.num hgn.out) z5.out zg.out).mono ?_; rintro e w6 ⟨v6, rfl, hv6, hbl6⟩; obtain ⟨C11, j11, C12, j12, rfl, -, -⟩ := id hv6.opened; have hk6 := hk5.call hbl6; have hk6' := hk6; unfold Held6 at hk6') | (go_at_call 125; refine (ceil_q e5.out hv4 z4.out).mono ?_; rintro e w5 ⟨v5, rfl, hv5, hbl5⟩; obtain ⟨C9, j9, C10, j10, rfl, -, -⟩ := id hv5.opened; have hk5 := hk4.call hbl5; have hk5' := hk5; unfold Held6 at hk5') | (go_at_call 117; refine ((H4 _ hk3).out).mono ?_; rintro e w4 ⟨v4, rfl, hv4, hbl4⟩; obtain ⟨C7, j7, C8, j8, rfl, -, -⟩ := id hv4.opened; have hk4 := hk3.call hbl4; have hk4' := hk4; unfold Held6 at hk4') | (go_at_call 27; refine (mul_q e3.out hv2 (hk2.stay.num hgn.out) z2.out zg.out).mono ?_; rintro e w3 ⟨v3, rfl, hv3, hbl3⟩; obtain ⟨C5, j5, C6, j6, rfl, -, -⟩ := id hv3.opened; have hk3 := hk2.call hbl3; have hk3' := hk3; unfold Held6 at hk3') | (go_at_call 39; refine (floor_q e2.out hv1 z1.out).mono ?_; rintro e w2 ⟨v2, rfl, hv2, hbl2⟩; obtain ⟨C3, j3, C4, j4, rfl, -, -⟩ := id hv2.opened; have hk2 := hk1.call hbl2; have hk2' := hk2; unfold Held6 at hk2') | (go_at_call 117; refine ((H1 _ H0).out).mono ?_; rintro e w1 ⟨v1, rfl, hv1, hbl1⟩; obtain ⟨C1, j1, C2, j2, rfl, -, -⟩ := id hv1.opened; have hk1 := H0.call hbl1; have hk1' := hk1; unfold Held6 at hk1'))
  rename_i hHl
  clear hHl
  have hv3' := ((hv3.keep hbl4).keep hbl5).keep hbl6
  have HD := hk6.done (p := q3) (q := q6) (s1 := decide (q3.num < 0)) (A1 := C5) (n1 := len q3.num.natAbs) (c1 := j5) (A2 := C6) (n2 := len (below q3.den)) (c2 := j6) (s2 := decide (q6.num < 0)) (A3 := C11) (n3 := len q6.num.natAbs) (c3 := j11) (A4 := C12) (n4 := len (below q6.den)) (c4 := j12) (hv3') (hv6)
  obtain ⟨d1, d2, d3⟩ := HD
  obtain ⟨r0, r1, r2, r3, r4, r5⟩ := cells6 d3
  have HD := hid (And.intro d1 d2)
  clear d1 d2 d3
  go_wp2_with fail
  refine bodyPost_ret (v := .tuple #[.agg #[.bool (decide (q3.num < 0)), .slice (C5) (len q3.num.natAbs) (j5), .slice (C6) (len (below q3.den)) (j6), .bool (decide (q6.num < 0)), .slice (C11) (len q6.num.natAbs) (j11), .slice (C12) (len (below q6.den)) (j12)], .int .i64 0]) ?_ rfl ⟨_, rfl, HD.out.1, below_to HB0.out (by omega) HD.out.2⟩
  simp [results, Tryz.results81, go_sem, r0, r1, r2, r3, r4, r5]
end Go.Proofs.YtfppimacnhcflaaGreatDoor
namespace Go.Proofs.YtfppimacnhcflaaGreatDoor
open Lib (hid)
open Go.RowKit
open Vx
theorem out_val {w : World} {v vg : Value} {a b g p q : Rat} (h1 : flr (a / g) * g = p) (h2 : -flr (-(b / g)) * g = q) (hv : IsBox w v a b) (hg : IsNum w vg g) (sa : siz a ≤ 536870912) (sb : siz b ≤ 536870912) (sg : siz g ≤ 536870912) (hpos : 0 < g.num) :
    Calls Tryz.prog 81 #[v, vg] w (BoxErrRet w p q 0) := by
  rw [← h1, ← h2]; exact boxOut_any hv hg (Nat.le_trans sa (by omega)) (Nat.le_trans sb (by omega)) (Nat.le_trans sg (by omega)) hpos
theorem root_val' {w : World} {v vg : Value} {a b g p q : Rat} (h1 : lowRt a g = p) (h2 : highRt b g = q) (hv : IsBox w v a b) (hg : IsNum w vg g) (sa : siz a ≤ 1048576) (sb : siz b ≤ 1048576) (sg : siz g ≤ 1048576) (hpos : 0 < g.num) (hmin : 0 ≤ a.num) :
    Calls Tryz.prog 80 #[v, vg] w (BoxErrRet w p q 0) :=
  boxRoot_to hv hg sa sb sg hpos hmin rfl rfl rfl rfl rfl rfl rfl h1.symm h2.symm
theorem up_le (h : Nat) : upRoot h ≤ h := up_least (by
  rcases Nat.eq_zero_or_pos h with h0 | h0
  · rw [h0]; exact Nat.le_refl _
  · exact Nat.le_mul_of_pos_left h h0)
theorem siz_low {a g : Rat} {A G : Nat} (ha : siz a ≤ A) (hg : siz g ≤ G) : siz (lowRt a g) ≤ A + 3 * G + 1 := by
  unfold lowRt
  have h1 := siz_mul ((rootOf (flr (a / (g * g))).num.natAbs : Nat) : Rat) g
  have h2 := siz_nat (rootOf (flr (a / (g * g))).num.natAbs)
  have h3 := len_mono (rootOf_le (flr (a / (g * g))).num.natAbs)
  have h4 := siz_num (flr (a / (g * g)))
  have h5 := siz_flr (a / (g * g))
  have h6 := siz_div a (g * g)
  have h7 := siz_mul g g
  omega
theorem siz_high {a g : Rat} {A G : Nat} (ha : siz a ≤ A) (hg : siz g ≤ G) : siz (highRt a g) ≤ A + 3 * G + 1 := by
  unfold highRt
  have h1 := siz_mul ((upRoot (-flr (-(a / (g * g)))).num.natAbs : Nat) : Rat) g
  have h2 := siz_nat (upRoot (-flr (-(a / (g * g)))).num.natAbs)
  have h3 := len_mono (up_le (-flr (-(a / (g * g)))).num.natAbs)
  have h4 := siz_num (-flr (-(a / (g * g))))
  have h5 := siz_flr (-(a / (g * g)))
  have h6 := siz_div a (g * g)
  have h7 := siz_mul g g
  rw [siz_neg] at h4 h5
  omega
end Go.Proofs.YtfppimacnhcflaaGreatDoor
namespace Go.Proofs.YtfppimacnhcflaaGreatDoor
open Lib (hid)
open Vx
def rootk (x g : Rat) : Nat := rootOf (flr (x / (g * g))).num.natAbs
theorem low_rootk (x g : Rat) : ((rootk x g : Nat) : Rat) * g = lowRt x g := rfl
theorem sq_mono {a b : Rat} (h0 : 0 ≤ a) (h : a ≤ b) : a * a ≤ b * b := Rat.le_trans (Rat.mul_le_mul_of_nonneg_left h h0) (Rat.mul_le_mul_of_nonneg_right h (Rat.le_trans h0 h))
theorem fits_le {x g : Rat} {N : Nat} (hg : 0 < g) (hx : 0 ≤ x) : decide ((((N : Nat) : Rat) * g) * (((N : Nat) : Rat) * g) ≤ x) = decide (N ≤ rootk x g) := by
  have hg0 := Rat.le_of_lt hg
  have h0 : 0 ≤ ((N : Nat) : Rat) * g := Rat.mul_nonneg (nat_le (Nat.zero_le N)) hg0
  apply decide_eq_decide.2
  constructor
  · intro h
    rcases Nat.lt_or_ge (rootk x g) N with k | k
    · have h1 := Rat.mul_le_mul_of_nonneg_right (nat_le (show rootk x g + 1 ≤ N from k)) hg0
      rw [Rat.natCast_add, Rat.add_mul, low_rootk, show (((1 : Nat) : Rat)) * g = g by rw [show ((1 : Nat) : Rat) = 1 from rfl, Rat.one_mul]] at h1
      have h2 := low_nonneg (a := x) hg
      have h3 : 0 ≤ lowRt x g + g := by grind
      have h4 := sq_mono h3 h1
      have h5 := low_up hg hx
      exact absurd (Rat.le_trans h4 h) (Rat.not_le.2 h5)
    · exact k
  · intro k
    have h1 := Rat.mul_le_mul_of_nonneg_right (nat_le k) hg0
    rw [low_rootk] at h1
    exact Rat.le_trans (sq_mono h0 h1) (low_sq hg hx)
theorem len_rootk {x g : Rat} {A G : Nat} (ha : siz x ≤ A) (hg : siz g ≤ G) : len (rootk x g) ≤ A + 2 * G := by
  unfold rootk
  refine Nat.le_trans (len_mono (rootOf_le _)) ?_
  have h1 := siz_num (flr (x / (g * g)))
  have h2 := siz_flr (x / (g * g))
  have h3 := siz_div x (g * g)
  have h4 := siz_mul g g
  omega
theorem len_up {r n A : Nat} (h : len r ≤ A) (hn : n ≤ 4 * r + 4) : len n ≤ A + 3 := by
  refine Nat.le_trans (len_mono hn) ?_
  have h1 := len_add_le (4 * r) 4
  have h2 := len_mul_le 4 r
  have h3 : len 4 = 1 := by decide +kernel
  omega
theorem high_low {x g : Rat} (hg : 0 < g) (hx : 0 ≤ x) : highRt x g = if lowRt x g * lowRt x g < x then lowRt x g + g else lowRt x g := by
  have hg0 := Rat.le_of_lt hg
  have a1 := low_sq hg hx
  have a2 := low_up hg hx
  have a3 := high_sq hg hx
  have a4 : highRt x g - lowRt x g < g + g := root_near hg hx
  have a5 := low_nonneg (a := x) hg
  obtain ⟨u, hu⟩ : ∃ u : Nat, highRt x g = ((u : Nat) : Rat) * g := ⟨_, rfl⟩
  have hl := low_rootk x g
  obtain ⟨r, hr⟩ : ∃ r, rootk x g = r := ⟨_, rfl⟩
  rw [hr] at hl
  -- whole numbers
  have mono : ∀ a b : Nat, a ≤ b → ((a : Nat) : Rat) * g ≤ ((b : Nat) : Rat) * g := fun a b h => Rat.mul_le_mul_of_nonneg_right (nat_le h) hg0
  have suc : ∀ a : Nat, (((a + 1 : Nat)) : Rat) * g = ((a : Nat) : Rat) * g + g := fun a => by
    rw [Rat.natCast_add, Rat.add_mul, show (((1 : Nat) : Rat)) * g = g by rw [show ((1 : Nat) : Rat) = 1 from rfl, Rat.one_mul]]
  have hu2 : u ≤ r + 1 := by
    rcases Nat.lt_or_ge (r + 1) u with k | k
    · have h1 := mono _ _ (show r + 2 ≤ u from k)
      rw [suc (r + 1), suc r, hl, ← hu] at h1
      exact absurd a4 (Rat.not_lt.2 (by grind))
    · exact k
  rcases Decidable.em (lowRt x g * lowRt x g < x) with h | h
  · rw [if_pos h]
    rcases Nat.lt_or_ge r u with k | k
    · obtain rfl : u = r + 1 := by omega
      rw [hu, suc, hl]
    · have h1 := mono _ _ k
      rw [hl, ← hu] at h1
      have h2 : 0 ≤ highRt x g := by rw [hu]; exact Rat.mul_nonneg (nat_le (Nat.zero_le _)) hg0
      have h3 := sq_mono h2 h1
      exact absurd (Rat.le_trans a3 h3) (Rat.not_le.2 h)
  · rw [if_neg h]
    have he : lowRt x g * lowRt x g = x := Rat.le_antisymm a1 (Rat.not_lt.1 h)
    rcases Nat.lt_or_ge r u with k | k
    · obtain rfl : u = r + 1 := by omega
      have h1 : highRt x g - g = lowRt x g := by rw [hu, suc, hl]; grind
      have h2 := high_down hg hx (by rw [h1]; exact a5)
      rw [h1, he] at h2
      exact absurd h2 (Rat.lt_irrefl)
    · have h1 := mono _ _ k
      rw [hl, ← hu] at h1
      rcases Nat.lt_or_ge u r with k2 | k2
      · have h4 := mono _ _ (show u + 1 ≤ r from k2)
        rw [suc, hl, ← hu] at h4
        have h2 : 0 ≤ highRt x g := by rw [hu]; exact Rat.mul_nonneg (nat_le (Nat.zero_le _)) hg0
        have h5 : highRt x g < lowRt x g := by grind
        have h6 : highRt x g * highRt x g < lowRt x g * lowRt x g := by
          have h7 := Rat.mul_le_mul_of_nonneg_left (Rat.le_of_lt h5) h2
          have h8 : 0 < lowRt x g := Std.lt_of_le_of_lt h2 h5
          have h9 := Rat.mul_lt_mul_of_pos_right h5 h8
          exact Std.lt_of_le_of_lt h7 h9
        rw [he] at h6
        exact absurd a3 (Rat.not_le.2 h6)
      · obtain rfl : u = r := by omega
        rw [hu, hl]
end Go.Proofs.YtfppimacnhcflaaGreatDoor
