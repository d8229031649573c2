/-
  Contracts of the functions that the law calls, for every input (Mc).
-/
import Derived.Test.YtfppimacnhcflaaGreatDoorD00
import Derived.Test.YtfppimacnhcflaaGreatDoorD01
import Derived.Test.YtfppimacnhcflaaGreatDoorD02
import Derived.Test.YtfppimacnhcflaaGreatDoorD03
import Derived.Test.YtfppimacnhcflaaGreatDoorD04
import Derived.Test.YtfppimacnhcflaaGreatDoorD05
import Derived.Test.YtfppimacnhcflaaGreatDoorD06
import Derived.Test.YtfppimacnhcflaaGreatDoorD07
import Derived.Test.YtfppimacnhcflaaGreatDoorD08
import Derived.Test.YtfppimacnhcflaaGreatDoorD09
import Derived.Test.YtfppimacnhcflaaGreatDoorD10
import Derived.Test.YtfppimacnhcflaaGreatDoorD11
import Derived.Test.YtfppimacnhcflaaGreatDoorD12
import Derived.Test.YtfppimacnhcflaaGreatDoorD13
import Derived.Test.YtfppimacnhcflaaGreatDoorD14
import Derived.Test.YtfppimacnhcflaaGreatDoorD15
import Derived.Test.YtfppimacnhcflaaGreatDoorD16
import Derived.Test.YtfppimacnhcflaaGreatDoorD17
import Derived.Test.YtfppimacnhcflaaGreatDoorD18
import Derived.Test.YtfppimacnhcflaaGreatDoorD19
import Derived.Test.YtfppimacnhcflaaGreatDoorD20
import Derived.Test.YtfppimacnhcflaaGreatDoorD21
import Derived.Test.YtfppimacnhcflaaGreatDoorD22
import Derived.Test.YtfppimacnhcflaaGreatDoorD23
import Derived.Test.YtfppimacnhcflaaGreatDoorD24
import Derived.Test.YtfppimacnhcflaaGreatDoorD25
import Derived.Test.YtfppimacnhcflaaGreatDoorD26
import Derived.Test.YtfppimacnhcflaaGreatDoorD27
import Derived.Test.YtfppimacnhcflaaGreatDoorD28
import Derived.Test.YtfppimacnhcflaaGreatDoorD29
import Derived.Test.YtfppimacnhcflaaGreatDoorD30
import Derived.Test.YtfppimacnhcflaaGreatDoorD31
import Derived.Test.YtfppimacnhcflaaGreatDoorD32
import Derived.Test.YtfppimacnhcflaaGreatDoorD33
import Derived.Test.YtfppimacnhcflaaGreatDoorD34
import Derived.Test.YtfppimacnhcflaaGreatDoorD35
import Derived.Test.YtfppimacnhcflaaGreatDoorD38
import Derived.Test.YtfppimacnhcflaaGreatDoorD39
import Derived.Test.YtfppimacnhcflaaGreatDoorM01
import Derived.Test.YtfppimacnhcflaaGreatDoorM02
import Derived.Test.YtfppimacnhcflaaGreatDoorM03
set_option linter.all false
set_option maxRecDepth 100000
set_option maxHeartbeats 40000000
namespace Go.Proofs.YtfppimacnhcflaaGreatDoor
open Lib (hid)
open Go.RowKit
open Vx
open List renaming getElem?_toArray → lg, getElem?_cons_zero → lz, getElem?_cons_succ → ls, setIfInBounds_toArray → lt, set_cons_zero → ly, set_cons_succ → lu
theorem Stay.box {wS w : World} {v : Value} {a b : Rat} (h : Stay wS w) (hv : IsBox wS v a b) : IsBox w v a b := by
  obtain ⟨v1, v2, v3, v4, e, h1, h2, h3, h4⟩ := hv
  exact ⟨v1, v2, v3, v4, e, h _ _ h1, h _ _ h2, h _ _ h3, h _ _ h4⟩
theorem put3_all {wB wS w w' : World} {N b : Nat} {s1 : Bool} {A1 A2 : Option Addr} {n1 c1 n2 c2 : Nat} {q : Rat} (hw : w' = (((w.setCell ⟨b, 0, none⟩ (.bool s1)).setCell ⟨b, 1, none⟩ (.slice A1 n1 c1)).setCell ⟨b, 2, none⟩ (.slice A2 n2 c2))) (h : Held0 wB N wS w) (L : w.heap[b]? = some (.cells #[.bool false, .slice none 0 0, .slice none 0 0] 25 (0, 0))) (hle : N ≤ b) (hv : IsNum w (.agg #[.bool s1, .slice A1 n1 c1, .slice A2 n2 c2]) q) :
    Held0 wB N wS w' ∧ w'.heap[b]? = some (.cells #[.bool s1, .slice A1 n1 c1, .slice A2 n2 c2] 25 (0, 0)) ∧ IsNum w' (.agg #[.bool s1, .slice A1 n1 c1, .slice A2 n2 c2]) q ∧ (∀ (n : Nat) (o : Obj), n ≠ b → w.heap[n]? = some o → w'.heap[n]? = some o) ∧ (∀ (v : Value) (x y : Rat), IsBox w v x y → IsBox w' v x y) ∧ (∀ (v : Value) (x : Rat), IsNum w v x → IsNum w' v x) := by
  have k0 : Kept 3 25 w b w := Kept.start rfl (plain3 _ _ _ _ _ _ _) L
  have k1 := k0.set (i := 0) (bool_plain s1)
  have k2 := k1.set (i := 1) (slice_plain A1 n1 c1)
  have S : ∀ wX, Stay wX w → Stay wX w' := fun wX hX => by rw [hw]; exact (((hX.put k0).put k1).put k2)
  have hB : Below N wB w' := by rw [hw]; exact (((h.2.1.setCell (p := ⟨b, 0, none⟩) hle (.bool s1)).setCell (p := ⟨b, 1, none⟩) hle (.slice A1 n1 c1)).setCell (p := ⟨b, 2, none⟩) hle (.slice A2 n2 c2))
  have hO : ∀ (n : Nat) (o : Obj), n ≠ b → w.heap[n]? = some o → w'.heap[n]? = some o := fun n o hne ho => by rw [hw, heap_setCell_other _ _ _ _ hne, heap_setCell_other _ _ _ _ hne, heap_setCell_other _ _ _ _ hne]; exact ho
  exact ⟨⟨below_cell hB, hB, S _ h.2.2⟩, by rw [hw]; exact setcell_heap3 rfl L _ _ _, (S _ (Stay.refl w)).num hv, hO, fun v x y hx => (S _ (Stay.refl w)).box hx, fun v x hx => (S _ (Stay.refl w)).num hx⟩
def NumNumRet (w : World) (p q : Rat) (e : Ending) (w' : World) : Prop := ∃ v1 v2, e = .returned (.tuple #[v1, v2]) ∧ IsNum w' v1 p ∧ IsNum w' v2 q ∧ Below w.heap.size w w'
theorem copied_val {w : World} {n : Nat} {v : Value} (h : Nt w v n) (hs : len n ≤ 536870912) : Calls Tryz.prog 99 #[v] w (NatRet w n) := copied_nat h (Nat.le_trans hs (by omega))
theorem frac_val {w : World} {neg : Bool} {t : Nat} {vt : Value} {q : Rat} (hq : ratOf neg t 1 = q) (ht : Nt w vt t) : Calls Tryz.prog 98 #[.bool neg, vt, .slice none 0 0] w (NumRet w q) := by
  have h := fraction_any (neg := neg) ht (Nt.zero w) (by rw [if_pos rfl]; exact Nat.coprime_one_right t)
  rw [if_pos rfl, hq] at h
  exact h
theorem bottom_val {w : World} {v : Value} {q : Rat} (h : IsNum w v q) : Calls Tryz.prog 100 #[v] w (NatRet w q.den) := bottom_any h
theorem hcall_le {wB wS w w' : World} {N : Nat} (h : Held0 wB N wS w) (e : N ≤ wB.heap.size) (hb : Below w.heap.size w w') : Held0 wB N wS w' := Held0.call h e hb
theorem numFrac_any {w : World} {v : Value} {x : Rat} (hx : IsNum w v x) (hs : siz x ≤ 536870912) :
    Calls Tryz.prog 20 #[v] w (NumNumRet w (ratOf (decide (x.num < 0)) x.num.natAbs 1) (ratOf false x.den 1)) := by
  obtain ⟨p, ep⟩ : ∃ z : Rat, ratOf (decide (x.num < 0)) x.num.natAbs 1 = z := ⟨_, rfl⟩
  obtain ⟨q, eq⟩ : ∃ z : Rat, ratOf false x.den 1 = z := ⟨_, rfl⟩
  rw [ep, eq]
  have zt : Hid (len x.num.natAbs ≤ 536870912) := Nat.le_trans (siz_num x) hs
  have zd : Hid (len x.den ≤ 536870912) := Nat.le_trans (siz_den x) hs
  obtain ⟨A1, c1, A2, c2, rfl, h1, h2⟩ := id hx.opened
  obtain ⟨wB, hwB⟩ : ∃ u, u = ((w.alloc (.cells #[.bool (decide (x.num < 0)), .slice A1 (len x.num.natAbs) c1, .slice A2 (len (below x.den)) c2] 25)).alloc (.cells #[.bool false, .slice none 0 0, .slice none 0 0] 25)).alloc (.cells #[.bool false, .slice none 0 0, .slice none 0 0] 25) := ⟨_, rfl⟩
  obtain ⟨b0, g0, g1, g2⟩ := news3' hwB
  obtain ⟨k0, k1, k2⟩ := cells3 g0
  have hxB := hid (hx.keep b0)
  have htB := hid (h1.keep b0)
  have HB0 := hid b0
  have hsz : (w.heap.size + 1) ≤ wB.heap.size := by have := at_lt g0; omega
  have hlt : w.heap.size < (w.heap.size + 1) := by omega
  replace g1 := hid g1
  replace g2 := hid g2
  clear g0 b0 hx h1 h2
  replace ep := hid ep
  replace eq := hid eq
  go_enter Tryz.func20, Tryz.ntmps20
  go_upto_region 1 with fail
  rw [← hwB]
  clear hwB
  go_wp2_with fail
  have HK0 := hid (hcall_le (Held0.plain (Below.refl (w.heap.size + 1) wB)) hsz (show Below wB.heap.size wB wB.drew from ⟨rfl, rfl, rfl, Nat.le_refl _, fun _ _ => rfl⟩))
  have Z0 := hid (at_keep g1.out (show Below wB.heap.size wB wB.drew from ⟨rfl, rfl, rfl, Nat.le_refl _, fun _ _ => rfl⟩))
  have Y0 := hid (at_keep g2.out (show Below wB.heap.size wB wB.drew from ⟨rfl, rfl, rfl, Nat.le_refl _, fun _ _ => rfl⟩))
  refine wp_region_held_drew (S := (fun w' => (∀ b o, b < (w.heap.size + 1) → w'.cell? ⟨b, o, none⟩ = wB.cell? ⟨b, o, none⟩))) (by kernel_rfl) ?_ (fun hHeld => ?_)
  · (try dsimp only)
    exact HK0.out.1
  obtain ⟨u0, hu0⟩ : ∃ u, u = wB.drew := ⟨_, rfl⟩
  rw [← hu0] at HK0 Z0 Y0 hHeld ⊢
  clear hu0
  refine tk (i := 0) (h := ?_)
  try simp only [Act.put, lt, ly, lu]
  refine tk (i := 1) (h := ?_)
  try simp only [Act.put, lt, ly, lu]
  refine tk (i := 2) (h := ?_)
  try simp only [Act.put, lt, ly, lu]
  refine tk (i := 3) (h := ?_)
  try simp only [Act.put, lt, ly, lu]
  refine tk (i := 6) (h := ?_)
  try simp only [Act.put, lt, ly, lu]
  refine wpAnyH_ready (rs := [4]) (by kernel_rfl) (by simp) (AllReadyH.cons (o := ?oq6) ?eq6 ?kq6 AllReadyH.nil)
  case eq6 => simp only [lg, lz, ls]; rfl
  intro K hK; go_simp; go_at_call 99
  refine (copied_val (HK0.out.2.2 _ _ htB.out) zt.out).mono ?_
  rintro e u1 ⟨v1, rfl, hv1, hb1⟩
  obtain ⟨B1, b1, rfl, -⟩ := id hv1
  replace hv1 := hid hv1
  have HK1 := hid (hcall_le HK0.out hsz hb1)
  have Z1 := hid (at_keep Z0.out hb1)
  have Y1 := hid (at_keep Y0.out hb1)
  refine hK.out _ _ ?_ (fun hHeld2 => ?_)
  · (try dsimp only)
    exact HK1.out.1
  clear hK K hHeld HK0 Z0 Y0 hb1
  try simp only [Act.put, lt, ly, lu]
  have hHeld := hHeld2
  clear hHeld2
  refine wpAnyH_ready (rs := [5]) (by kernel_rfl) (by simp) (AllReadyH.cons (o := ?oq7) ?eq7 ?kq7 AllReadyH.nil)
  case eq7 => simp only [lg, lz, ls]; rfl
  intro K hK; go_simp; go_at_call 98
  refine (frac_val ep.out hv1.out).mono ?_
  rintro e u2 ⟨v2, rfl, hv2, hb2⟩
  obtain ⟨B2, b2, D2, d2, rfl, -, -⟩ := id hv2.opened
  replace hv2 := hid hv2
  have HK2 := hid (hcall_le HK1.out hsz hb2)
  have Z2 := hid (at_keep Z1.out hb2)
  have Y2 := hid (at_keep Y1.out hb2)
  refine hK.out _ _ ?_ (fun hHeld2 => ?_)
  · (try dsimp only)
    exact HK2.out.1
  clear hK K hHeld HK1 Z1 Y1 hb2
  try simp only [Act.put, lt, ly, lu]
  have hHeld := hHeld2
  clear hHeld2
  refine wpAnyH_ready (rs := [7]) (by kernel_rfl) (by simp) (AllReadyH.cons (o := ?oq8) ?eq8 ?kq8 AllReadyH.nil)
  case eq8 => simp only [lg, lz, ls]; rfl
  intro K hK; go_simp; go_at_call 100
  refine (bottom_val (HK2.out.2.2.num hxB.out)).mono ?_
  rintro e u3 ⟨v3, rfl, hv3, hb3⟩
  obtain ⟨B3, b3, rfl, -⟩ := id hv3
  replace hv3 := hid hv3
  have HK3 := hid (hcall_le HK2.out hsz hb3)
  have Z3 := hid (at_keep Z2.out hb3)
  have Y3 := hid (at_keep Y2.out hb3)
  replace hv2 := hid ((hv2.out).keep hb3)
  refine hK.out _ _ ?_ (fun hHeld2 => ?_)
  · (try dsimp only)
    exact HK3.out.1
  clear hK K hHeld HK2 Z2 Y2 hb3
  try simp only [Act.put, lt, ly, lu]
  have hHeld := hHeld2
  clear hHeld2
  refine wpAnyH_ready (rs := [8]) (by kernel_rfl) (by simp) (AllReadyH.cons (o := ?oq9) ?eq9 ?kq9 AllReadyH.nil)
  case eq9 => simp only [lg, lz, ls]; rfl
  intro K hK; go_simp; go_at_call 99
  refine (copied_val hv3.out zd.out).mono ?_
  rintro e u4 ⟨v4, rfl, hv4, hb4⟩
  obtain ⟨B4, b4, rfl, -⟩ := id hv4
  replace hv4 := hid hv4
  have HK4 := hid (hcall_le HK3.out hsz hb4)
  have Z4 := hid (at_keep Z3.out hb4)
  have Y4 := hid (at_keep Y3.out hb4)
  replace hv2 := hid ((hv2.out).keep hb4)
  refine hK.out _ _ ?_ (fun hHeld2 => ?_)
  · (try dsimp only)
    exact HK4.out.1
  clear hK K hHeld HK3 Z3 Y3 hb4
  try simp only [Act.put, lt, ly, lu]
  have hHeld := hHeld2
  clear hHeld2
  refine wpAnyH_ready (rs := [9]) (by kernel_rfl) (by simp) (AllReadyH.cons (o := ?oq10) ?eq10 ?kq10 AllReadyH.nil)
  case eq10 => simp only [lg, lz, ls]; rfl
  intro K hK; go_simp; go_at_call 98
  refine (frac_val eq.out hv4.out).mono ?_
  rintro e u5 ⟨v5, rfl, hv5, hb5⟩
  obtain ⟨B5, b5, D5, d5, rfl, -, -⟩ := id hv5.opened
  replace hv5 := hid hv5
  have HK5 := hid (hcall_le HK4.out hsz hb5)
  have Z5 := hid (at_keep Z4.out hb5)
  have Y5 := hid (at_keep Y4.out hb5)
  replace hv2 := hid ((hv2.out).keep hb5)
  refine hK.out _ _ ?_ (fun hHeld2 => ?_)
  · (try dsimp only)
    exact HK5.out.1
  clear hK K hHeld HK4 Z4 Y4 hb5
  try simp only [Act.put, lt, ly, lu]
  have hHeld := hHeld2
  clear hHeld2
  refine wpAnyH_ready (rs := [10]) (by kernel_rfl) (by simp) (AllReadyH.cons (o := ?oq11) ?eq11 ?kq11 AllReadyH.nil)
  case eq11 => simp only [lg, lz, ls]; rfl
  intro K hK
  have q0 : u5.cell? ⟨w.heap.size + 1, 0, none⟩ = some (.bool false) := cell_of_row _ _ _ _ _ _ Z5.out
  have F0 : u5.frozen? ⟨w.heap.size + 1, 0, none⟩ = false := frozen_of_row u5 (w.heap.size + 1) 0 _ _ Z5.out
  have q1 : u5.cell? ⟨w.heap.size + 1, 1, none⟩ = some (.slice none 0 0) := cell_of_row _ _ _ _ _ _ Z5.out
  have F1 : u5.frozen? ⟨w.heap.size + 1, 1, none⟩ = false := frozen_of_row u5 (w.heap.size + 1) 1 _ _ Z5.out
  have q2 : u5.cell? ⟨w.heap.size + 1, 2, none⟩ = some (.slice none 0 0) := cell_of_row _ _ _ _ _ _ Z5.out
  have F2 : u5.frozen? ⟨w.heap.size + 1, 2, none⟩ = false := frozen_of_row u5 (w.heap.size + 1) 2 _ _ Z5.out
  go_simp
  clear q0 F0 q1 F1 q2 F2
  obtain ⟨s2, hw⟩ : ∃ z, z = (((u5.setCell ⟨w.heap.size + 1, 0, none⟩ (.bool (decide (p.num < 0)))).setCell ⟨w.heap.size + 1, 1, none⟩ (.slice B2 (len p.num.natAbs) b2)).setCell ⟨w.heap.size + 1, 2, none⟩ (.slice D2 (len (below p.den)) d2)) := ⟨_, rfl⟩
  obtain ⟨HS2, ZS2, IS2, OT, -, ON⟩ := put3_all hw HK5.out Z5.out (by omega) hv2.out
  rw [← hw]
  clear hw
  replace HS2 := hid HS2
  replace ZS2 := hid ZS2
  replace IS2 := hid IS2
  have YY := hid (OT _ _ (by omega) Y5.out)
  have IQ := hid (ON _ _ hv5.out)
  refine hK.out _ _ ?_ (fun hHeld2 => ?_)
  · (try dsimp only)
    exact HS2.out.1
  clear hK K hHeld OT ON
  try simp only [Act.put, lt, ly, lu]
  have hHeld := hHeld2
  clear hHeld2
  refine wpAnyH_ready (rs := [11]) (by kernel_rfl) (by simp) (AllReadyH.cons (o := ?oq12) ?eq12 ?kq12 AllReadyH.nil)
  case eq12 => simp only [lg, lz, ls]; rfl
  intro K hK
  have q0 : s2.cell? ⟨w.heap.size + 2, 0, none⟩ = some (.bool false) := cell_of_row _ _ _ _ _ _ YY.out
  have F0 : s2.frozen? ⟨w.heap.size + 2, 0, none⟩ = false := frozen_of_row s2 (w.heap.size + 2) 0 _ _ YY.out
  have q1 : s2.cell? ⟨w.heap.size + 2, 1, none⟩ = some (.slice none 0 0) := cell_of_row _ _ _ _ _ _ YY.out
  have F1 : s2.frozen? ⟨w.heap.size + 2, 1, none⟩ = false := frozen_of_row s2 (w.heap.size + 2) 1 _ _ YY.out
  have q2 : s2.cell? ⟨w.heap.size + 2, 2, none⟩ = some (.slice none 0 0) := cell_of_row _ _ _ _ _ _ YY.out
  have F2 : s2.frozen? ⟨w.heap.size + 2, 2, none⟩ = false := frozen_of_row s2 (w.heap.size + 2) 2 _ _ YY.out
  go_simp
  clear q0 F0 q1 F1 q2 F2
  obtain ⟨s5, hw⟩ : ∃ z, z = (((s2.setCell ⟨w.heap.size + 2, 0, none⟩ (.bool (decide (q.num < 0)))).setCell ⟨w.heap.size + 2, 1, none⟩ (.slice B5 (len q.num.natAbs) b5)).setCell ⟨w.heap.size + 2, 2, none⟩ (.slice D5 (len (below q.den)) d5)) := ⟨_, rfl⟩
  obtain ⟨HS5, ZS5, IS5, OT, -, ON⟩ := put3_all hw HS2.out YY.out (by omega) IQ.out
  rw [← hw]
  clear hw
  replace HS5 := hid HS5
  replace ZS5 := hid ZS5
  replace IS5 := hid IS5
  have ZP := hid (OT _ _ (by omega) ZS2.out)
  have IP := hid (ON _ _ IS2.out)
  refine hK.out _ _ ?_ (fun hHeld2 => ?_)
  · (try dsimp only)
    exact HS5.out.1
  clear hK K hHeld OT ON
  try simp only [Act.put, lt, ly, lu]
  have hHeld := hHeld2
  clear hHeld2
  refine wpAnyH_done (by kernel_rfl) ?_ _
  obtain ⟨p0, p1, p2⟩ := cells3 ZP.out
  obtain ⟨r0, r1, r2⟩ := cells3 ZS5.out
  go_wp2_with fail
  refine bodyPost_ret (v := .tuple #[.agg #[.bool (decide (p.num < 0)), .slice B2 (len p.num.natAbs) b2, .slice D2 (len (below p.den)) d2], .agg #[.bool (decide (q.num < 0)), .slice B5 (len q.num.natAbs) b5, .slice D5 (len (below q.den)) d5]]) ?_ rfl ⟨_, _, rfl, IP.out, IS5.out, below_to HB0.out (by omega) HS5.out.2.1⟩
  simp [results, Tryz.results20, go_sem, p0, p1, p2, r0, r1, r2]
theorem above_is (x : Rat) : ratOf (decide (x.num < 0)) x.num.natAbs 1 = (x.num : Rat) := by
  unfold ratOf
  rw [Rat.mkRat_one]
  congr 1
  rcases Decidable.em (x.num < 0) with h | h
  · rw [if_pos (by simpa using h)]; omega
  · rw [if_neg (by simpa using h)]; omega
theorem below_is (x : Rat) : ratOf false x.den 1 = ((x.den : Nat) : Rat) := by
  unfold ratOf
  rw [Rat.mkRat_one]
  rfl
theorem fracs_val {w : World} {v : Value} {x p q : Rat} (hp : (x.num : Rat) = p) (hq : ((x.den : Nat) : Rat) = q) (hx : IsNum w v x) (hs : siz x ≤ 536870912) :
    Calls Tryz.prog 20 #[v] w (NumNumRet w p q) := by
  have h := numFrac_any hx hs
  rw [above_is, below_is, hp, hq] at h
  exact h
end Go.Proofs.YtfppimacnhcflaaGreatDoor
