/-
  Contracts of the functions that the law calls, for every input (OrV OrT OrL SqF OrG OrW).
-/
import Derived.Test.YtlffafddmmhbmaaGreatDoorH33
import Derived.Test.YtlffafddmmhbmaaGreatDoorH22
import Derived.Test.YtlffafddmmhbmaaGreatDoorH30
import Derived.Test.YtlffafddmmhbmaaGreatDoorH26
import Derived.Test.YtlffafddmmhbmaaGreatDoorH31
import Derived.Test.YtlffafddmmhbmaaGreatDoorH23
set_option linter.all false
namespace Go.Proofs.YtlffafddmmhbmaaGreatDoor
open Go.RowKit
open Vx
open Lib (hid)
open List renaming getElem?_toArray → lg, getElem?_cons_zero → lz, getElem?_cons_succ → ls, setIfInBounds_toArray → lt, set_cons_zero → ly, set_cons_succ → lu

/-- Two numbers are returned; nothing old has changed. -/
def NumNumRet (w : World) (p q : Rat) (e : Ending) (w' : World) : Prop := ∃ v1 v2, e = .returned (.tuple #[v1, v2]) ∧ IsNum w' v1 p ∧ IsNum w' v2 q ∧ Below w.heap.size w w'
theorem copied_val {w : World} {n : Nat} {v : Value} (h : Nt w v n) (hs : len n ≤ 536870912) : Calls Tryz.prog 66 #[v] w (NatRet w n) := copied_nat h (Nat.le_trans hs (by omega))
theorem frac_val {w : World} {neg : Bool} {t : Nat} {vt : Value} {q : Rat} (hq : ratOf neg t 1 = q) (ht : Nt w vt t) : Calls Tryz.prog 55 #[.bool neg, vt, .slice none 0 0] w (NumRet w q) := by
  have h := fraction_any (neg := neg) ht (Nt.zero w) (by rw [if_pos rfl]; exact Nat.coprime_one_right t)
  rw [if_pos rfl, hq] at h
  exact h
theorem bottom_val {w : World} {v : Value} {q : Rat} (h : IsNum w v q) : Calls Tryz.prog 56 #[v] w (NatRet w q.den) := bottom_any h
theorem hcall_le {wB wS w w' : World} {N : Nat} (h : Held0 wB N wS w) (e : N ≤ wB.heap.size) (hb : Below w.heap.size w w') : Held0 wB N wS w' := Held0.call h e hb

set_option maxRecDepth 100000 in
set_option maxHeartbeats 8000000 in
theorem numFrac_any {w : World} {v : Value} {x : Rat} (hx : IsNum w v x) (hs : siz x ≤ 536870912) :
    Calls Tryz.prog 23 #[v] w (NumNumRet w (ratOf (decide (x.num < 0)) x.num.natAbs 1) (ratOf false x.den 1)) := by
  obtain ⟨p, ep⟩ : ∃ z : Rat, ratOf (decide (x.num < 0)) x.num.natAbs 1 = z := ⟨_, rfl⟩
  obtain ⟨q, eq⟩ : ∃ z : Rat, ratOf false x.den 1 = z := ⟨_, rfl⟩
  rw [ep, eq]
  have zt : Hid (len x.num.natAbs ≤ 536870912) := Nat.le_trans (siz_num x) hs
  have zd : Hid (len x.den ≤ 536870912) := Nat.le_trans (siz_den x) hs
  obtain ⟨A1, c1, A2, c2, rfl, h1, h2⟩ := id hx.opened
  obtain ⟨wB, hwB⟩ : ∃ u, u = ((w.alloc (.cells #[.bool (decide (x.num < 0)), .slice A1 (len x.num.natAbs) c1, .slice A2 (len (below x.den)) c2] 27)).alloc (.cells #[.bool false, .slice none 0 0, .slice none 0 0] 27)).alloc (.cells #[.bool false, .slice none 0 0, .slice none 0 0] 27) := ⟨_, rfl⟩
  obtain ⟨b0, g0, g1, g2⟩ := news3 w (.cells #[.bool (decide (x.num < 0)), .slice A1 (len x.num.natAbs) c1, .slice A2 (len (below x.den)) c2] 27) (.cells #[.bool false, .slice none 0 0, .slice none 0 0] 27) (.cells #[.bool false, .slice none 0 0, .slice none 0 0] 27)
  rw [← hwB] at b0 g0 g1 g2
  obtain ⟨k0, k1, k2⟩ := cells3 g0
  have hxB := hid (hx.keep b0)
  have htB := hid (h1.keep b0)
  have HB0 := hid b0
  have hsz : (w.heap.size + 1) ≤ wB.heap.size := by have := at_lt g0; omega
  have hlt : w.heap.size < (w.heap.size + 1) := by omega
  replace g1 := hid g1
  replace g2 := hid g2
  clear g0 b0 hx h1 h2
  replace ep := hid ep
  replace eq := hid eq
  go_enter Tryz.func23, Tryz.ntmps23
  go_upto_region 1 with fail
  rw [← hwB]
  clear hwB
  go_wp2_with fail
  have HK0 := hid (hcall_le (Held0.plain (Below.refl (w.heap.size + 1) wB)) hsz (show Below wB.heap.size wB wB.drew from ⟨rfl, rfl, rfl, Nat.le_refl _, fun _ _ => rfl⟩))
  have Z0 := hid (at_keep g1.out (show Below wB.heap.size wB wB.drew from ⟨rfl, rfl, rfl, Nat.le_refl _, fun _ _ => rfl⟩))
  have Y0 := hid (at_keep g2.out (show Below wB.heap.size wB wB.drew from ⟨rfl, rfl, rfl, Nat.le_refl _, fun _ _ => rfl⟩))
  refine wp_region_held_drew (S := (fun w' => (∀ b o, b < (w.heap.size + 1) → w'.cell? ⟨b, o, none⟩ = wB.cell? ⟨b, o, none⟩))) (by kernel_rfl) ?_ (fun hHeld => ?_)
  · (try dsimp only)
    exact HK0.out.1
  obtain ⟨u0, hu0⟩ : ∃ u, u = wB.drew := ⟨_, rfl⟩
  rw [← hu0] at HK0 Z0 Y0 hHeld ⊢
  clear hu0
  refine tk (i := 0) (h := ?_)
  try simp only [Act.put, lt, ly, lu]
  refine tk (i := 1) (h := ?_)
  try simp only [Act.put, lt, ly, lu]
  refine tk (i := 2) (h := ?_)
  try simp only [Act.put, lt, ly, lu]
  refine tk (i := 3) (h := ?_)
  try simp only [Act.put, lt, ly, lu]
  refine tk (i := 6) (h := ?_)
  try simp only [Act.put, lt, ly, lu]
  refine wpAnyH_ready (rs := [4]) (by kernel_rfl) (by simp) (AllReadyH.cons (o := ?oq6) ?eq6 ?kq6 AllReadyH.nil)
  case eq6 => simp only [lg, lz, ls]; rfl
  intro K hK; go_simp; go_at_call 66
  refine (copied_val (HK0.out.2.2 _ _ htB.out) zt.out).mono ?_
  rintro e u1 ⟨v1, rfl, hv1, hb1⟩
  obtain ⟨B1, b1, rfl, -⟩ := id hv1
  replace hv1 := hid hv1
  have HK1 := hid (hcall_le HK0.out hsz hb1)
  have Z1 := hid (at_keep Z0.out hb1)
  have Y1 := hid (at_keep Y0.out hb1)
  refine hK.out _ _ ?_ (fun hHeld2 => ?_)
  · (try dsimp only)
    exact HK1.out.1
  clear hK K hHeld HK0 Z0 Y0 hb1
  try simp only [Act.put, lt, ly, lu]
  have hHeld := hHeld2
  clear hHeld2
  refine wpAnyH_ready (rs := [5]) (by kernel_rfl) (by simp) (AllReadyH.cons (o := ?oq7) ?eq7 ?kq7 AllReadyH.nil)
  case eq7 => simp only [lg, lz, ls]; rfl
  intro K hK; go_simp; go_at_call 55
  refine (frac_val ep.out hv1.out).mono ?_
  rintro e u2 ⟨v2, rfl, hv2, hb2⟩
  obtain ⟨B2, b2, D2, d2, rfl, -, -⟩ := id hv2.opened
  replace hv2 := hid hv2
  have HK2 := hid (hcall_le HK1.out hsz hb2)
  have Z2 := hid (at_keep Z1.out hb2)
  have Y2 := hid (at_keep Y1.out hb2)
  refine hK.out _ _ ?_ (fun hHeld2 => ?_)
  · (try dsimp only)
    exact HK2.out.1
  clear hK K hHeld HK1 Z1 Y1 hb2
  try simp only [Act.put, lt, ly, lu]
  have hHeld := hHeld2
  clear hHeld2
  refine wpAnyH_ready (rs := [7]) (by kernel_rfl) (by simp) (AllReadyH.cons (o := ?oq8) ?eq8 ?kq8 AllReadyH.nil)
  case eq8 => simp only [lg, lz, ls]; rfl
  intro K hK; go_simp; go_at_call 56
  refine (bottom_val (HK2.out.2.2.num hxB.out)).mono ?_
  rintro e u3 ⟨v3, rfl, hv3, hb3⟩
  obtain ⟨B3, b3, rfl, -⟩ := id hv3
  replace hv3 := hid hv3
  have HK3 := hid (hcall_le HK2.out hsz hb3)
  have Z3 := hid (at_keep Z2.out hb3)
  have Y3 := hid (at_keep Y2.out hb3)
  replace hv2 := hid ((hv2.out).keep hb3)
  refine hK.out _ _ ?_ (fun hHeld2 => ?_)
  · (try dsimp only)
    exact HK3.out.1
  clear hK K hHeld HK2 Z2 Y2 hb3
  try simp only [Act.put, lt, ly, lu]
  have hHeld := hHeld2
  clear hHeld2
  refine wpAnyH_ready (rs := [8]) (by kernel_rfl) (by simp) (AllReadyH.cons (o := ?oq9) ?eq9 ?kq9 AllReadyH.nil)
  case eq9 => simp only [lg, lz, ls]; rfl
  intro K hK; go_simp; go_at_call 66
  refine (copied_val hv3.out zd.out).mono ?_
  rintro e u4 ⟨v4, rfl, hv4, hb4⟩
  obtain ⟨B4, b4, rfl, -⟩ := id hv4
  replace hv4 := hid hv4
  have HK4 := hid (hcall_le HK3.out hsz hb4)
  have Z4 := hid (at_keep Z3.out hb4)
  have Y4 := hid (at_keep Y3.out hb4)
  replace hv2 := hid ((hv2.out).keep hb4)
  refine hK.out _ _ ?_ (fun hHeld2 => ?_)
  · (try dsimp only)
    exact HK4.out.1
  clear hK K hHeld HK3 Z3 Y3 hb4
  try simp only [Act.put, lt, ly, lu]
  have hHeld := hHeld2
  clear hHeld2
  refine wpAnyH_ready (rs := [9]) (by kernel_rfl) (by simp) (AllReadyH.cons (o := ?oq10) ?eq10 ?kq10 AllReadyH.nil)
  case eq10 => simp only [lg, lz, ls]; rfl
  intro K hK; go_simp; go_at_call 55
  refine (frac_val eq.out hv4.out).mono ?_
  rintro e u5 ⟨v5, rfl, hv5, hb5⟩
  obtain ⟨B5, b5, D5, d5, rfl, -, -⟩ := id hv5.opened
  replace hv5 := hid hv5
  have HK5 := hid (hcall_le HK4.out hsz hb5)
  have Z5 := hid (at_keep Z4.out hb5)
  have Y5 := hid (at_keep Y4.out hb5)
  replace hv2 := hid ((hv2.out).keep hb5)
  refine hK.out _ _ ?_ (fun hHeld2 => ?_)
  · (try dsimp only)
    exact HK5.out.1
  clear hK K hHeld HK4 Z4 Y4 hb5
  try simp only [Act.put, lt, ly, lu]
  have hHeld := hHeld2
  clear hHeld2
  refine wpAnyH_ready (rs := [10]) (by kernel_rfl) (by simp) (AllReadyH.cons (o := ?oq11) ?eq11 ?kq11 AllReadyH.nil)
  case eq11 => simp only [lg, lz, ls]; rfl
  intro K hK
  have q0 : u5.cell? ⟨w.heap.size + 1, 0, none⟩ = some (.bool false) := cell_of_row _ _ _ _ _ _ Z5.out
  have F0 : u5.frozen? ⟨w.heap.size + 1, 0, none⟩ = false := frozen_of_row u5 (w.heap.size + 1) 0 _ _ Z5.out
  have q1 : u5.cell? ⟨w.heap.size + 1, 1, none⟩ = some (.slice none 0 0) := cell_of_row _ _ _ _ _ _ Z5.out
  have F1 : u5.frozen? ⟨w.heap.size + 1, 1, none⟩ = false := frozen_of_row u5 (w.heap.size + 1) 1 _ _ Z5.out
  have q2 : u5.cell? ⟨w.heap.size + 1, 2, none⟩ = some (.slice none 0 0) := cell_of_row _ _ _ _ _ _ Z5.out
  have F2 : u5.frozen? ⟨w.heap.size + 1, 2, none⟩ = false := frozen_of_row u5 (w.heap.size + 1) 2 _ _ Z5.out
  go_simp
  clear q0 F0 q1 F1 q2 F2
  obtain ⟨s2, hw⟩ : ∃ z, z = (((u5.setCell ⟨w.heap.size + 1, 0, none⟩ (.bool (decide (p.num < 0)))).setCell ⟨w.heap.size + 1, 1, none⟩ (.slice B2 (len p.num.natAbs) b2)).setCell ⟨w.heap.size + 1, 2, none⟩ (.slice D2 (len (below p.den)) d2)) := ⟨_, rfl⟩
  obtain ⟨HS2, ZS2, IS2, OT, -, ON⟩ := put3_all hw HK5.out Z5.out (by omega) hv2.out
  rw [← hw]
  clear hw
  replace HS2 := hid HS2
  replace ZS2 := hid ZS2
  replace IS2 := hid IS2
  have YY := hid (OT _ _ (by omega) Y5.out)
  have IQ := hid (ON _ _ hv5.out)
  refine hK.out _ _ ?_ (fun hHeld2 => ?_)
  · (try dsimp only)
    exact HS2.out.1
  clear hK K hHeld OT ON
  try simp only [Act.put, lt, ly, lu]
  have hHeld := hHeld2
  clear hHeld2
  refine wpAnyH_ready (rs := [11]) (by kernel_rfl) (by simp) (AllReadyH.cons (o := ?oq12) ?eq12 ?kq12 AllReadyH.nil)
  case eq12 => simp only [lg, lz, ls]; rfl
  intro K hK
  have q0 : s2.cell? ⟨w.heap.size + 2, 0, none⟩ = some (.bool false) := cell_of_row _ _ _ _ _ _ YY.out
  have F0 : s2.frozen? ⟨w.heap.size + 2, 0, none⟩ = false := frozen_of_row s2 (w.heap.size + 2) 0 _ _ YY.out
  have q1 : s2.cell? ⟨w.heap.size + 2, 1, none⟩ = some (.slice none 0 0) := cell_of_row _ _ _ _ _ _ YY.out
  have F1 : s2.frozen? ⟨w.heap.size + 2, 1, none⟩ = false := frozen_of_row s2 (w.heap.size + 2) 1 _ _ YY.out
  have q2 : s2.cell? ⟨w.heap.size + 2, 2, none⟩ = some (.slice none 0 0) := cell_of_row _ _ _ _ _ _ YY.out
  have F2 : s2.frozen? ⟨w.heap.size + 2, 2, none⟩ = false := frozen_of_row s2 (w.heap.size + 2) 2 _ _ YY.out
  go_simp
  clear q0 F0 q1 F1 q2 F2
  obtain ⟨s5, hw⟩ : ∃ z, z = (((s2.setCell ⟨w.heap.size + 2, 0, none⟩ (.bool (decide (q.num < 0)))).setCell ⟨w.heap.size + 2, 1, none⟩ (.slice B5 (len q.num.natAbs) b5)).setCell ⟨w.heap.size + 2, 2, none⟩ (.slice D5 (len (below q.den)) d5)) := ⟨_, rfl⟩
  obtain ⟨HS5, ZS5, IS5, OT, -, ON⟩ := put3_all hw HS2.out YY.out (by omega) IQ.out
  rw [← hw]
  clear hw
  replace HS5 := hid HS5
  replace ZS5 := hid ZS5
  replace IS5 := hid IS5
  have ZP := hid (OT _ _ (by omega) ZS2.out)
  have IP := hid (ON _ _ IS2.out)
  refine hK.out _ _ ?_ (fun hHeld2 => ?_)
  · (try dsimp only)
    exact HS5.out.1
  clear hK K hHeld OT ON
  try simp only [Act.put, lt, ly, lu]
  have hHeld := hHeld2
  clear hHeld2
  refine wpAnyH_done (by kernel_rfl) ?_ _
  obtain ⟨p0, p1, p2⟩ := cells3 ZP.out
  obtain ⟨r0, r1, r2⟩ := cells3 ZS5.out
  go_wp2_with fail
  refine bodyPost_ret (v := .tuple #[.agg #[.bool (decide (p.num < 0)), .slice B2 (len p.num.natAbs) b2, .slice D2 (len (below p.den)) d2], .agg #[.bool (decide (q.num < 0)), .slice B5 (len q.num.natAbs) b5, .slice D5 (len (below q.den)) d5]]) ?_ rfl ⟨_, _, rfl, IP.out, IS5.out, below_to HB0.out (by omega) HS5.out.2.1⟩
  simp [results, Tryz.results23, go_sem, p0, p1, p2, r0, r1, r2]
end Go.Proofs.YtlffafddmmhbmaaGreatDoor
namespace Go.Proofs.YtlffafddmmhbmaaGreatDoor
open Vx

theorem digC_of (m : Nat) : digC (UInt8.ofNat (48 + m % 10)) = true ∧ (UInt8.ofNat (48 + m % 10)).toNat = 48 + m % 10 := by
  have h : (UInt8.ofNat (48 + m % 10)).toNat = 48 + m % 10 := by
    rw [UInt8.toNat_ofNat']; exact Nat.mod_eq_of_lt (by omega)
  refine ⟨?_, h⟩
  unfold digC
  rw [h]
  exact decide_eq_true ⟨by omega, by omega⟩
theorem digs_all (k : Nat) : ∀ n, (digs k n).all digC = true := by
  induction k with
  | zero => intro n; rfl
  | succ k ih =>
    intro n
    rw [digs, List.all_append, ih, List.all_cons, (digC_of n).1]
    rfl
theorem digs_val (k : Nat) : ∀ n, n < 10 ^ k → valL (digs k n) = n := by
  induction k with
  | zero => intro n h; have : n = 0 := by simpa using h
            subst this; rfl
  | succ k ih =>
    intro n h
    rw [digs, valL_snoc, ih (n / 10) (by rw [Nat.pow_succ] at h; omega), (digC_of n).2]
    omega
theorem drop_val (l : List UInt8) : valL (dropZ l) = valL l := by
  induction l with
  | nil => rfl
  | cons c l ih =>
    unfold dropZ
    rw [List.dropWhile_cons]
    split
    · rename_i h
      have hc : c = 48 := by simpa using h
      subst hc
      have e : valL (48 :: l) = valL l := by
        show List.foldl _ _ l = _
        rfl
      rw [e]; exact ih
    · rfl
theorem drop_all {l : List UInt8} (h : l.all digC = true) : (dropZ l).all digC = true := by
  rw [List.all_eq_true] at *
  intro x hx
  exact h x (List.dropWhile_sublist _ |>.mem hx)
theorem drop_head {l : List UInt8} {c : UInt8} {m : List UInt8} (h : dropZ l = c :: m) : c ≠ 48 := by
  induction l with
  | nil => cases h
  | cons d l ih =>
    unfold dropZ at h
    rw [List.dropWhile_cons] at h
    split at h
    · exact ih h
    · rename_i hd
      injection h with h1 h2
      subst h1
      simpa using hd
theorem dec_all (n : Nat) : (dec n).all digC = true := by
  unfold dec
  split
  · rfl
  · exact drop_all (digs_all _ _)
theorem dec_val (n : Nat) : valL (dec n) = n := by
  have h := digs_val (20 * len n) n (lt_ten n)
  rw [← drop_val] at h
  unfold dec
  split
  · rename_i e
    rw [e] at h
    rw [← h]; rfl
  · exact h
theorem dec_ne (n : Nat) : dec n ≠ [] := by
  unfold dec
  split
  · intro h; cases h
  · assumption
theorem dec_whole (n : Nat) : wholeB (dec n) = true := by
  have h1 := dec_all n
  have h2 := dec_ne n
  unfold wholeB digB
  rw [h1]
  have h3 : (dec n).isEmpty = false := by simpa using h2
  rw [h3]
  simp only [Bool.not_false, Bool.and_self, Bool.true_and, Bool.or_eq_true]
  unfold dec
  split
  · right; rfl
  · left
    rename_i hne
    rcases hd : dropZ (digs (20 * len n) n) with _ | ⟨c, m⟩
    · exact absurd hd hne
    · have := drop_head hd
      simpa using this
theorem dec_zero {n : Nat} (h : dec n = [48]) : n = 0 := by
  have := dec_val n
  rw [h] at this
  exact this.symm
theorem dec_head {n : Nat} (h : n ≠ 0) : ∃ c m, dec n = c :: m ∧ c ≠ 48 := by
  unfold dec
  rcases hd : dropZ (digs (20 * len n) n) with _ | ⟨c, m⟩
  · exfalso
    have e := digs_val (20 * len n) n (lt_ten n)
    rw [← drop_val, hd] at e
    exact h e.symm
  · exact ⟨c, m, by simp, drop_head hd⟩
/-- a list of digits holds no other sign -/
theorem dig_not {l : List UInt8} (h : l.all digC = true) {c : UInt8} (hc : digC c = false) : c ∉ l := by
  intro hm
  rw [List.all_eq_true] at h
  rw [h c hm] at hc
  cases hc
theorem index_sep {a b : List UInt8} {c : UInt8} (h : c ∉ a) : Lib.index (a ++ c :: b) [c] = a.length := by
  induction a with
  | nil => simp [Lib.index, List.isPrefixOf]
  | cons x a ih =>
    have hx : ¬ c = x := fun e => h (by rw [e]; exact List.mem_cons_self)
    have ih2 := ih (fun hm => h (List.mem_cons_of_mem _ hm))
    rw [List.cons_append]
    unfold Lib.index
    rw [ih2]
    have e1 : ([c] : List UInt8).isPrefixOf (x :: (a ++ c :: b)) = false := by
      simp [List.isPrefixOf, hx]
    rw [e1]
    have e2 : ((a.length : Int) == -1) = false := by rw [beq_eq_false_iff_ne]; omega
    rw [e2]
    simp
theorem index_no {a : List UInt8} {c : UInt8} (h : c ∉ a) : Lib.index a [c] = -1 := by
  induction a with
  | nil => rfl
  | cons x a ih =>
    have hx : ¬ c = x := fun e => h (by rw [e]; exact List.mem_cons_self)
    have ih2 := ih (fun hm => h (List.mem_cons_of_mem _ hm))
    unfold Lib.index
    rw [ih2]
    have e1 : ([c] : List UInt8).isPrefixOf (x :: a) = false := by simp [List.isPrefixOf, hx]
    rw [e1]
    rfl
theorem cut_sep {a b : List UInt8} {c : UInt8} (h : c ∉ a) : Lib.cut (a ++ [c] ++ b) [c] = (a, b, true) := by
  have e : a ++ [c] ++ b = a ++ c :: b := by simp
  unfold Lib.cut
  rw [e, index_sep h, if_pos (by omega)]
  simp
theorem cut_no {a : List UInt8} {c : UInt8} (h : c ∉ a) : Lib.cut a [c] = (a, [], false) := by
  unfold Lib.cut
  rw [index_no h, if_neg (by omega)]
theorem prefix_neg (l : List UInt8) : Lib.hasPrefix ([45] ++ l) [45] = true ∧ Lib.trimPrefix ([45] ++ l) [45] = l := by
  have h : Lib.hasPrefix ([45] ++ l) [45] = true := by simp [Lib.hasPrefix, List.isPrefixOf]
  refine ⟨h, ?_⟩
  unfold Lib.trimPrefix
  rw [if_pos h]; rfl
theorem prefix_pos {l : List UInt8} {c : UInt8} {m : List UInt8} (h : l = c :: m) (hc : c ≠ 45) : Lib.hasPrefix l [45] = false ∧ Lib.trimPrefix l [45] = l := by
  have h1 : Lib.hasPrefix l [45] = false := by
    rw [h]
    have : ¬ (45 : UInt8) = c := fun e => hc e.symm
    simp [Lib.hasPrefix, List.isPrefixOf, this]
  refine ⟨h1, ?_⟩
  unfold Lib.trimPrefix
  rw [if_neg (by rw [h1]; decide)]
/-- the sign of a text, and what is behind it -/
theorem sign_text {neg : Bool} {t : List UInt8} {c : UInt8} {m : List UInt8} (h : t = c :: m) (hc : digC c = true) :
    Lib.hasPrefix ((if neg = true then [45] else []) ++ t) [45] = neg ∧ Lib.trimPrefix ((if neg = true then [45] else []) ++ t) [45] = t := by
  cases neg
  · have h45 : c ≠ 45 := by intro e; subst e; exact absurd hc (by decide)
    exact prefix_pos h h45
  · exact prefix_neg t
theorem all_head {l : List UInt8} {c : UInt8} {m : List UInt8} (h : l = c :: m) (ha : l.all digC = true) : digC c = true := by
  rw [h, List.all_cons, Bool.and_eq_true] at ha
  exact ha.1
theorem cons_of {l : List UInt8} (h : l ≠ []) : ∃ c m, l = c :: m := by
  rcases l with _ | ⟨c, m⟩
  · exact absurd rfl h
  · exact ⟨c, m, rfl⟩
theorem slash_dig : digC 47 = false := by decide
theorem point_dig : digC 46 = false := by decide
/-- a fraction's text -/
theorem parse_frac {neg : Bool} {a d : Nat} (hd : d ≠ 0) : parseL ((if neg = true then [45] else []) ++ (dec a ++ [47] ++ dec d)) = some (mkRat (sgn neg a) d) := by
  obtain ⟨c, m, e⟩ := cons_of (dec_ne a)
  obtain ⟨h1, h2⟩ := sign_text (neg := neg) (t := dec a ++ [47] ++ dec d) (c := c) (m := m ++ [47] ++ dec d) (by rw [e]; rfl) (all_head e (dec_all a))
  have h3 := cut_sep (a := dec a) (b := dec d) (dig_not (dec_all a) slash_dig)
  unfold parseL
  rw [h1, h2, h3, if_pos rfl, if_pos ⟨dec_whole a, dec_whole d, fun h => hd (dec_zero h)⟩, dec_val, dec_val]
/-- a whole number's text -/
theorem parse_whole {neg : Bool} {a : Nat} : parseL ((if neg = true then [45] else []) ++ dec a) = some (mkRat (sgn neg a) 1) := by
  obtain ⟨c, m, e⟩ := cons_of (dec_ne a)
  obtain ⟨h1, h2⟩ := sign_text (neg := neg) (t := dec a) e (all_head e (dec_all a))
  have h3 := cut_no (dig_not (dec_all a) slash_dig)
  have h4 := cut_no (dig_not (dec_all a) point_dig)
  unfold parseL
  rw [h1, h2, h3, if_neg (fun h => by cases h), h4, if_pos ⟨dec_whole a, fun h => by cases h⟩, List.append_nil, dec_val]
  rfl
theorem rep_val (n : Nat) (l : List UInt8) : valL (List.replicate n 48 ++ l) = valL l := by
  induction n with
  | zero => rfl
  | succ n ih =>
    rw [List.replicate_succ, List.cons_append]
    rw [← ih]
    rfl
/-- a text with a point -/
theorem parse_point {neg : Bool} {a p : Nat} (ha : a ≠ 0) (hp : p ≠ 0) : parseL ((if neg = true then [45] else []) ++ pointL (dec a) p) = some (mkRat (sgn neg a) (10 ^ p)) := by
  obtain ⟨l, el⟩ : ∃ l, List.replicate (p + 1 - (dec a).length) 48 ++ dec a = l := ⟨_, rfl⟩
  have hall : l.all digC = true := by
    rw [← el, List.all_append, dec_all, Bool.and_true, List.all_eq_true]
    intro x hx
    rw [List.eq_of_mem_replicate hx]; rfl
  have hlen : p + 1 ≤ l.length := by rw [← el, List.length_append, List.length_replicate]; omega
  have hval : valL l = a := by rw [← el, rep_val, dec_val]
  obtain ⟨A, eA⟩ : ∃ A, l.take (l.length - p) = A := ⟨_, rfl⟩
  obtain ⟨B, eB⟩ : ∃ B, l.drop (l.length - p) = B := ⟨_, rfl⟩
  have hAB : A ++ B = l := by rw [← eA, ← eB]; exact List.take_append_drop _ _
  have hA : A.all digC = true := by rw [← hAB, List.all_append, Bool.and_eq_true] at hall; exact hall.1
  have hB : B.all digC = true := by rw [← hAB, List.all_append, Bool.and_eq_true] at hall; exact hall.2
  have hBl : B.length = p := by rw [← eB, List.length_drop]; omega
  have hAl : A.length = l.length - p := by rw [← eA, List.length_take]; omega
  have hAne : A ≠ [] := by intro h; rw [h] at hAl; simp at hAl; omega
  have hBne : B ≠ [] := by intro h; rw [h] at hBl; simp at hBl; omega
  have hpl : pointL (dec a) p = A ++ [46] ++ B := by
    unfold pointL
    rw [if_neg hp, el, eA, eB]
  obtain ⟨c, m, e⟩ := cons_of hAne
  obtain ⟨h1, h2⟩ := sign_text (neg := neg) (t := A ++ [46] ++ B) (c := c) (m := m ++ [46] ++ B) (by rw [e]; rfl) (all_head e hA)
  have hno : (47 : UInt8) ∉ A ++ [46] ++ B := by
    intro hm
    rw [List.mem_append, List.mem_append] at hm
    rcases hm with (hm | hm) | hm
    · exact dig_not hA slash_dig hm
    · simp at hm
    · exact dig_not hB slash_dig hm
  have h3 := cut_no hno
  have h4 := cut_sep (a := A) (b := B) (dig_not hA point_dig)
  have hAw : wholeB A = true := by
    unfold wholeB digB
    have e3 : A.isEmpty = false := by simpa using hAne
    rw [hA, e3]
    simp only [Bool.not_false, Bool.and_self, Bool.true_and, Bool.or_eq_true]
    rcases Nat.lt_or_ge p (dec a).length with hlt | hge
    · left
      obtain ⟨c0, m0, e0, hc0⟩ := dec_head ha
      have el2 : l = dec a := by rw [← el, show p + 1 - (dec a).length = 0 by omega]; rfl
      have ec : c = c0 := by
        have : A ++ B = c0 :: m0 := by rw [hAB, el2, e0]
        rw [e, List.cons_append] at this
        injection this
      rw [e, ec]
      simpa using hc0
    · right
      have hl1 : l.length = p + 1 := by rw [← el, List.length_append, List.length_replicate]; omega
      have hA1 : A.length = 1 := by omega
      rw [e] at hA1 ⊢
      have hm0 : m = [] := by simpa using hA1
      subst hm0
      have ec : c = 48 := by
        have h0 : (A ++ B).head? = some c := by rw [e]; rfl
        rw [hAB, ← el] at h0
        obtain ⟨j, hj⟩ : ∃ j, p + 1 - (dec a).length = j + 1 := ⟨p - (dec a).length, by omega⟩
        rw [hj, List.replicate_succ] at h0
        simpa using h0.symm
      rw [ec]; rfl
  have hBd : digB B = true := by
    unfold digB
    have e3 : B.isEmpty = false := by simpa using hBne
    rw [hB, e3]; rfl
  unfold parseL
  rw [hpl, h1, h2, h3, if_neg (fun h => by cases h), h4, if_pos ⟨hAw, fun _ => hBd⟩, hAB, hval, hBl]
theorem dec_len_le {n k : Nat} (h : n < 10 ^ k) (hk : 0 < k) : (dec n).length ≤ k := by
  rw [dec_of h]
  split
  · show 1 ≤ k
    omega
  · have := List.Sublist.length_le (List.dropWhile_sublist (l := digs k n) (fun c => c == 48))
    rw [digs_len] at this
    exact this
theorem neg_if (q : Rat) : (if q.num < 0 then ([45] : List UInt8) else []) = if decide (q.num < 0) = true then [45] else [] := by
  rcases Decidable.em (q.num < 0) with h | h
  · rw [if_pos h, if_pos (decide_eq_true h)]
  · rw [if_neg h, if_neg (by rw [decide_eq_false h]; decide)]
theorem vp_pow {t f : Nat} : vp 2 (2 ^ t * 5 ^ f) = t ∧ vp 5 (2 ^ t * 5 ^ f) = f := by
  have h5 : 5 ^ f % 2 ≠ 0 := by
    have : ∀ f : Nat, 5 ^ f % 2 = 1 := by
      intro f
      induction f with
      | zero => rfl
      | succ f ih => rw [Nat.pow_succ]; omega
    rw [this]; omega
  constructor
  · rw [Nat.mul_comm]; exact vp_of (by omega) h5
  · have h := two_mod_five t
    exact vp_of (by omega) (by omega)
/-- THE TEXT OF A NUMBER HAS IT AS ITS VALUE. -/
theorem parse_text (q : Rat) : parseL (textQ q) = some q := by
  unfold textQ
  rw [neg_if]
  have hden : q.den ≠ 0 := Nat.ne_of_gt q.den_pos
  rcases Decidable.em (q.den = 2 ^ vp 2 q.den * 5 ^ vp 5 q.den) with h | h
  · rw [if_pos h]
    obtain ⟨t, ht⟩ : ∃ t, vp 2 q.den = t := ⟨_, rfl⟩
    obtain ⟨f, hf⟩ : ∃ f, vp 5 q.den = f := ⟨_, rfl⟩
    rw [ht, hf] at h ⊢
    obtain ⟨p, hp⟩ : ∃ p, max t f = p := ⟨_, rfl⟩
    rw [hp]
    have hpt : t ≤ p := by omega
    have hpf : f ≤ p := by omega
    rcases Nat.eq_zero_or_pos p with h0 | h0
    · have ht0 : t = 0 := by omega
      have hf0 : f = 0 := by omega
      subst h0 ht0 hf0
      have hd1 : q.den = 1 := by rw [h]
      have e : q.num.natAbs * 5 ^ (0 - 0) * 2 ^ (0 - 0) = q.num.natAbs := by simp
      rw [e]
      have e2 : pointL (dec q.num.natAbs) 0 = dec q.num.natAbs := if_pos rfl
      rw [e2, parse_whole, sgn_self]
      congr 1
      have := Rat.mkRat_self q
      rw [hd1] at this
      exact this
    · have hn0 : q.num.natAbs ≠ 0 := by
        intro hz
        have hnum : q.num = 0 := Int.natAbs_eq_zero.1 hz
        have hq0 : q = 0 := Rat.num_eq_zero.1 hnum
        rw [hq0] at h
        have h1 : (0 : Rat).den = 1 := rfl
        rw [h1] at h
        have i1 : 0 < 2 ^ t := Nat.pow_pos (by omega)
        have i2 : 0 < 5 ^ f := Nat.pow_pos (by omega)
        rcases Nat.eq_zero_or_pos t with k | k
        · have kf : 0 < f := by omega
          obtain ⟨j, rfl⟩ : ∃ j, f = j + 1 := ⟨f - 1, by omega⟩
          have : 1 ≤ 5 ^ j := Nat.pow_pos (by omega)
          rw [Nat.pow_succ] at h
          have : 2 ^ t * (5 ^ j * 5) ≥ 1 * (1 * 5) := Nat.mul_le_mul i1 (Nat.mul_le_mul this (Nat.le_refl 5))
          omega
        · obtain ⟨j, rfl⟩ : ∃ j, t = j + 1 := ⟨t - 1, by omega⟩
          have : 1 ≤ 2 ^ j := Nat.pow_pos (by omega)
          rw [Nat.pow_succ] at h
          have : 2 ^ j * 2 * 5 ^ f ≥ 1 * 2 * 1 := Nat.mul_le_mul (Nat.mul_le_mul this (Nat.le_refl 2)) i2
          omega
      have hm0 : q.num.natAbs * 5 ^ (p - f) * 2 ^ (p - t) ≠ 0 := Nat.mul_ne_zero (Nat.mul_ne_zero hn0 (Nat.ne_of_gt (Nat.pow_pos (by omega)))) (Nat.ne_of_gt (Nat.pow_pos (by omega)))
      rw [parse_point hm0 (by omega)]
      congr 1
      have e10 : 10 ^ p = q.den * (5 ^ (p - f) * 2 ^ (p - t)) := by
        have i1 : 2 ^ p = 2 ^ t * 2 ^ (p - t) := by rw [← Nat.pow_add]; congr 1; omega
        have i2 : 5 ^ p = 5 ^ f * 5 ^ (p - f) := by rw [← Nat.pow_add]; congr 1; omega
        rw [show (10 : Nat) = 2 * 5 by rfl, Nat.mul_pow, i1, i2, h]
        simp only [Nat.mul_assoc, Nat.mul_comm, Nat.mul_left_comm]
      have es : sgn (decide (q.num < 0)) (q.num.natAbs * 5 ^ (p - f) * 2 ^ (p - t)) = q.num * ((5 ^ (p - f) * 2 ^ (p - t) : Nat) : Int) := by
        have e1 := sgn_self q.num
        rw [Nat.mul_assoc]
        unfold sgn at e1 ⊢
        split
        · rename_i hd
          rw [if_pos hd] at e1
          rw [Int.natCast_mul, ← Int.neg_mul, e1]
        · rename_i hd
          rw [if_neg hd] at e1
          rw [Int.natCast_mul, e1]
      rw [es, e10]
      rw [Rat.mkRat_mul_right (Nat.ne_of_gt (Nat.mul_pos (Nat.pow_pos (by omega)) (Nat.pow_pos (by omega))))]
      exact Rat.mkRat_self q
  · rw [if_neg h, parse_frac hden, sgn_self]
    congr 1
    exact Rat.mkRat_self q
end Go.Proofs.YtlffafddmmhbmaaGreatDoor
namespace Go.Proofs.YtlffafddmmhbmaaGreatDoor
open Vx

theorem mk_num_le (n : Int) (d : Nat) : (mkRat n d).num.natAbs ≤ n.natAbs := by
  rcases Nat.eq_zero_or_pos d with h | h
  · subst h
    rw [Rat.mkRat_zero]
    exact Nat.zero_le _
  · rw [Rat.num_mkRat]
    split
    · exact Nat.zero_le _
    · exact Int.natAbs_ediv_le_natAbs _ _
theorem mk_den_le {n : Int} {d : Nat} (h : 0 < d) : (mkRat n d).den ≤ d := by
  rw [Rat.den_mkRat]
  split
  · omega
  · exact Nat.div_le_self _ _
theorem ten_le {a b : Nat} (h : a ≤ b) : 10 ^ a ≤ 10 ^ b := Nat.pow_le_pow_right (by omega) h
theorem mk_den_one (n : Int) (d : Nat) : (mkRat n d).den ≤ max d 1 := by
  rcases Nat.eq_zero_or_pos d with h | h
  · subst h; rw [Rat.mkRat_zero]; exact Nat.le_refl _
  · exact Nat.le_trans (mk_den_le h) (Nat.le_max_left _ _)
/-- the numeral's number is small -/
theorem parse_small {s : ByteArray} (hs : s.size ≤ 120) : (parseV s).1.num.natAbs < 10 ^ 120 ∧ (parseV s).1.den ≤ 10 ^ 120 := by
  have z : (0 : Rat).num.natAbs < 10 ^ 120 ∧ (0 : Rat).den ≤ 10 ^ 120 := ⟨Nat.pow_pos (by omega), Nat.pow_pos (by omega)⟩
  unfold parseV
  split
  · exact z
  · have hsz : s.data.toList.length ≤ 120 := by rw [size_data]; exact hs
    split
    · exact z
    · rename_i q hq
      have ht := trim_len s.data.toList [45]
      have c1 := cut_len (Lib.trimPrefix s.data.toList [45]) [47]
      have c2 := cut_len (Lib.trimPrefix s.data.toList [45]) [46]
      unfold parseL at hq
      split at hq
      · split at hq
        · rename_i h1
          obtain rfl := Option.some.inj hq
          have n1 := valL_lt (dig_all (whole_dig h1.1))
          have n2 := valL_lt (dig_all (whole_dig h1.2.1))
          constructor
          · refine Nat.lt_of_le_of_lt (mk_num_le _ _) ?_
            rw [sgn_natAbs]
            exact Nat.lt_of_lt_of_le n1 (ten_le (by omega))
          · refine Nat.le_trans (mk_den_one _ _) (Nat.max_le.2 ⟨Nat.le_trans (Nat.le_of_lt n2) (ten_le (by omega)), Nat.pow_pos (by omega)⟩)
        · cases hq
      · split at hq
        · rename_i h1 h2
          obtain rfl := Option.some.inj hq
          have hb : (Lib.cut (Lib.trimPrefix s.data.toList [45]) [46]).2.1.all digC = true := by
            rcases hf : (Lib.cut (Lib.trimPrefix s.data.toList [45]) [46]).2.2 with _ | _
            · rw [cut_none _ _ hf]; rfl
            · exact dig_all (h2.2 hf)
          have hab : ((Lib.cut (Lib.trimPrefix s.data.toList [45]) [46]).1 ++ (Lib.cut (Lib.trimPrefix s.data.toList [45]) [46]).2.1).all digC = true := by
            rw [List.all_append, hb, dig_all (whole_dig h2.1)]; rfl
          have n1 := valL_lt hab
          have hlen : ((Lib.cut (Lib.trimPrefix s.data.toList [45]) [46]).1 ++ (Lib.cut (Lib.trimPrefix s.data.toList [45]) [46]).2.1).length ≤ 120 := by
            refine Nat.le_trans ?_ (Nat.le_trans ht hsz)
            unfold Lib.cut
            split
            · rw [List.length_append, List.length_take, List.length_drop]; omega
            · rw [List.length_append]; simp
          constructor
          · refine Nat.lt_of_le_of_lt (mk_num_le _ _) ?_
            rw [sgn_natAbs]
            exact Nat.lt_of_lt_of_le n1 (ten_le hlen)
          · exact Nat.le_trans (mk_den_one _ _) (Nat.max_le.2 ⟨ten_le (by omega), Nat.pow_pos (by omega)⟩)
        · cases hq
theorem big_is : ∃ E : Nat, E = 400 ∧ (10 : Nat) ^ 120 < 2 ^ E ∧ (10 : Nat) ^ 120 * 5 ^ E * 2 ^ E = 10 ^ 520 := ⟨400, rfl, by decide +kernel, by decide +kernel⟩
/-- and so is its text -/
theorem text_short {q : Rat} (h1 : q.num.natAbs < 10 ^ 120) (h2 : q.den ≤ 10 ^ 120) : (textQ q).length ≤ 2000 := by
  have hs : (if q.num < 0 then ([45] : List UInt8) else []).length ≤ 1 := by split <;> simp
  unfold textQ
  rw [List.length_append]
  obtain ⟨sg, hsg⟩ : ∃ l : List UInt8, (if q.num < 0 then [45] else []) = l := ⟨_, rfl⟩
  rw [hsg] at hs ⊢
  obtain ⟨E, hE, big_400, big_520⟩ := big_is
  rcases Decidable.em (q.den = 2 ^ vp 2 q.den * 5 ^ vp 5 q.den) with h | h
  · rw [if_pos h]
    obtain ⟨t, ht⟩ : ∃ t, vp 2 q.den = t := ⟨_, rfl⟩
    obtain ⟨f, hf⟩ : ∃ f, vp 5 q.den = f := ⟨_, rfl⟩
    rw [ht, hf] at h ⊢
    have i1 : 0 < 2 ^ t := Nat.pow_pos (by omega)
    have i2 : 0 < 5 ^ f := Nat.pow_pos (by omega)
    have ht4 : t < E := by
      rcases Nat.lt_or_ge t E with k | k
      · exact k
      · have e1 : 2 ^ E ≤ 2 ^ t := Nat.pow_le_pow_right (by decide) k
        have e2 : 2 ^ t ≤ 2 ^ t * 5 ^ f := Nat.le_mul_of_pos_right _ i2
        rw [← h] at e2
        exact absurd (Nat.le_trans (Nat.le_trans e1 e2) h2) (Nat.not_le.2 big_400)
    have hf4 : f < E := by
      rcases Nat.lt_or_ge f E with k | k
      · exact k
      · have e0 : (2 : Nat) ^ E ≤ 5 ^ E := Nat.pow_le_pow_left (by decide) _
        have e1 : 5 ^ E ≤ 5 ^ f := Nat.pow_le_pow_right (by decide) k
        have e2 : 5 ^ f ≤ 2 ^ t * 5 ^ f := Nat.le_mul_of_pos_left _ i1
        rw [← h] at e2
        exact absurd (Nat.le_trans (Nat.le_trans e0 (Nat.le_trans e1 e2)) h2) (Nat.not_le.2 big_400)
    obtain ⟨p, hp⟩ : ∃ p, max t f = p := ⟨_, rfl⟩
    rw [hp]
    have hp4 : p < E := by omega
    have hm : q.num.natAbs * 5 ^ (p - f) * 2 ^ (p - t) < 10 ^ 520 := by
      have p1 : p - f ≤ E := by omega
      have p2 : p - t ≤ E := by omega
      have j1 : 5 ^ (p - f) ≤ 5 ^ E := Nat.pow_le_pow_right (by decide) p1
      have j2 : 2 ^ (p - t) ≤ 2 ^ E := Nat.pow_le_pow_right (by decide) p2
      have j3 : q.num.natAbs * 5 ^ (p - f) * 2 ^ (p - t) ≤ q.num.natAbs * 5 ^ E * 2 ^ E := Nat.mul_le_mul (Nat.mul_le_mul (Nat.le_refl _) j1) j2
      have j4 : q.num.natAbs * 5 ^ E * 2 ^ E < 10 ^ 120 * 5 ^ E * 2 ^ E := Nat.mul_lt_mul_of_pos_right (Nat.mul_lt_mul_of_pos_right h1 (Nat.pow_pos (by decide))) (Nat.pow_pos (by decide))
      have j5 := big_520
      rw [j5] at j4
      exact Nat.lt_of_le_of_lt j3 j4
    have hd := dec_len_le hm (by omega)
    have hpl : (pointL (dec (q.num.natAbs * 5 ^ (p - f) * 2 ^ (p - t))) p).length ≤ 1000 := by
      unfold pointL
      split
      · omega
      · rw [List.length_append, List.length_append, List.length_take, List.length_drop, List.length_append, List.length_replicate, List.length_singleton]
        omega
    omega
  · clear big_400 big_520
    rw [if_neg h]
    have d1 := dec_len_le h1 (by omega)
    have d2 := dec_len_le (n := q.den) (k := 121) (by rw [Nat.pow_succ]; omega) (by omega)
    rw [List.length_append, List.length_append, List.length_singleton]
    omega
end Go.Proofs.YtlffafddmmhbmaaGreatDoor
namespace Go.Proofs.YtlffafddmmhbmaaGreatDoor
open Vx

theorem flr_floor (x : Rat) : flr x = (x.floor : Rat) := by
  unfold flr
  rw [Rat.floor_def, Rat.mkRat_one]
theorem flr_le (x : Rat) : flr x ≤ x := by rw [flr_floor]; exact Rat.floor_le x
theorem lt_flr (x : Rat) : x < flr x + 1 := by
  have h := Rat.lt_floor_add_one x
  rw [Rat.intCast_add] at h
  rw [flr_floor]; exact h
theorem div_mul_pos {a g : Rat} (hg : 0 < g) : a / g * g = a := Rat.div_mul_cancel (by intro h; rw [h] at hg; exact absurd hg (by decide))
theorem out_low {a g : Rat} (hg : 0 < g) : flr (a / g) * g ≤ a := by
  have h := Rat.mul_le_mul_of_nonneg_right (flr_le (a / g)) (Rat.le_of_lt hg)
  rw [div_mul_pos hg] at h; exact h
theorem out_low2 {a g : Rat} (hg : 0 < g) : a < flr (a / g) * g + g := by
  have h := Rat.mul_lt_mul_of_pos_right (lt_flr (a / g)) hg
  rw [div_mul_pos hg] at h
  rw [Rat.add_mul, Rat.one_mul] at h; exact h
theorem out_high {b g : Rat} (hg : 0 < g) : b ≤ -flr (-(b / g)) * g := by
  have h := Rat.mul_le_mul_of_nonneg_right (flr_le (-(b / g))) (Rat.le_of_lt hg)
  have e := div_mul_pos (a := b) hg
  grind
theorem out_high2 {b g : Rat} (hg : 0 < g) : -flr (-(b / g)) * g - g < b := by
  have h := Rat.mul_lt_mul_of_pos_right (lt_flr (-(b / g))) hg
  have e := div_mul_pos (a := b) hg
  grind
/-- floor and ceiling of what is not negative are naturals -/
theorem flr_nat {x : Rat} (h : 0 ≤ x) : flr x = (((flr x).num.natAbs : Nat) : Rat) := by
  have h1 : 0 ≤ x.floor := by rw [Rat.le_floor_iff]; exact h
  rw [flr_floor, Rat.num_intCast]
  obtain ⟨n, hn⟩ := Int.eq_ofNat_of_zero_le h1
  rw [hn]; simp [Rat.intCast_natCast]
theorem ceil_nat {x : Rat} (h : 0 ≤ x) : -flr (-x) = (((-flr (-x)).num.natAbs : Nat) : Rat) := by
  have h2 : (-x).floor ≤ 0 := by
    have h3 := Rat.floor_le (-x)
    have h4 : (((-x).floor : Int) : Rat) ≤ ((0 : Int) : Rat) := by
      refine Rat.le_trans h3 ?_
      have : ((0 : Int) : Rat) = 0 := rfl
      rw [this]; grind
    exact Rat.intCast_le_intCast.1 h4
  have e : -flr (-x) = ((-(-x).floor : Int) : Rat) := by rw [flr_floor, Rat.intCast_neg]
  rw [e, Rat.num_intCast]
  obtain ⟨n, hn⟩ := Int.eq_ofNat_of_zero_le (show 0 ≤ -(-x).floor by omega)
  rw [hn]; simp [Rat.intCast_natCast]
theorem up_sq (h : Nat) : h ≤ upRoot h * upRoot h := by
  unfold upRoot
  have h1 := root_lt h
  split
  · omega
  · rename_i h2; omega
theorem up_below {h m : Nat} (e : upRoot h = m + 1) : m * m < h := by
  unfold upRoot at e
  split at e
  · rename_i h2; rw [show m = rootOf h by omega]; exact h2
  · rename_i h2
    have h1 := root_sq h
    have : m * m < rootOf h * rootOf h := by
      rw [e]; exact Nat.mul_self_lt_mul_self (by omega)
    omega
theorem up_least {h m : Nat} (hm : h ≤ m * m) : upRoot h ≤ m := by
  rcases Nat.lt_or_ge m (upRoot h) with h1 | h1
  · obtain ⟨k, hk⟩ : ∃ k, upRoot h = k + 1 := ⟨upRoot h - 1, by omega⟩
    have h2 := up_below hk
    have h3 : m * m ≤ k * k := Nat.mul_le_mul (by omega) (by omega)
    omega
  · exact h1
/-- the ends of a root -/
def lowRt (a g : Rat) : Rat := ((rootOf (flr (a / (g * g))).num.natAbs : Nat) : Rat) * g
def highRt (b g : Rat) : Rat := ((upRoot (-flr (-(b / (g * g)))).num.natAbs : Nat) : Rat) * g
theorem sq_pos {g : Rat} (hg : 0 < g) : 0 < g * g := Rat.mul_pos hg hg
theorem low_nonneg {a g : Rat} (hg : 0 < g) : 0 ≤ lowRt a g := Rat.mul_nonneg (by exact nat_le (Nat.zero_le _)) (Rat.le_of_lt hg)
theorem low_sq {a g : Rat} (hg : 0 < g) (ha : 0 ≤ a) : lowRt a g * lowRt a g ≤ a := by
  have hq := sq_pos hg
  have h0 := div_nonneg hq ha
  unfold lowRt
  have h1 := flr_nat h0
  have h2 := flr_le (a / (g * g))
  obtain ⟨N, hN⟩ : ∃ N, N = (flr (a / (g * g))).num.natAbs := ⟨_, rfl⟩
  rw [← hN] at h1 ⊢
  rw [h1] at h2
  have h3 := nat_le (root_sq N)
  rw [Rat.natCast_mul] at h3
  have h4 := Rat.mul_le_mul_of_nonneg_right (Rat.le_trans h3 h2) (Rat.le_of_lt hq)
  rw [div_mul_pos hq] at h4
  grind
theorem low_up {a g : Rat} (hg : 0 < g) (ha : 0 ≤ a) : a < (lowRt a g + g) * (lowRt a g + g) := by
  have hq := sq_pos hg
  have h0 := div_nonneg hq ha
  unfold lowRt
  have h1 := flr_nat h0
  have h2 := lt_flr (a / (g * g))
  obtain ⟨N, hN⟩ : ∃ N, N = (flr (a / (g * g))).num.natAbs := ⟨_, rfl⟩
  rw [← hN] at h1 ⊢
  rw [h1] at h2
  have h3 := nat_le (show N + 1 ≤ (rootOf N + 1) * (rootOf N + 1) from root_lt N)
  rw [Rat.natCast_mul, Rat.natCast_add, Rat.natCast_add] at h3
  have h6 : ((1 : Nat) : Rat) = 1 := rfl
  rw [h6] at h3
  have h4 := Rat.mul_lt_mul_of_pos_right (show a / (g * g) < ((rootOf N : Rat) + 1) * ((rootOf N : Rat) + 1) by grind) hq
  rw [div_mul_pos hq] at h4
  grind
theorem high_sq {b g : Rat} (hg : 0 < g) (hb : 0 ≤ b) : b ≤ highRt b g * highRt b g := by
  have hq := sq_pos hg
  have h0 := div_nonneg hq hb
  unfold highRt
  have h1 := ceil_nat h0
  have h2 := flr_le (-(b / (g * g)))
  obtain ⟨N, hN⟩ : ∃ N, N = (-flr (-(b / (g * g)))).num.natAbs := ⟨_, rfl⟩
  rw [← hN] at h1 ⊢
  have h3 := nat_le (up_sq N)
  rw [Rat.natCast_mul] at h3
  have h5 : b / (g * g) ≤ (upRoot N : Rat) * (upRoot N : Rat) := by grind
  have h4 := Rat.mul_le_mul_of_nonneg_right h5 (Rat.le_of_lt hq)
  rw [div_mul_pos hq] at h4
  grind
theorem high_down {b g : Rat} (hg : 0 < g) (hb : 0 ≤ b) (h : 0 ≤ highRt b g - g) : (highRt b g - g) * (highRt b g - g) < b := by
  have hq := sq_pos hg
  have h0 := div_nonneg hq hb
  unfold highRt at h ⊢
  have h1 := ceil_nat h0
  have h2 := lt_flr (-(b / (g * g)))
  obtain ⟨N, hN⟩ : ∃ N, N = (-flr (-(b / (g * g)))).num.natAbs := ⟨_, rfl⟩
  rw [← hN] at h1 h ⊢
  rcases hm : upRoot N with _ | m
  · exfalso
    rw [hm] at h
    have : ((0 : Nat) : Rat) = 0 := rfl
    rw [this] at h
    grind
  · have h3 := nat_le (show m * m + 1 ≤ N from up_below hm)
    rw [Rat.natCast_add, Rat.natCast_mul] at h3
    have h6 : ((1 : Nat) : Rat) = 1 := rfl
    rw [h6] at h3
    have h5 : (m : Rat) * (m : Rat) < b / (g * g) := by grind
    have h4 := Rat.mul_lt_mul_of_pos_right h5 hq
    rw [div_mul_pos hq] at h4
    rw [Rat.natCast_add, h6]
    grind
theorem flr_mono {x y : Rat} (h : x ≤ y) : flr x ≤ flr y := by
  rw [flr_floor, flr_floor]; exact Rat.intCast_le_intCast.2 (Rat.floor_monotone h)
theorem root_mono {a b : Nat} (h : a ≤ b) : rootOf a ≤ rootOf b := root_max (Nat.le_trans (root_sq a) h)
theorem up_mono {a b : Nat} (h : a ≤ b) : upRoot a ≤ upRoot b := up_least (Nat.le_trans h (up_sq b))
theorem low_mono {a b g : Rat} (hg : 0 < g) (ha : 0 ≤ a) (h : a ≤ b) : lowRt a g ≤ lowRt b g := by
  have hq := sq_pos hg
  have h1 := flr_nat (div_nonneg hq ha)
  have h2 := flr_nat (div_nonneg hq (Rat.le_trans ha h))
  have h3 := flr_mono (div_mono hq h)
  rw [h1, h2] at h3
  exact Rat.mul_le_mul_of_nonneg_right (nat_le (root_mono (Rat.natCast_le_natCast.1 h3))) (Rat.le_of_lt hg)
theorem high_mono {a b g : Rat} (hg : 0 < g) (ha : 0 ≤ a) (h : a ≤ b) : highRt a g ≤ highRt b g := by
  have hq := sq_pos hg
  have h1 := ceil_nat (div_nonneg hq ha)
  have h2 := ceil_nat (div_nonneg hq (Rat.le_trans ha h))
  have h3 := div_mono hq h
  have h4 := flr_mono (show -(b / (g * g)) ≤ -(a / (g * g)) by grind)
  have h5 : -flr (-(a / (g * g))) ≤ -flr (-(b / (g * g))) := by grind
  rw [h1, h2] at h5
  exact Rat.mul_le_mul_of_nonneg_right (nat_le (up_mono (Rat.natCast_le_natCast.1 h5))) (Rat.le_of_lt hg)
theorem root_near {x g : Rat} (hg : 0 < g) (hx : 0 ≤ x) : highRt x g - lowRt x g < g + g := by
  have hq := sq_pos hg
  have h0 := div_nonneg hq hx
  have h1 := ceil_nat h0
  have h2 := flr_nat h0
  have h3 := lt_flr (x / (g * g))
  have h4 := lt_flr (-(x / (g * g)))
  unfold highRt lowRt
  obtain ⟨M, hM⟩ : ∃ M, M = (-flr (-(x / (g * g)))).num.natAbs := ⟨_, rfl⟩
  obtain ⟨N, hN⟩ : ∃ N, N = (flr (x / (g * g))).num.natAbs := ⟨_, rfl⟩
  rw [← hM] at h1 ⊢
  rw [← hN] at h2 ⊢
  have h6 : ((1 : Nat) : Rat) = 1 := rfl
  have h5 : (M : Rat) < ((N + 2 : Nat) : Rat) := by
    rw [Rat.natCast_add]
    have : ((2 : Nat) : Rat) = 2 := rfl
    rw [this]; grind
  have h7 : M ≤ N + 1 := by have := Rat.natCast_lt_natCast.1 h5; omega
  have h8 : upRoot M ≤ rootOf N + 1 := up_least (Nat.le_trans h7 (root_lt N))
  have h9 := nat_le h8
  rw [Rat.natCast_add, h6] at h9
  have h10 := Rat.mul_le_mul_of_nonneg_right h9 (Rat.le_of_lt hg)
  grind
theorem num_pos {q : Rat} : 0 < q.num ↔ 0 < q := by
  have h := Rat.num_nonneg (q := -q)
  rw [Rat.neg_num] at h
  constructor
  · intro h1
    rcases Decidable.em (0 < q) with h2 | h2
    · exact h2
    · have := h.2 (by grind)
      omega
  · intro h1
    rcases Decidable.em (0 < q.num) with h2 | h2
    · exact h2
    · have := h.1 (by omega)
      grind
theorem num_nonneg {q : Rat} : 0 ≤ q.num ↔ 0 ≤ q := by rw [Rat.num_nonneg]
end Go.Proofs.YtlffafddmmhbmaaGreatDoor
namespace Go.Proofs.YtlffafddmmhbmaaGreatDoor
open Vx

theorem cmp_cases (x y : Rat) : (x < y ∧ cmpQ x y = -1) ∨ (x = y ∧ cmpQ x y = 0) ∨ (y < x ∧ cmpQ x y = 1) := by
  unfold cmpQ
  rcases Decidable.em (x < y) with h | h
  · rw [if_pos h]; exact Or.inl ⟨h, rfl⟩
  · rw [if_neg h]
    rcases Decidable.em (x = y) with e | e
    · rw [if_pos e]; exact Or.inr (Or.inl ⟨e, rfl⟩)
    · rw [if_neg e]; exact Or.inr (Or.inr ⟨by grind, rfl⟩)
theorem sign_cases (x : Rat) : (x < 0 ∧ x.num.sign = -1) ∨ (x = 0 ∧ x.num.sign = 0) ∨ (0 < x ∧ x.num.sign = 1) := by
  rcases Int.lt_trichotomy x.num 0 with h | h | h
  · refine Or.inl ⟨?_, Int.sign_eq_neg_one_of_neg h⟩
    have h2 : ¬ 0 ≤ x := fun k => by have := Rat.num_nonneg.2 k; omega
    grind
  · refine Or.inr (Or.inl ⟨Rat.num_eq_zero.1 h, by rw [h]; rfl⟩)
  · refine Or.inr (Or.inr ⟨?_, Int.sign_eq_one_of_pos h⟩)
    have h1 := Rat.num_nonneg.1 (Int.le_of_lt h)
    have h2 : x ≠ 0 := fun e => by rw [e] at h; exact absurd h (by decide)
    grind
theorem cmp_swap (x y : Rat) : cmpQ x y = -cmpQ y x := by
  rcases cmp_cases x y with ⟨h, e⟩ | ⟨h, e⟩ | ⟨h, e⟩ <;> rcases cmp_cases y x with ⟨h2, e2⟩ | ⟨h2, e2⟩ | ⟨h2, e2⟩ <;> rw [e, e2] <;> first | rfl | (exfalso; grind)
theorem cmp_bound (x y : Rat) : -1 ≤ cmpQ x y ∧ cmpQ x y ≤ 1 := by
  rcases cmp_cases x y with ⟨h, e⟩ | ⟨h, e⟩ | ⟨h, e⟩ <;> rw [e] <;> exact ⟨by decide, by decide⟩
theorem cmp_sub (x y : Rat) : (x - y).num.sign = cmpQ x y := by
  rcases cmp_cases x y with ⟨h, e⟩ | ⟨h, e⟩ | ⟨h, e⟩ <;> rcases sign_cases (x - y) with ⟨h2, e2⟩ | ⟨h2, e2⟩ | ⟨h2, e2⟩ <;> rw [e, e2] <;> (exfalso; grind)
theorem cmp_add (x y z : Rat) : cmpQ (x + z) (y + z) = cmpQ x y := by
  rcases cmp_cases x y with ⟨h, e⟩ | ⟨h, e⟩ | ⟨h, e⟩ <;> rcases cmp_cases (x + z) (y + z) with ⟨h2, e2⟩ | ⟨h2, e2⟩ | ⟨h2, e2⟩ <;> rw [e, e2] <;> (exfalso; grind)
theorem cmp_mul (x y z : Rat) : cmpQ (x * z) (y * z) = cmpQ x y * z.num.sign := by
  rcases sign_cases z with ⟨hz, ez⟩ | ⟨hz, ez⟩ | ⟨hz, ez⟩
  · have hm : 0 < -z := by grind
    rcases cmp_cases x y with ⟨h, e⟩ | ⟨h, e⟩ | ⟨h, e⟩
    · have i := Rat.mul_lt_mul_of_pos_right h hm
      rcases cmp_cases (x * z) (y * z) with ⟨h2, e2⟩ | ⟨h2, e2⟩ | ⟨h2, e2⟩ <;> rw [e, e2, ez] <;> first | rfl | (exfalso; grind)
    · rcases cmp_cases (x * z) (y * z) with ⟨h2, e2⟩ | ⟨h2, e2⟩ | ⟨h2, e2⟩ <;> rw [e, e2, ez] <;> first | rfl | (exfalso; grind)
    · have i := Rat.mul_lt_mul_of_pos_right h hm
      rcases cmp_cases (x * z) (y * z) with ⟨h2, e2⟩ | ⟨h2, e2⟩ | ⟨h2, e2⟩ <;> rw [e, e2, ez] <;> first | rfl | (exfalso; grind)
  · rcases cmp_cases (x * z) (y * z) with ⟨h2, e2⟩ | ⟨h2, e2⟩ | ⟨h2, e2⟩ <;> rw [e2, ez, Int.mul_zero] <;> (exfalso; grind)
  · rcases cmp_cases x y with ⟨h, e⟩ | ⟨h, e⟩ | ⟨h, e⟩
    · have i := Rat.mul_lt_mul_of_pos_right h hz
      rcases cmp_cases (x * z) (y * z) with ⟨h2, e2⟩ | ⟨h2, e2⟩ | ⟨h2, e2⟩ <;> rw [e, e2, ez] <;> first | rfl | (exfalso; grind)
    · rcases cmp_cases (x * z) (y * z) with ⟨h2, e2⟩ | ⟨h2, e2⟩ | ⟨h2, e2⟩ <;> rw [e, e2, ez] <;> first | rfl | (exfalso; grind)
    · have i := Rat.mul_lt_mul_of_pos_right h hz
      rcases cmp_cases (x * z) (y * z) with ⟨h2, e2⟩ | ⟨h2, e2⟩ | ⟨h2, e2⟩ <;> rw [e, e2, ez] <;> first | rfl | (exfalso; grind)
theorem cmp_trans {x y z : Rat} (h1 : cmpQ x y ≤ 0) (h2 : cmpQ y z ≤ 0) : ¬ cmpQ x z > 0 := by
  rcases cmp_cases x y with ⟨h, e⟩ | ⟨h, e⟩ | ⟨h, e⟩ <;> rcases cmp_cases y z with ⟨k, e2⟩ | ⟨k, e2⟩ | ⟨k, e2⟩ <;> rcases cmp_cases x z with ⟨l, e3⟩ | ⟨l, e3⟩ | ⟨l, e3⟩ <;> rw [e3] <;> first | decide | (exfalso; grind) | (exfalso; omega)
theorem flr_int (n : Int) : flr (n : Rat) = (n : Rat) := by
  rw [flr_floor, Rat.floor_intCast]
theorem flr_flr (x : Rat) : flr (flr x) = flr x := by
  rw [flr_floor x]; exact flr_int _
theorem num_over_den (x : Rat) : (x.num : Rat) / ((x.den : Nat) : Rat) = x := by
  have h := Rat.mkRat_self x
  rw [Rat.mkRat_eq_div] at h
  exact h
/-- the nearest multiple of a grid -/
theorem round_near {x z : Rat} (hz : 0 < z) : (flr (x / z + mkRat 1 2) * z - x) + (flr (x / z + mkRat 1 2) * z - x) ≤ z ∧ 0 < (flr (x / z + mkRat 1 2) * z - x) + (flr (x / z + mkRat 1 2) * z - x) + z := by
  have h1 := Rat.mul_le_mul_of_nonneg_right (flr_le (x / z + mkRat 1 2)) (Rat.le_of_lt hz)
  have h2 := Rat.mul_lt_mul_of_pos_right (lt_flr (x / z + mkRat 1 2)) hz
  have e := div_mul_pos (a := x) hz
  have e2 : mkRat 1 2 + mkRat 1 2 = 1 := by decide +kernel
  have e3 : mkRat 1 2 * z + mkRat 1 2 * z = z := by rw [← Rat.add_mul, e2, Rat.one_mul]
  rw [Rat.add_mul, e] at h1 h2
  rw [Rat.add_mul, Rat.one_mul] at h2
  constructor <;> grind
theorem mul_over {q z : Rat} (hz : 0 < z) : q * z / z = q := by
  rw [Rat.div_def, Rat.mul_assoc, Rat.mul_inv_cancel _ (by intro h; rw [h] at hz; exact absurd hz (by decide)), Rat.mul_one]
end Go.Proofs.YtlffafddmmhbmaaGreatDoor
namespace Go.Proofs.YtlffafddmmhbmaaGreatDoor
open Go.RowKit
open Vx
open Lib (hid)

theorem wp_letter {P : Program} {c : Code} {Q : Exit → Act → World → Prop} {a : Act} {w : World} (h : ∀ A0, a = A0 → c.wp P Q A0 w) : c.wp P Q a w := h _ rfl
theorem floor_val {w : World} {vx : Value} {x q : Rat} (hq : flr x = q) (hx : IsNum w vx x) (hs : siz x ≤ 536870912) :
    Calls Tryz.prog 22 #[vx] w (NumRet w q) := by rw [← hq]; exact numFloor_any hx (Nat.le_trans hs (by omega))
theorem above_is (x : Rat) : ratOf (decide (x.num < 0)) x.num.natAbs 1 = (x.num : Rat) := by
  unfold ratOf
  rw [Rat.mkRat_one]
  congr 1
  rcases Decidable.em (x.num < 0) with h | h
  · rw [if_pos (by simpa using h)]; omega
  · rw [if_neg (by simpa using h)]; omega
theorem below_is (x : Rat) : ratOf false x.den 1 = ((x.den : Nat) : Rat) := by
  unfold ratOf
  rw [Rat.mkRat_one]
  rfl
theorem fracs_val {w : World} {v : Value} {x p q : Rat} (hp : (x.num : Rat) = p) (hq : ((x.den : Nat) : Rat) = q) (hx : IsNum w v x) (hs : siz x ≤ 536870912) :
    Calls Tryz.prog 23 #[v] w (NumNumRet w p q) := by
  have h := numFrac_any hx hs
  rw [above_is, below_is, hp, hq] at h
  exact h
theorem str_val {w : World} {vx : Value} {x : Rat} {s : ByteArray} (hl : (⟨(textQ x).toArray⟩ : ByteArray) = s) (hx : IsNum w vx x) (hs : siz x ≤ 536870912) (hT : TabAt 0 Lib.deBruijn64tab w) :
    Calls Tryz.prog 25 #[vx] w (fun e w' => e = .returned (.string s) ∧ Below w.heap.size w w') := by rw [← hl]; exact numString_any hx hs hT
theorem parse_back {w : World} {x : Rat} {s : ByteArray} {mx : Int} (hl : (⟨(textQ x).toArray⟩ : ByteArray) = s) (h2 : (textQ x).length ≤ 2000) (hM : w.cell? ⟨1, 0, none⟩ = some (.int .i64 mx)) :
    Calls Tryz.prog 24 #[.string s] w (NumErrRet w x 0) := by
  have h := numParse_any (w := w) (s := s) hM
  have e : parseV s = (x, 0) := by
    rw [← hl]
    unfold parseV
    rw [if_neg (by show ¬ 2000 < (textQ x).toArray.size; rw [List.size_toArray]; omega)]
    show (match parseL (textQ x).toArray.toList with | none => ((0 : Rat), (4 : Int)) | some q => (q, 0)) = (x, 0)
    rw [List.toList_toArray, parse_text]
  rw [e] at h
  exact h
theorem round_val {w : World} {vx vz : Value} {x z r : Rat} (hr : flr (x / z + mkRat 1 2) * z = r) (hz : 0 < z.num) (hx : IsNum w vx x) (hzz : IsNum w vz z) (hs : siz x ≤ 536870912) (ht : siz z ≤ 536870912) :
    Calls Tryz.prog 26 #[vx, vz] w (NumErrRet w r 0) := round_ok hx hzz hz hr (Nat.le_trans hs (by omega)) (Nat.le_trans ht (by omega))
theorem round_no {w : World} {vx vz : Value} {x z o : Rat} (ho : 0 = o) (hz : z.num ≤ 0) (hx : IsNum w vx x) (hzz : IsNum w vz z) :
    Calls Tryz.prog 26 #[vx, vz] w (NumErrRet w o 3) := by rw [← ho]; exact round_bad hx hzz hz
theorem siz_int {n : Int} {x q : Rat} (h : (n : Rat) = q) (hn : len n.natAbs ≤ siz x) : siz q ≤ siz x := by
  rw [← h, ← Rat.mkRat_one]
  have := siz_mk n 1
  have h1 := len_one
  have h2 := siz_pos x
  omega
/-- what the law asks of three numbers -/
theorem or_cmp (x y z : Rat) : ∀ k k2 c1 c2 kz sz : Int, cmpQ x y = k → cmpQ y x = k2 → cmpQ y z = c1 → cmpQ x z = c2 → k * sz = kz → z.num.sign = sz →
    -k2 = k ∧ IntKind.i64.wrap k = k ∧ decide (k < -1) = false ∧ decide (k > 1) = false ∧ IntKind.i64.wrap kz = kz ∧ (x - y).num.sign = k ∧ cmpQ (x + z) (y + z) = k ∧ cmpQ (x * z) (y * z) = kz ∧ (k ≤ 0 → c1 ≤ 0 → decide (c2 > 0) = false) := by
  intro k k2 c1 c2 kz sz e1 e2 e3 e4 e5 e6
  have h1 := cmp_swap x y
  have h2 := cmp_bound x y
  have h3 := cmp_sub x y
  have h4 := cmp_add x y z
  have h5 := cmp_mul x y z
  rw [e1, e2] at h1
  rw [e1] at h2 h3 h4 h5
  rw [e6, e5] at h5
  have hs : -1 ≤ sz ∧ sz ≤ 1 := by rcases sign_cases z with ⟨_, h⟩ | ⟨_, h⟩ | ⟨_, h⟩ <;> omega
  have hkz : -1 ≤ kz ∧ kz ≤ 1 := by
    have i1 : k = -1 ∨ k = 0 ∨ k = 1 := by omega
    rcases i1 with rfl | rfl | rfl <;> omega
  have w1 : IntKind.i64.wrap kz = kz := by
    have i1 : kz = -1 ∨ kz = 0 ∨ kz = 1 := by omega
    rcases i1 with rfl | rfl | rfl <;> rfl
  have w2 : IntKind.i64.wrap k = k := by
    have i1 : k = -1 ∨ k = 0 ∨ k = 1 := by omega
    rcases i1 with rfl | rfl | rfl <;> rfl
  refine ⟨h1.symm, w2, decide_eq_false (by omega), decide_eq_false (by omega), w1, h3, h4, h5, ?_⟩
  intro a1 a2
  rw [← e4]
  exact decide_eq_false (cmp_trans (by rw [e1]; exact a1) (by rw [e3]; exact a2))
theorem or_floor (x : Rat) : ∀ fl fo : Rat, ∀ c3 c4 : Int, flr x = fl → fl + 1 = fo → cmpQ fl x = c3 → cmpQ x fo = c4 → decide (c3 > 0) = false ∧ decide (c4 ≥ 0) = false ∧ flr fl = fl := by
  intro fl fo c3 c4 e1 e2 e3 e4
  have h1 := flr_le x
  have h2 := lt_flr x
  rw [e1] at h1 h2
  rw [e2] at h2
  refine ⟨decide_eq_false ?_, decide_eq_false ?_, by rw [← e1]; exact flr_flr x⟩
  · rw [← e3]; rcases cmp_cases fl x with ⟨h, e⟩ | ⟨h, e⟩ | ⟨h, e⟩ <;> rw [e] <;> first | decide | (exfalso; grind)
  · rw [← e4]; rcases cmp_cases x fo with ⟨h, e⟩ | ⟨h, e⟩ | ⟨h, e⟩ <;> rw [e] <;> first | decide | (exfalso; grind)
theorem or_frac (x : Rat) : ∀ p q : Rat, ∀ sq : Int, (x.num : Rat) = p → ((x.den : Nat) : Rat) = q → q.num.sign = sq → p / q = x ∧ (if q = 0 then 10 else 0) = (0 : Int) ∧ decide (sq ≤ 0) = false ∧ flr p = p ∧ flr q = q := by
  intro p q sq e1 e2 e3
  have hq : 0 < q := by
    rw [← e2]
    have h := x.den_pos
    have : ((0 : Nat) : Rat) < ((x.den : Nat) : Rat) := Rat.natCast_lt_natCast.2 h
    exact this
  refine ⟨by rw [← e1, ← e2]; exact num_over_den x, if_neg (by intro h; rw [h] at hq; exact absurd hq (by decide)), ?_, by rw [← e1]; exact flr_int _, ?_⟩
  · refine decide_eq_false ?_
    rw [← e3]
    rcases sign_cases q with ⟨h, e⟩ | ⟨h, e⟩ | ⟨h, e⟩ <;> rw [e] <;> first | decide | (exfalso; grind)
  · rw [← e2]; exact flr_int (x.den : Int)
theorem or_round {x z : Rat} (hz : 0 < z.num) : ∀ r tm rx far fz : Rat, ∀ c5 c6 sz : Int, flr (x / z + mkRat 1 2) * z = r → r / z = tm → r - x = rx → rx + rx = far → cmpQ far z = c5 → far + z = fz → fz.num.sign = c6 → z.num.sign = sz →
    (if z = 0 then 10 else 0) = (0 : Int) ∧ flr tm = tm ∧ decide (c5 ≤ 0) = true ∧ decide (c6 > 0) = true ∧ decide (sz ≤ 0) = false := by
  intro r tm rx far fz c5 c6 sz e1 e2 e3 e4 e5 e6 e7 e8
  have hz' : 0 < z := by
    have i1 := Int.sign_eq_one_of_pos hz
    rcases sign_cases z with ⟨h, e⟩ | ⟨h, e⟩ | ⟨h, e⟩
    · omega
    · omega
    · exact h
  obtain ⟨h1, h2⟩ := round_near (x := x) hz'
  rw [e1, e3, e4] at h1 h2
  rw [e6] at h2
  have ht : tm = flr (x / z + mkRat 1 2) := by rw [← e2, ← e1]; exact mul_over hz'
  refine ⟨if_neg (by intro h; rw [h] at hz'; exact absurd hz' (by decide)), by rw [ht]; exact flr_flr _, decide_eq_true ?_, decide_eq_true ?_, decide_eq_false ?_⟩
  · rw [← e5]; rcases cmp_cases far z with ⟨h, e⟩ | ⟨h, e⟩ | ⟨h, e⟩ <;> rw [e] <;> first | decide | (exfalso; grind)
  · rw [← e7]; rcases sign_cases fz with ⟨h, e⟩ | ⟨h, e⟩ | ⟨h, e⟩ <;> rw [e] <;> first | decide | (exfalso; grind)
  · rw [← e8, Int.sign_eq_one_of_pos hz]; decide
end Go.Proofs.YtlffafddmmhbmaaGreatDoor
