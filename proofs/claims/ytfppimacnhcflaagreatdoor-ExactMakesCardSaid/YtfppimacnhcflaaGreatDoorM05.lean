/-
  Contracts of the functions that the law calls, for every input (Mk).
-/
import Derived.Test.YtfppimacnhcflaaGreatDoorD00
import Derived.Test.YtfppimacnhcflaaGreatDoorD01
import Derived.Test.YtfppimacnhcflaaGreatDoorD02
import Derived.Test.YtfppimacnhcflaaGreatDoorD03
import Derived.Test.YtfppimacnhcflaaGreatDoorD04
import Derived.Test.YtfppimacnhcflaaGreatDoorD05
import Derived.Test.YtfppimacnhcflaaGreatDoorD06
import Derived.Test.YtfppimacnhcflaaGreatDoorD07
import Derived.Test.YtfppimacnhcflaaGreatDoorD08
import Derived.Test.YtfppimacnhcflaaGreatDoorD09
import Derived.Test.YtfppimacnhcflaaGreatDoorD10
import Derived.Test.YtfppimacnhcflaaGreatDoorD11
import Derived.Test.YtfppimacnhcflaaGreatDoorD12
import Derived.Test.YtfppimacnhcflaaGreatDoorD13
import Derived.Test.YtfppimacnhcflaaGreatDoorD14
import Derived.Test.YtfppimacnhcflaaGreatDoorD15
import Derived.Test.YtfppimacnhcflaaGreatDoorD16
import Derived.Test.YtfppimacnhcflaaGreatDoorD17
import Derived.Test.YtfppimacnhcflaaGreatDoorD18
import Derived.Test.YtfppimacnhcflaaGreatDoorD19
import Derived.Test.YtfppimacnhcflaaGreatDoorD20
import Derived.Test.YtfppimacnhcflaaGreatDoorD21
import Derived.Test.YtfppimacnhcflaaGreatDoorD22
import Derived.Test.YtfppimacnhcflaaGreatDoorD23
import Derived.Test.YtfppimacnhcflaaGreatDoorD24
import Derived.Test.YtfppimacnhcflaaGreatDoorD25
import Derived.Test.YtfppimacnhcflaaGreatDoorD26
import Derived.Test.YtfppimacnhcflaaGreatDoorD27
import Derived.Test.YtfppimacnhcflaaGreatDoorD28
import Derived.Test.YtfppimacnhcflaaGreatDoorD29
import Derived.Test.YtfppimacnhcflaaGreatDoorD30
import Derived.Test.YtfppimacnhcflaaGreatDoorD31
import Derived.Test.YtfppimacnhcflaaGreatDoorD32
import Derived.Test.YtfppimacnhcflaaGreatDoorD33
import Derived.Test.YtfppimacnhcflaaGreatDoorD34
import Derived.Test.YtfppimacnhcflaaGreatDoorD35
import Derived.Test.YtfppimacnhcflaaGreatDoorD38
import Derived.Test.YtfppimacnhcflaaGreatDoorD39
import Derived.Test.YtfppimacnhcflaaGreatDoorM01
import Derived.Test.YtfppimacnhcflaaGreatDoorM02
import Derived.Test.YtfppimacnhcflaaGreatDoorM03
import Derived.Test.YtfppimacnhcflaaGreatDoorM04
set_option linter.all false
set_option maxRecDepth 100000
set_option maxHeartbeats 40000000
namespace Go.Proofs.YtfppimacnhcflaaGreatDoor.Rf
open Lib (hid)
open Go.RowKit
open Rx
open Vx (siz siz_num siz_den)
open List renaming getElem?_toArray → lg, getElem?_cons_zero → lz, getElem?_cons_succ → ls, setIfInBounds_toArray → lt, set_cons_zero → ly, set_cons_succ → lu
theorem int_siz {n : Int} {q : Rat} (h : (n : Rat) = q) (h1 : -9223372036854775808 ≤ n) (h2 : n ≤ 9223372036854775807) : siz q ≤ 1 := by
  subst h
  refine Vx.siz_of (Vx.len_le ?_) (Vx.len_le ?_)
  · rw [Nat.pow_one]; show n.natAbs < 18446744073709551616; omega
  · rw [Nat.pow_one]; show 1 < 18446744073709551616; decide
theorem i64_self {n : Int} {q : Rat} (h : (n : Rat) = q) (h1 : -9223372036854775808 ≤ n) (h2 : n ≤ 9223372036854775807) : i64Of q = (n, true) := by
  subst h
  unfold i64Of
  exact if_pos ⟨rfl, h1, h2⟩
theorem ratio_quot {a b : Int} (hb : b ≠ 0) : (if b = 0 then 0 else mkRat (if b < 0 then -a else a) b.natAbs) = (a : Rat) / (b : Rat) := by
  rw [if_neg hb, ← Rat.divInt_eq_div]
  rcases Int.lt_or_le b 0 with h | h
  · rw [if_pos h, ← Rat.divInt_ofNat, show ((b.natAbs : Nat) : Int) = -b by omega, Rat.neg_divInt_neg]
  · rw [if_neg (by omega), ← Rat.divInt_ofNat, show ((b.natAbs : Nat) : Int) = b by omega]
theorem nratio_val {w : World} {a b : Int} {q : Rat} {c : Int} (hq : (if b = 0 then 0 else mkRat (if b < 0 then -a else a) b.natAbs) = q) (hc : (if b = 0 then 10 else 0) = c) (ha : -9223372036854775808 ≤ a ∧ a ≤ 9223372036854775807) (hb : -9223372036854775808 ≤ b ∧ b ≤ 9223372036854775807) :
    Calls Tryz.prog 15 #[.int .i64 a, .int .i64 b] w (NumErrRet w q c) := by rw [← hq, ← hc]; exact numRatio_any ha.1 ha.2 hb.1 hb.2
theorem nratio_zero {w : World} {a : Int} {q : Rat} (hq : 0 = q) : Calls Tryz.prog 15 #[.int .i64 a, .int .i64 0] w (NumErrRet w q 10) := by rw [← hq]; exact ratio_zero
theorem nwhole_val {w : World} {n : Int} {q : Rat} (h : (n : Rat) = q) (h1 : -9223372036854775808 ≤ n ∧ n ≤ 9223372036854775807) : Calls Tryz.prog 11 #[.int .i64 n] w (NumRet w q) := by rw [← h]; exact whole_any n h1.1 h1.2
theorem top_whole {w : World} {bool_ : Value} {A A' : Option Addr} {n c n' c' : Nat} {z p : Rat} (hp : (z.num : Rat) = p) (h : IsRat w (.agg #[bool_, .slice A n c, .slice A' n' c']) z) {O : Value} (ho : IsBig w O 1) : IsRat w (.agg #[bool_, .slice A n c, O]) p := by
  subst hp
  obtain ⟨v1, v2, e, h1, h2⟩ := h
  simp only [Value.agg.injEq, Array.mk.injEq, List.cons.injEq, and_true] at e
  obtain ⟨rfl, rfl, -⟩ := e
  exact ⟨_, _, rfl, h1, ho⟩
theorem bottom_whole {w : World} {bool_ : Value} {A A' : Option Addr} {n c n' c' : Nat} {z p : Rat} (hp : ((z.den : Nat) : Rat) = p) (h : IsRat w (.agg #[bool_, .slice A n c, .slice A' n' c']) z) {O : Value} (ho : IsBig w O 1) : IsRat w (.agg #[.bool false, .slice A' n' c', O]) p := by
  subst hp
  obtain ⟨v1, v2, e, h1, h2⟩ := h
  simp only [Value.agg.injEq, Array.mk.injEq, List.cons.injEq, and_true] at e
  obtain ⟨-, -, rfl⟩ := e
  exact ⟨_, _, rfl, h2, ho⟩
theorem makes_any {w : World} {a b : Int} {mx : Int} (ha : -9223372036854775808 ≤ a ∧ a ≤ 9223372036854775807) (hb : -9223372036854775808 ≤ b ∧ b ≤ 9223372036854775807)  (hM : w.cell? ⟨3, 0, none⟩ = some (.int .i64 mx)) (hT : TabAt 0 Lib.deBruijn64tab w) :
    Calls Tryz.prog 3 #[.int .i64 a, .int .i64 b] w (BoolRet w true) := by
  obtain ⟨x, e_x⟩ : ∃ v_ : Rat, (a : Rat) = v_ := ⟨_, rfl⟩
  have z_x : siz x ≤ 4100 := Nat.le_trans (int_siz e_x ha.1 ha.2) (by decide)
  have i_x := hid (i64_self e_x ha.1 ha.2)
  replace hM := hid hM
  replace hT := hid hT
  rcases Decidable.em (b = 0) with hb0 | hb0
  · subst hb0
    obtain ⟨z, e_z⟩ : ∃ v_ : Rat, 0 = v_ := ⟨_, rfl⟩
    have s_z := hid (show z.num.sign = 0 by rw [← e_z]; rfl)
    replace ha := hid ha
    replace hb := hid hb
    replace e_x := hid e_x
    replace z_x := hid z_x
    replace e_z := hid e_z
    go_enter Tryz.func3, Tryz.ntmps3
    have HX := hid (nwhole_val (w := w) e_x.out ha.out)
    go_wp2_with fail
    refine (HX.out).mono ?_
    rintro e w1 ⟨v1, rfl, hv1, b1⟩
    obtain ⟨C1, j1, C2, j2, rfl, -, -⟩ := id hv1.opened
    replace hv1 := hid hv1
    replace b1 := hid b1
    clear HX
    go_upto_region 2 with fail
    obtain ⟨w2, hw2⟩ : ∃ u, u = w1.alloc (.cells #[.bool (decide (x.num < 0)), .slice C1 (Vx.len x.num.natAbs) j1, .slice C2 (Vx.len (below x.den)) j2] 25) := ⟨_, rfl⟩
    have b2 : Hid (Below w1.heap.size w1 w2) := by rw [hw2]; exact (Below.refl _ _).alloc (Nat.le_refl _) _
    have L2 : Hid (w2.heap[w1.heap.size]? = some (.cells #[.bool (decide (x.num < 0)), .slice C1 (Vx.len x.num.natAbs) j1, .slice C2 (Vx.len (below x.den)) j2] 25 (0, 0))) := by rw [hw2]; exact heap_alloc_new w1 _
    rw [← hw2]
    clear hw2
    have hg : w2.heap[w1.heap.size]? = some (.cells #[.bool (decide (x.num < 0)), .slice C1 (Vx.len x.num.natAbs) j1, .slice C2 (Vx.len (below x.den)) j2] 25 (0, 0)) := ((Below.refl _ w2).block _ (Array.getElem?_eq_some_iff.1 L2.out).1).trans L2.out
    obtain ⟨z_x_0, z_x_1, z_x_2⟩ := cells3 hg
    clear hg
    have HX := hid (numI64_any i_x.out (hv1.out.keep b2.out))
    go_wp2_with fail
    refine (HX.out).mono ?_
    rintro e w3 ⟨rfl, b3⟩
    replace b3 := hid b3
    clear HX
    clear z_x_0 z_x_1 z_x_2
    go_upto_region 3 with fail
    go_wp2_with fail
    obtain ⟨NN3, hNN⟩ : ∃ n : Nat, w3.heap.size = n := ⟨_, rfl⟩
    have HSZ3 : Hid (w3.heap.size = NN3) := hNN
    have hg : w3.heap[w1.heap.size]? = some (.cells #[.bool (decide (x.num < 0)), .slice C1 (Vx.len x.num.natAbs) j1, .slice C2 (Vx.len (below x.den)) j2] 25 (0, 0)) := (b3.out.block _ (Array.getElem?_eq_some_iff.1 L2.out).1).trans L2.out
    obtain ⟨z_x_0, z_x_1, z_x_2⟩ := cells3 hg
    clear hg
    have hlt3_x : w1.heap.size < NN3 := Nat.lt_of_lt_of_eq (World.block_lt_of_cell? _ _ z_x_0) hNN
    have H0 := Held0.start w3 NN3
    have H0' := H0
    unfold Held0 at H0'
    refine wp_region_held_drew (S := (fun w' => (∀ b o, b < NN3 → w'.cell? ⟨b, o, none⟩ = w3.cell? ⟨b, o, none⟩) ∧ Below (NN3) w3 w' ∧ Stay w3 w')) (by kernel_rfl) ?_ (fun hHeld => ?_)
    · (try dsimp only)
      exact H0'
    obtain ⟨w4, hw4⟩ : ∃ u, u = w3.drew := ⟨_, rfl⟩
    have b4 : Hid (Below w3.heap.size w3 w4) := by rw [hw4]; exact ⟨rfl, rfl, rfl, Nat.le_refl _, fun _ _ => rfl⟩
    rw [← hw4] at hHeld H0 ⊢
    clear hw4 H0' hNN
    as_aux_lemma =>
     refine tk (i := 0) (h := ?_)
     try simp only [Act.put, lt, ly, lu]
     refine tk (i := 1) (h := ?_)
     try simp only [Act.put, lt, ly, lu]
     refine wpAnyH_ready (rs := [2]) (by kernel_rfl) (by simp) (AllReadyH.cons (o := ?oq3) ?eq3 ?kq3 AllReadyH.nil)
     case eq3 => simp only [lg, lz, ls]; rfl
     intro K hK; go_simp; go_at_call 14
     refine (int_any e_x.out ha.out.1 ha.out.2).mono ?_
     rintro e w5 ⟨v5, rfl, hv5, b5⟩
     obtain ⟨C3, j3, C4, j4, rfl, -, -⟩ := id hv5.opened
     replace hv5 := hid hv5
     replace b5 := hid b5
     have hk5 := hcall H0 HSZ3 b5.out; have hk5' := hk5; unfold Held0 at hk5'; clear hHeld H0
     refine hK.out _ _ ?_ (fun hHeld => ?_)
     · (try dsimp only); with_reducible exact hk5'
     clear hK K hk5'; try simp only [Act.put, lt, ly, lu]
     refine wpAnyH_ready (rs := [3]) (by kernel_rfl) (by simp) (AllReadyH.cons (o := ?oq4) ?eq4 ?kq4 AllReadyH.nil)
     case eq4 => simp only [lg, lz, ls]; rfl
     intro K hK; go_simp; go_at_call 13
     refine (same_any (hv1.out.keep (Below.step (Below.step (Below.step b2.out b3.out) b4.out) b5.out)) hv5.out z_x.out (tab_keep hT.out (Below.step (Below.step (Below.step (Below.step b1.out b2.out) b3.out) b4.out) b5.out))).mono ?_
     rintro e w6 ⟨rfl, b6⟩
     replace b6 := hid b6
     have hk6 := hcall hk5 HSZ3 b6.out; have hk6' := hk6; unfold Held0 at hk6'; clear hHeld hk5
     refine hK.out _ _ ?_ (fun hHeld => ?_)
     · (try dsimp only); with_reducible exact hk6'
     clear hK K hk6'; try simp only [Act.put, lt, ly, lu]
     refine tk (i := 4) (h := ?_)
     try simp only [Act.put, lt, ly, lu]
     refine tk (i := 5) (h := ?_)
     try simp only [Act.put, lt, ly, lu]
     refine tk (i := 6) (h := ?_)
     try simp only [Act.put, lt, ly, lu]
     refine tk (i := 7) (h := ?_)
     try simp only [Act.put, lt, ly, lu]
     refine tk (i := 8) (h := ?_)
     try simp only [Act.put, lt, ly, lu]
     refine tk (i := 9) (h := ?_)
     try simp only [Act.put, lt, ly, lu]
     refine tk (i := 10) (h := ?_)
     try simp only [Act.put, lt, ly, lu]
     refine tk (i := 11) (h := ?_)
     try simp only [Act.put, lt, ly, lu]
     as_aux_lemma =>
      refine tk (i := 12) (h := ?_)
      try simp only [Act.put, lt, ly, lu]
      refine tk (i := 13) (h := ?_)
      try simp only [Act.put, lt, ly, lu]
      refine wpAnyH_done (by kernel_rfl) ?_ _
      clear hHeld
      clear z_x_0 z_x_1 z_x_2 hlt3_x
      clear hk6 HSZ3
      have HX := hid (nratio_zero (w := w6) (a := a) e_z.out)
      go_upto_region 5 with fail
      go_wp2_with fail
      refine (HX.out).mono ?_
      rintro e w7 ⟨v7, rfl, hv7, b7⟩
      obtain ⟨C5, j5, C6, j6, rfl, -, -⟩ := id hv7.opened
      replace hv7 := hid hv7
      replace b7 := hid b7
      clear HX
      go_upto_region 6 with fail
      obtain ⟨w8, hw8⟩ : ∃ u, u = w7.alloc (.cells #[.bool (decide (z.num < 0)), .slice C5 (Vx.len z.num.natAbs) j5, .slice C6 (Vx.len (below z.den)) j6] 25) := ⟨_, rfl⟩
      have b8 : Hid (Below w7.heap.size w7 w8) := by rw [hw8]; exact (Below.refl _ _).alloc (Nat.le_refl _) _
      have L8 : Hid (w8.heap[w7.heap.size]? = some (.cells #[.bool (decide (z.num < 0)), .slice C5 (Vx.len z.num.natAbs) j5, .slice C6 (Vx.len (below z.den)) j6] 25 (0, 0))) := by rw [hw8]; exact heap_alloc_new w7 _
      rw [← hw8]
      clear hw8
      have hg : w8.heap[w7.heap.size]? = some (.cells #[.bool (decide (z.num < 0)), .slice C5 (Vx.len z.num.natAbs) j5, .slice C6 (Vx.len (below z.den)) j6] 25 (0, 0)) := ((Below.refl _ w8).block _ (Array.getElem?_eq_some_iff.1 L8.out).1).trans L8.out
      obtain ⟨z_z_0, z_z_1, z_z_2⟩ := cells3 hg
      clear hg
      have HX := hid (sign_val s_z.out (hv7.out.keep b8.out))
      go_wp2_with fail
      refine (HX.out).mono ?_
      rintro e w9 ⟨rfl, b9⟩
      replace b9 := hid b9
      clear HX
      clear z_z_0 z_z_1 z_z_2
      have HX := hid (known_any (cell_keep hM.out (Below.step (Below.step (Below.step (Below.step (Below.step (Below.step (Below.step (Below.step b1.out b2.out) b3.out) b4.out) b5.out) b6.out) b7.out) b8.out) b9.out)) (tab_keep hT.out (Below.step (Below.step (Below.step (Below.step (Below.step (Below.step (Below.step (Below.step b1.out b2.out) b3.out) b4.out) b5.out) b6.out) b7.out) b8.out) b9.out)))
      go_wp2_with fail
      refine (HX.out).mono ?_
      rintro e w10 ⟨rfl, b10⟩
      replace b10 := hid b10
      clear HX
      have HE := hid (Below.step (Below.step (Below.step (Below.step (Below.step (Below.step (Below.step (Below.step (Below.step b1.out b2.out) b3.out) b4.out) b5.out) b6.out) b7.out) b8.out) b9.out) b10.out)
      go_wp2_with fail
      go_ret
      exact ⟨rfl, HE.out⟩
  · obtain ⟨z, e_z⟩ : ∃ v_ : Rat, (a : Rat) / (b : Rat) = v_ := ⟨_, rfl⟩
    have q_z := hid ((ratio_quot (a := a) hb0).trans e_z)
    have c_z := hid (show (if b = 0 then (10 : Int) else 0) = 0 from if_neg hb0)
    have hzs : siz z ≤ 2 := by
      rw [← e_z]
      have i1 := Vx.siz_div (a : Rat) (b : Rat)
      have i2 := int_siz (n := a) rfl ha.1 ha.2
      have i3 := int_siz (n := b) rfl hb.1 hb.2
      omega
    have z_z : siz z ≤ 4100 := by omega
    have t_z : siz z ≤ 268435456 := by omega
    have s_z : siz z ≤ 536870912 := by omega
    obtain ⟨p, e_p⟩ : ∃ v_ : Rat, (z.num : Rat) = v_ := ⟨_, rfl⟩
    obtain ⟨q, e_q⟩ : ∃ v_ : Rat, ((z.den : Nat) : Rat) = v_ := ⟨_, rfl⟩
    have z_p : siz p ≤ 4100 := by rw [← e_p]; refine Nat.le_trans ?_ z_z; exact Vx.siz_of (Nat.le_trans (Nat.le_refl _) (siz_num z)) (Nat.le_trans (by show Vx.len 1 ≤ 1; decide +kernel) (Vx.siz_pos z))
    have z_q : siz q ≤ 4100 := by rw [← e_q]; refine Nat.le_trans ?_ z_z; exact Vx.siz_of (Nat.le_trans (Nat.le_refl _) (siz_den z)) (Nat.le_trans (by show Vx.len 1 ≤ 1; decide +kernel) (Vx.siz_pos z))
    obtain ⟨⟨m, fi⟩, e_i⟩ : ∃ y, i64Of z = y := ⟨_, rfl⟩
    have d0 : (b == 0) = false := beq_eq_false_iff_ne.2 hb0
    clear hzs
    replace ha := hid ha
    replace hb := hid hb
    replace hb0 := hid hb0
    replace e_x := hid e_x
    replace z_x := hid z_x
    replace e_z := hid e_z
    replace z_z := hid z_z
    replace t_z := hid t_z
    replace s_z := hid s_z
    replace e_p := hid e_p
    replace e_q := hid e_q
    replace z_p := hid z_p
    replace z_q := hid z_q
    replace e_i := hid e_i
    go_enter Tryz.func3, Tryz.ntmps3
    have HX := hid (nwhole_val (w := w) e_x.out ha.out)
    go_wp2_with fail
    refine (HX.out).mono ?_
    rintro e w1 ⟨v1, rfl, hv1, b1⟩
    obtain ⟨C7, j7, C8, j8, rfl, -, -⟩ := id hv1.opened
    replace hv1 := hid hv1
    replace b1 := hid b1
    clear HX
    go_upto_region 2 with fail
    obtain ⟨w2, hw2⟩ : ∃ u, u = w1.alloc (.cells #[.bool (decide (x.num < 0)), .slice C7 (Vx.len x.num.natAbs) j7, .slice C8 (Vx.len (below x.den)) j8] 25) := ⟨_, rfl⟩
    have b2 : Hid (Below w1.heap.size w1 w2) := by rw [hw2]; exact (Below.refl _ _).alloc (Nat.le_refl _) _
    have L2 : Hid (w2.heap[w1.heap.size]? = some (.cells #[.bool (decide (x.num < 0)), .slice C7 (Vx.len x.num.natAbs) j7, .slice C8 (Vx.len (below x.den)) j8] 25 (0, 0))) := by rw [hw2]; exact heap_alloc_new w1 _
    rw [← hw2]
    clear hw2
    have hg : w2.heap[w1.heap.size]? = some (.cells #[.bool (decide (x.num < 0)), .slice C7 (Vx.len x.num.natAbs) j7, .slice C8 (Vx.len (below x.den)) j8] 25 (0, 0)) := ((Below.refl _ w2).block _ (Array.getElem?_eq_some_iff.1 L2.out).1).trans L2.out
    obtain ⟨z_x_0, z_x_1, z_x_2⟩ := cells3 hg
    clear hg
    have HX := hid (numI64_any i_x.out (hv1.out.keep b2.out))
    go_wp2_with fail
    refine (HX.out).mono ?_
    rintro e w3 ⟨rfl, b3⟩
    replace b3 := hid b3
    clear HX
    clear z_x_0 z_x_1 z_x_2
    go_upto_region 3 with fail
    go_wp2_with fail
    obtain ⟨NN3, hNN⟩ : ∃ n : Nat, w3.heap.size = n := ⟨_, rfl⟩
    have HSZ3 : Hid (w3.heap.size = NN3) := hNN
    have hg : w3.heap[w1.heap.size]? = some (.cells #[.bool (decide (x.num < 0)), .slice C7 (Vx.len x.num.natAbs) j7, .slice C8 (Vx.len (below x.den)) j8] 25 (0, 0)) := (b3.out.block _ (Array.getElem?_eq_some_iff.1 L2.out).1).trans L2.out
    obtain ⟨z_x_0, z_x_1, z_x_2⟩ := cells3 hg
    clear hg
    have hlt3_x : w1.heap.size < NN3 := Nat.lt_of_lt_of_eq (World.block_lt_of_cell? _ _ z_x_0) hNN
    have H0 := Held0.start w3 NN3
    have H0' := H0
    unfold Held0 at H0'
    refine wp_region_held_drew (S := (fun w' => (∀ b o, b < NN3 → w'.cell? ⟨b, o, none⟩ = w3.cell? ⟨b, o, none⟩) ∧ Below (NN3) w3 w' ∧ Stay w3 w')) (by kernel_rfl) ?_ (fun hHeld => ?_)
    · (try dsimp only)
      exact H0'
    obtain ⟨w4, hw4⟩ : ∃ u, u = w3.drew := ⟨_, rfl⟩
    have b4 : Hid (Below w3.heap.size w3 w4) := by rw [hw4]; exact ⟨rfl, rfl, rfl, Nat.le_refl _, fun _ _ => rfl⟩
    rw [← hw4] at hHeld H0 ⊢
    clear hw4 H0' hNN
    as_aux_lemma =>
     refine tk (i := 0) (h := ?_)
     try simp only [Act.put, lt, ly, lu]
     refine tk (i := 1) (h := ?_)
     try simp only [Act.put, lt, ly, lu]
     refine wpAnyH_ready (rs := [2]) (by kernel_rfl) (by simp) (AllReadyH.cons (o := ?oq17) ?eq17 ?kq17 AllReadyH.nil)
     case eq17 => simp only [lg, lz, ls]; rfl
     intro K hK; go_simp; go_at_call 14
     refine (int_any e_x.out ha.out.1 ha.out.2).mono ?_
     rintro e w5 ⟨v5, rfl, hv5, b5⟩
     obtain ⟨C9, j9, C10, j10, rfl, -, -⟩ := id hv5.opened
     replace hv5 := hid hv5
     replace b5 := hid b5
     have hk5 := hcall H0 HSZ3 b5.out; have hk5' := hk5; unfold Held0 at hk5'; clear hHeld H0
     refine hK.out _ _ ?_ (fun hHeld => ?_)
     · (try dsimp only); with_reducible exact hk5'
     clear hK K hk5'; try simp only [Act.put, lt, ly, lu]
     refine wpAnyH_ready (rs := [3]) (by kernel_rfl) (by simp) (AllReadyH.cons (o := ?oq18) ?eq18 ?kq18 AllReadyH.nil)
     case eq18 => simp only [lg, lz, ls]; rfl
     intro K hK; go_simp; go_at_call 13
     refine (same_any (hv1.out.keep (Below.step (Below.step (Below.step b2.out b3.out) b4.out) b5.out)) hv5.out z_x.out (tab_keep hT.out (Below.step (Below.step (Below.step (Below.step b1.out b2.out) b3.out) b4.out) b5.out))).mono ?_
     rintro e w6 ⟨rfl, b6⟩
     replace b6 := hid b6
     have hk6 := hcall hk5 HSZ3 b6.out; have hk6' := hk6; unfold Held0 at hk6'; clear hHeld hk5
     refine hK.out _ _ ?_ (fun hHeld => ?_)
     · (try dsimp only); with_reducible exact hk6'
     clear hK K hk6'; try simp only [Act.put, lt, ly, lu]
     refine tk (i := 4) (h := ?_)
     try simp only [Act.put, lt, ly, lu]
     refine tk (i := 5) (h := ?_)
     try simp only [Act.put, lt, ly, lu]
     refine tk (i := 6) (h := ?_)
     try simp only [Act.put, lt, ly, lu]
     refine tk (i := 7) (h := ?_)
     try simp only [Act.put, lt, ly, lu]
     refine tk (i := 8) (h := ?_)
     try simp only [Act.put, lt, ly, lu]
     refine tk (i := 9) (h := ?_)
     try simp only [Act.put, lt, ly, lu]
     refine tk (i := 10) (h := ?_)
     try simp only [Act.put, lt, ly, lu]
     refine tk (i := 11) (h := ?_)
     try simp only [Act.put, lt, ly, lu]
     as_aux_lemma =>
      refine tk (i := 12) (h := ?_)
      try simp only [Act.put, lt, ly, lu]
      refine tk (i := 13) (h := ?_)
      try simp only [Act.put, lt, ly, lu]
      refine wpAnyH_done (by kernel_rfl) ?_ _
      clear hHeld
      clear z_x_0 z_x_1 z_x_2 hlt3_x
      clear hk6 HSZ3
      have HX := hid (nratio_val (w := w6) q_z.out c_z.out ha.out hb.out)
      go_upto_region 5 with fail
      go_wp2_with fail
      refine (HX.out).mono ?_
      rintro e w7 ⟨v7, rfl, hv7, b7⟩
      obtain ⟨C11, j11, C12, j12, rfl, -, -⟩ := id hv7.opened
      replace hv7 := hid hv7
      replace b7 := hid b7
      clear HX
      go_upto_region 6 with fail
      obtain ⟨w8, hw8⟩ : ∃ u, u = w7.alloc (.cells #[.bool (decide (z.num < 0)), .slice C11 (Vx.len z.num.natAbs) j11, .slice C12 (Vx.len (below z.den)) j12] 25) := ⟨_, rfl⟩
      have b8 : Hid (Below w7.heap.size w7 w8) := by rw [hw8]; exact (Below.refl _ _).alloc (Nat.le_refl _) _
      have L8 : Hid (w8.heap[w7.heap.size]? = some (.cells #[.bool (decide (z.num < 0)), .slice C11 (Vx.len z.num.natAbs) j11, .slice C12 (Vx.len (below z.den)) j12] 25 (0, 0))) := by rw [hw8]; exact heap_alloc_new w7 _
      rw [← hw8]
      clear hw8
      have HX := hid (ratio_any (w := w8) e_z.out hb0.out ha.out.1 ha.out.2 hb.out.1 hb.out.2)
      go_wp2_with fail
      refine (HX.out).mono ?_
      rintro e w9 ⟨v9, rfl, hv9, b9⟩
      obtain ⟨C13, j13, C14, j14, rfl, -, -⟩ := id hv9.opened
      replace hv9 := hid hv9
      replace b9 := hid b9
      clear HX
      go_upto_region 9 with fail
      obtain ⟨w10, hw10⟩ : ∃ u, u = w9.alloc (.cells #[.bool (decide (z.num < 0)), .slice C13 (len z.num.natAbs) j13, .slice C14 (len z.den) j14] 33) := ⟨_, rfl⟩
      have b10 : Hid (Below w9.heap.size w9 w10) := by rw [hw10]; exact (Below.refl _ _).alloc (Nat.le_refl _) _
      have L10 : Hid (w10.heap[w9.heap.size]? = some (.cells #[.bool (decide (z.num < 0)), .slice C13 (len z.num.natAbs) j13, .slice C14 (len z.den) j14] 33 (0, 0))) := by rw [hw10]; exact heap_alloc_new w9 _
      rw [← hw10]
      clear hw10
      have hg : w10.heap[w7.heap.size]? = some (.cells #[.bool (decide (z.num < 0)), .slice C11 (Vx.len z.num.natAbs) j11, .slice C12 (Vx.len (below z.den)) j12] 25 (0, 0)) := ((Below.step b9.out b10.out).block _ (Array.getElem?_eq_some_iff.1 L8.out).1).trans L8.out
      obtain ⟨z_z_0, z_z_1, z_z_2⟩ := cells3 hg
      clear hg
      have HX := hid (numI64_any e_i.out (hv7.out.keep (Below.step (Below.step b8.out b9.out) b10.out)))
      go_wp2_with fail
      refine (HX.out).mono ?_
      rintro e w11 ⟨rfl, b11⟩
      replace b11 := hid b11
      clear HX
      clear z_z_0 z_z_1 z_z_2
      have hg : w11.heap[w9.heap.size]? = some (.cells #[.bool (decide (z.num < 0)), .slice C13 (len z.num.natAbs) j13, .slice C14 (len z.den) j14] 33 (0, 0)) := (b11.out.block _ (Array.getElem?_eq_some_iff.1 L10.out).1).trans L10.out
      obtain ⟨z_w_0, z_w_1, z_w_2⟩ := cells3 hg
      clear hg
      have HX := hid (refI64_any e_i.out (hv9.out.keep (Below.step b10.out b11.out)) t_z.out)
      go_wp2_with fail
      refine (HX.out).mono ?_
      rintro e w12 ⟨rfl, b12⟩
      replace b12 := hid b12
      clear HX
      clear z_w_0 z_w_1 z_w_2
      have hg : w12.heap[w7.heap.size]? = some (.cells #[.bool (decide (z.num < 0)), .slice C11 (Vx.len z.num.natAbs) j11, .slice C12 (Vx.len (below z.den)) j12] 25 (0, 0)) := ((Below.step (Below.step (Below.step b9.out b10.out) b11.out) b12.out).block _ (Array.getElem?_eq_some_iff.1 L8.out).1).trans L8.out
      obtain ⟨z_z_0, z_z_1, z_z_2⟩ := cells3 hg
      clear hg
      have HX := hid (fracs_val e_p.out e_q.out (hv7.out.keep (Below.step (Below.step (Below.step (Below.step b8.out b9.out) b10.out) b11.out) b12.out)) s_z.out)
      go_wp2_with fail
      refine (HX.out).mono ?_
      rintro e w13 ⟨va13, vb13, rfl, ha13, hb13, b13⟩
      obtain ⟨C15, j15, C16, j16, rfl, -, -⟩ := id ha13.opened
      replace ha13 := hid ha13
      obtain ⟨C17, j17, C18, j18, rfl, -, -⟩ := id hb13.opened
      replace hb13 := hid hb13
      replace b13 := hid b13
      clear HX
      clear z_z_0 z_z_1 z_z_2
      go_upto_region 12 with fail
      obtain ⟨w14, hw14⟩ : ∃ u, u = (w13.alloc (.cells #[.bool (decide (p.num < 0)), .slice C15 (Vx.len p.num.natAbs) j15, .slice C16 (Vx.len (below p.den)) j16] 25)).alloc (.cells #[.bool (decide (q.num < 0)), .slice C17 (Vx.len q.num.natAbs) j17, .slice C18 (Vx.len (below q.den)) j18] 25) := ⟨_, rfl⟩
      obtain ⟨b14, L14, M14⟩ := news2 w13 (.cells #[.bool (decide (p.num < 0)), .slice C15 (Vx.len p.num.natAbs) j15, .slice C16 (Vx.len (below p.den)) j16] 25) (.cells #[.bool (decide (q.num < 0)), .slice C17 (Vx.len q.num.natAbs) j17, .slice C18 (Vx.len (below q.den)) j18] 25)
      rw [← hw14] at b14 L14 M14 ⊢
      clear hw14
      replace b14 := hid b14
      replace L14 := hid L14
      replace M14 := hid M14
      have hRz14 := hid (hv7.out.keep (Below.step (Below.step (Below.step (Below.step (Below.step (Below.step b8.out b9.out) b10.out) b11.out) b12.out) b13.out) b14.out))
      have hRw14 := hid (hv9.out.keep (Below.step (Below.step (Below.step (Below.step b10.out b11.out) b12.out) b13.out) b14.out))
      have hRp14 := hid (ha13.out.keep b14.out)
      have hRq14 := hid (hb13.out.keep b14.out)
      have LRz14 : Hid (w14.heap[w7.heap.size]? = some (.cells #[.bool (decide (z.num < 0)), .slice C11 (Vx.len z.num.natAbs) j11, .slice C12 (Vx.len (below z.den)) j12] 25 (0, 0))) := ((Below.step (Below.step (Below.step (Below.step (Below.step b9.out b10.out) b11.out) b12.out) b13.out) b14.out).block _ (Array.getElem?_eq_some_iff.1 L8.out).1).trans L8.out
      have LRw14 : Hid (w14.heap[w9.heap.size]? = some (.cells #[.bool (decide (z.num < 0)), .slice C13 (len z.num.natAbs) j13, .slice C14 (len z.den) j14] 33 (0, 0))) := ((Below.step (Below.step (Below.step b11.out b12.out) b13.out) b14.out).block _ (Array.getElem?_eq_some_iff.1 L10.out).1).trans L10.out
      have HMB14 := hid (cell_keep hM.out (Below.step (Below.step (Below.step (Below.step (Below.step (Below.step (Below.step (Below.step (Below.step (Below.step (Below.step (Below.step (Below.step b1.out b2.out) b3.out) b4.out) b5.out) b6.out) b7.out) b8.out) b9.out) b10.out) b11.out) b12.out) b13.out) b14.out))
      have HTB14 := hid (tab_keep hT.out (Below.step (Below.step (Below.step (Below.step (Below.step (Below.step (Below.step (Below.step (Below.step (Below.step (Below.step (Below.step (Below.step b1.out b2.out) b3.out) b4.out) b5.out) b6.out) b7.out) b8.out) b9.out) b10.out) b11.out) b12.out) b13.out) b14.out))
      have HBB14 := hid (Below.step (Below.step (Below.step (Below.step (Below.step (Below.step (Below.step (Below.step (Below.step (Below.step (Below.step (Below.step (Below.step b1.out b2.out) b3.out) b4.out) b5.out) b6.out) b7.out) b8.out) b9.out) b10.out) b11.out) b12.out) b13.out) b14.out)
      clear hv7 hv9 ha13 hb13 L8 L10 hM hT b1 b2 b3 b4 b5 b6 b7 b8 b9 b10 b11 b12 b13 b14
      have hg : w14.heap[w7.heap.size]? = some (.cells #[.bool (decide (z.num < 0)), .slice C11 (Vx.len z.num.natAbs) j11, .slice C12 (Vx.len (below z.den)) j12] 25 (0, 0)) := ((Below.refl _ w14).block _ (Array.getElem?_eq_some_iff.1 LRz14.out).1).trans LRz14.out
      obtain ⟨z_z_0, z_z_1, z_z_2⟩ := cells3 hg
      clear hg
      have hg : w14.heap[w9.heap.size]? = some (.cells #[.bool (decide (z.num < 0)), .slice C13 (len z.num.natAbs) j13, .slice C14 (len z.den) j14] 33 (0, 0)) := ((Below.refl _ w14).block _ (Array.getElem?_eq_some_iff.1 LRw14.out).1).trans LRw14.out
      obtain ⟨z_w_0, z_w_1, z_w_2⟩ := cells3 hg
      clear hg
      have HX := hid (same_any hRz14.out hRw14.out z_z.out (tab_keep HTB14.out (Below.refl _ w14)))
      go_wp2_with fail
      refine (HX.out).mono ?_
      rintro e w15 ⟨rfl, b15⟩
      replace b15 := hid b15
      clear HX
      clear z_z_0 z_z_1 z_z_2 z_w_0 z_w_1 z_w_2
      have hg : w15.heap[w13.heap.size]? = some (.cells #[.bool (decide (p.num < 0)), .slice C15 (Vx.len p.num.natAbs) j15, .slice C16 (Vx.len (below p.den)) j16] 25 (0, 0)) := (b15.out.block _ (Array.getElem?_eq_some_iff.1 L14.out).1).trans L14.out
      obtain ⟨z_p_0, z_p_1, z_p_2⟩ := cells3 hg
      clear hg
      have hg : w15.heap[w9.heap.size]? = some (.cells #[.bool (decide (z.num < 0)), .slice C13 (len z.num.natAbs) j13, .slice C14 (len z.den) j14] 33 (0, 0)) := (b15.out.block _ (Array.getElem?_eq_some_iff.1 LRw14.out).1).trans LRw14.out
      obtain ⟨z_w_0, z_w_1, z_w_2⟩ := cells3 hg
      clear hg
      go_wp2_with fail
      obtain ⟨w16, hw16⟩ : ∃ u, u = w15.alloc (.cells #[.int .i64 1] 3) := ⟨_, rfl⟩
      have b16 : Hid (Below w15.heap.size w15 w16) := hid (by rw [hw16]; exact alloc_below _ _)
      have ho16 : IsBig w16 (.slice (some ⟨w15.heap.size, 0, none⟩) 1 1) 1 := by rw [hw16]; exact big_one w15
      rw [← hw16]
      clear hw16
      have HX := hid (same_any (hRp14.out.keep (Below.step b15.out b16.out)) (top_whole e_p.out (hRw14.out.keep (Below.step b15.out b16.out)) ho16) z_p.out (tab_keep HTB14.out (Below.step b15.out b16.out)))
      refine (HX.out).mono ?_
      rintro e w17 ⟨rfl, b17⟩
      replace b17 := hid b17
      clear HX
      clear z_p_0 z_p_1 z_p_2 z_w_0 z_w_1 z_w_2
      clear ho16
      have hg : w17.heap[w13.heap.size + 1]? = some (.cells #[.bool (decide (q.num < 0)), .slice C17 (Vx.len q.num.natAbs) j17, .slice C18 (Vx.len (below q.den)) j18] 25 (0, 0)) := ((Below.step (Below.step b15.out b16.out) b17.out).block _ (Array.getElem?_eq_some_iff.1 M14.out).1).trans M14.out
      obtain ⟨z_q_0, z_q_1, z_q_2⟩ := cells3 hg
      clear hg
      have hg : w17.heap[w9.heap.size]? = some (.cells #[.bool (decide (z.num < 0)), .slice C13 (len z.num.natAbs) j13, .slice C14 (len z.den) j14] 33 (0, 0)) := ((Below.step (Below.step b15.out b16.out) b17.out).block _ (Array.getElem?_eq_some_iff.1 LRw14.out).1).trans LRw14.out
      obtain ⟨z_w_0, z_w_1, z_w_2⟩ := cells3 hg
      clear hg
      go_wp2_with fail
      obtain ⟨w18, hw18⟩ : ∃ u, u = w17.alloc (.cells #[.int .i64 1] 3) := ⟨_, rfl⟩
      have b18 : Hid (Below w17.heap.size w17 w18) := hid (by rw [hw18]; exact alloc_below _ _)
      have ho18 : IsBig w18 (.slice (some ⟨w17.heap.size, 0, none⟩) 1 1) 1 := by rw [hw18]; exact big_one w17
      rw [← hw18]
      clear hw18
      have HX := hid (same_any (hRq14.out.keep (Below.step (Below.step (Below.step b15.out b16.out) b17.out) b18.out)) (bottom_whole e_q.out (hRw14.out.keep (Below.step (Below.step (Below.step b15.out b16.out) b17.out) b18.out)) ho18) z_q.out (tab_keep HTB14.out (Below.step (Below.step (Below.step b15.out b16.out) b17.out) b18.out)))
      refine (HX.out).mono ?_
      rintro e w19 ⟨rfl, b19⟩
      replace b19 := hid b19
      clear HX
      clear z_q_0 z_q_1 z_q_2 z_w_0 z_w_1 z_w_2
      clear ho18
      have HX := hid (known_any (cell_keep HMB14.out (Below.step (Below.step (Below.step (Below.step b15.out b16.out) b17.out) b18.out) b19.out)) (tab_keep HTB14.out (Below.step (Below.step (Below.step (Below.step b15.out b16.out) b17.out) b18.out) b19.out)))
      go_wp2_with fail
      refine (HX.out).mono ?_
      rintro e w20 ⟨rfl, b20⟩
      replace b20 := hid b20
      clear HX
      have HE := hid (Below.step HBB14.out (Below.step (Below.step (Below.step (Below.step (Below.step b15.out b16.out) b17.out) b18.out) b19.out) b20.out))
      go_wp2_with fail
      go_ret
      exact ⟨rfl, HE.out⟩
end Go.Proofs.YtfppimacnhcflaaGreatDoor.Rf
