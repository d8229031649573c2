/-
  Contracts of the functions that the law calls, for every input (Rn Nat Base Trim Make Small AddInto).
-/
import Derived.Test.YtfppimacnhcflaaGreatDoorB06
import Derived.Deep.Cut
import Derived.Test.YtfppimacnhcflaaGreatDoorProg
import Derived.WalkKit
import Derived.WalkLawsBesides
import Derived.WalkSpells
import Derived.Outline
import Derived.Handy
import Derived.Deep.Draws
import Derived.Laws.Externs
import Derived.Lib.Hide
import Derived.Shelf.Spec.BitsCarry
import Derived.Laws.CopyOwn
import Derived.Deep.OwnRows
set_option linter.all false
namespace Go.Proofs.YtfppimacnhcflaaGreatDoor.Rf
open Go.RowKit
open Rx
open Lib (hid)

/-- a number from its sign, its top and its bottom -/
def rat (minus : Bool) (t d : Nat) : Rat := mkRat (if minus then -(t : Int) else t) d
theorem rat_num {minus : Bool} {t d : Nat} (hd : 0 < d) : (rat minus t d).num = (if minus then -((t / Nat.gcd t d : Nat) : Int) else ((t / Nat.gcd t d : Nat) : Int)) ∧ (rat minus t d).den = d / Nat.gcd t d := by
  unfold rat
  have hc : (if minus then -(t : Int) else (t : Int)).natAbs = t := by cases minus <;> simp
  have hdv : ((Nat.gcd t d : Nat) : Int) ∣ ((t : Nat) : Int) := Int.natCast_dvd_natCast.2 (Nat.gcd_dvd_left _ _)
  constructor
  · rw [Rat.num_mkRat, if_neg (by omega), hc, Nat.gcd_comm]
    cases minus
    · show ((t : Nat) : Int) / ((Nat.gcd t d : Nat) : Int) = ((t / Nat.gcd t d : Nat) : Int)
      rw [Int.natCast_ediv]
    · show -((t : Nat) : Int) / ((Nat.gcd t d : Nat) : Int) = -((t / Nat.gcd t d : Nat) : Int)
      rw [Int.neg_ediv_of_dvd hdv, Int.natCast_ediv]
  · rw [Rat.den_mkRat, if_neg (by omega), hc, Nat.gcd_comm]
theorem rat_parts {minus : Bool} {t d : Nat} {q : Rat} (hd : 0 < d) (h : rat minus t d = q) : q.num.natAbs = t / Nat.gcd t d ∧ q.den = d / Nat.gcd t d ∧ decide (q.num < 0) = (minus && decide (0 < t)) := by
  subst h
  obtain ⟨e1, e2⟩ := rat_num (minus := minus) (t := t) hd
  have hg : 0 < Nat.gcd t d := Nat.gcd_pos_of_pos_right _ hd
  have hp : 0 < t / Nat.gcd t d ↔ 0 < t := by
    constructor
    · intro h; rcases Nat.eq_zero_or_pos t with h1 | h1
      · rw [h1, Nat.zero_div] at h; exact absurd h (by omega)
      · exact h1
    · intro h; exact Nat.div_pos (Nat.le_of_dvd h (Nat.gcd_dvd_left _ _)) hg
  generalize t / Nat.gcd t d = m at e1 hp ⊢
  refine ⟨?_, e2, ?_⟩
  · rw [e1]; cases minus <;> simp
  · rw [e1]
    cases minus
    · simp
    · simp; exact hp
theorem big_one (w : World) : IsBig (w.alloc (.cells #[.int .i64 1] 3)) (.slice (some ⟨w.heap.size, 0, none⟩) 1 1) 1 := by
  have h1 : len 1 = 1 := len_one
  refine ⟨some ⟨w.heap.size, 0, none⟩, 1, by rw [h1], by rw [h1]; exact Nat.le_refl _, by decide, by rw [h1]; decide, fun _ => ⟨w.heap.size, 0, rfl, by rw [World.size_alloc]; omega, fun j hj => ?_⟩⟩
  rw [h1] at hj
  obtain rfl : j = 0 := by omega
  exact cell_of_row _ _ 0 _ _ _ (heap_alloc_new w _)
theorem lens_pos {x y : Nat} (h : 0 < x ↔ 0 < y) : (0 < len x) ↔ 0 < y := len_pos.trans h

set_option maxRecDepth 100000 in
set_option maxHeartbeats 4000000 in
theorem make_any {w : World} {vt vd : Value} {minus : Bool} {t d : Nat} {q : Rat} (hq : rat minus t d = q) (ht : IsBig w vt t) (hd : IsBig w vd d) (h0 : 0 < d) (st : len t ≤ 68719476736) (sd : len d ≤ 68719476736) :
    Calls Tryz.prog 107 #[.bool minus, vt, vd] w (RatRet w q) := by
  obtain ⟨p1, p2, p3⟩ := rat_parts h0 hq
  obtain ⟨G, hG⟩ : ∃ G, Nat.gcd t d = G := ⟨_, rfl⟩
  have hgpos : 0 < G := by rw [← hG]; exact Nat.gcd_pos_of_pos_right _ h0
  obtain ⟨t', ht'⟩ : ∃ v, t / G = v := ⟨_, rfl⟩
  obtain ⟨d', hd'⟩ : ∃ v, d / G = v := ⟨_, rfl⟩
  rw [hG, ht'] at p1
  rw [hG, hd'] at p2
  have htp : 0 < t' ↔ 0 < t := by
    rw [← ht']
    constructor
    · intro h; rcases Nat.eq_zero_or_pos t with h1 | h1
      · rw [h1, Nat.zero_div] at h; exact absurd h (by omega)
      · exact h1
    · intro h; exact Nat.div_pos (by rw [← hG]; exact Nat.le_of_dvd h (Nat.gcd_dvd_left _ _)) hgpos
  have hsg : len G ≤ 68719476736 := Nat.le_trans (len_mono (by rw [← hG]; exact Nat.gcd_le_right _ h0)) sd
  obtain ⟨At, ct, rfl, -, -, -, -⟩ := id ht
  obtain ⟨Ad, cd, rfl, -, -, -, -⟩ := id hd
  obtain ⟨wB, hwB⟩ : ∃ u, u = w.alloc (.cells #[.bool false, .slice none 0 0, .slice none 0 0] 33) := ⟨_, rfl⟩
  have hRB := RB.start w
  have hbB := alloc_below w (.cells #[.bool false, .slice none 0 0, .slice none 0 0] 33)
  rw [← hwB] at hRB hbB
  have HC := hid (common_any (ht.keep hbB) (hd.keep hbB) st sd)
  rw [hG] at HC
  have hq9 := hid hq
  have htp9 := hid htp
  replace p1 := hid p1
  replace p2 := hid p2
  replace p3 := hid p3
  replace hRB := hid hRB
  replace ht := hid (ht.keep hbB)
  replace hd := hid (hd.keep hbB)
  replace hbB := hid hbB
  obtain ⟨n, hn⟩ : ∃ n, len t = n := ⟨_, rfl⟩
  obtain ⟨m, hm⟩ : ∃ n, len d = n := ⟨_, rfl⟩
  rw [hn] at ht st HC ⊢
  rw [hm] at hd sd HC ⊢
  clear htp hq
  replace hG := hid hG
  replace ht' := hid ht'
  replace hd' := hid hd'
  replace hn := hid hn
  replace hm := hid hm
  obtain ⟨R, hR⟩ : ∃ R, w.heap.size = R := ⟨_, rfl⟩
  rw [hR] at hRB
  go_enter Tryz.func107, Tryz.ntmps107
  go_upto_region 1 with fail
  rw [← hwB]
  replace hR := hid hR
  clear hwB
  go_wp2_with fail
  refine (HC.out).mono ?_
  rintro e w1 ⟨v1, rfl, hv1, b1⟩
  replace hv1 := hid hv1
  replace b1 := hid b1
  obtain ⟨Ag, cg, rfl, -, -, -, -⟩ := id hv1.out
  obtain ⟨w2, hw2⟩ : ∃ u, u = w1.alloc (.cells #[.int .i64 1] 3) := ⟨_, rfl⟩
  have hone := big_one w1
  have b2 := alloc_below w1 (.cells #[.int .i64 1] 3)
  rw [← hw2] at hone b2
  obtain ⟨cc, hcc⟩ : ∃ c, cmpN G 1 = c := ⟨_, rfl⟩
  have HK := hid (compare_any (hv1.out.keep b2) hone (by omega) (by rw [len_one]; omega))
  rw [hcc] at HK
  replace b2 := hid b2
  clear HC hone
  go_wp2_with fail
  rw [← hw2]
  clear hw2
  refine (HK.out).mono ?_
  rintro e w' ⟨rfl, rfl⟩
  clear HK
  have hRB2 := hid ((hRB.out.call b1.out).call b2.out)
  have ht2 := hid ((ht.out.keep b1.out).keep b2.out)
  have hd2 := hid ((hd.out.keep b1.out).keep b2.out)
  have hv2 := hid (hv1.out.keep b2.out)
  clear ht hd hv1 b1 b2 hRB hbB
  obtain ⟨bz, hbz⟩ : ∃ b, decide (0 < t) = b := ⟨_, rfl⟩
  obtain ⟨sb, hsb⟩ : ∃ b, decide (q.num < 0) = b := ⟨_, rfl⟩
  have hmz : sb = (minus && bz) := by rw [← hsb, p3.out, hbz]
  have hlz : ∀ k, len t' = k → decide (((k : Nat) : Int) > 0) = bz ∧ decide (0 < k) = bz := fun k hk => by
    have : 0 < k ↔ 0 < t := by rw [← hk]; exact len_pos.trans htp9.out
    rw [← hbz]
    constructor
    · rw [decide_eq_decide, ← this]; omega
    · rw [decide_eq_decide, ← this]
  replace hmz := hid hmz
  replace hsb := hid hsb
  replace hbz := hid hbz
  replace hlz := hid hlz
  rcases Nat.lt_trichotomy G 1 with hg1 | hg1 | hg1
  · exact absurd hg1 (by omega)
  · have c1 : (cc != 0) = false := by rw [← hcc, hg1, cmpN_eq]; rfl
    have e1 : t' = t := by rw [← ht'.out, hg1, Nat.div_one]
    have e2 : d' = d := by rw [← hd'.out, hg1, Nat.div_one]
    subst e1 e2
    obtain ⟨z1, z2⟩ := hlz.out n hn.out
    replace hcc := hid hcc
    replace hg1 := hid hg1
    obtain ⟨hbF, ⟨r0, r1, r2⟩, hkF⟩ := (hRB2.out).store (b := sb) (A := At) (n := n) (c := ct) (A' := Ad) (n' := m) (c' := cd) _ rfl
    obtain ⟨u0, u1, u2, ⟨k0, k1, k2⟩, f0, f1, f2⟩ := (hRB2.out).cells
    have F := hid (show IsRat _ (.agg #[.bool sb, .slice At n ct, .slice Ad m cd]) q from ⟨_, _, by rw [hsb.out], by rw [p1.out]; exact hkF _ _ ht2.out, by rw [p2.out]; exact hkF _ _ hd2.out⟩)
    have FB := hid hbF
    clear hbF hkF
    cases minus
    · have hb9 : sb = false := hmz.out
      subst hb9
      go_wp2_with fail
      refine bodyPost_ret (v := .agg #[.bool false, .slice At n ct, .slice Ad m cd]) ?_ rfl ⟨_, rfl, F.out, by rw [hR.out]; exact FB.out⟩
      simp [results, Tryz.results107, go_sem, r0, r1, r2]
    · have hb9 : sb = bz := hmz.out
      subst hb9
      go_wp2_with fail
      refine bodyPost_ret (v := .agg #[.bool sb, .slice At n ct, .slice Ad m cd]) ?_ rfl ⟨_, rfl, F.out, by rw [hR.out]; exact FB.out⟩
      simp [results, Tryz.results107, go_sem, r0, r1, r2]
  · have c1 : (cc != 0) = true := by rw [← hcc, cmpN_gt hg1]; rfl
    have HQ := hid (quotient_any ht2.out hv2.out hgpos (by rw [hn.out]; exact st) hsg)
    rw [ht'.out] at HQ
    replace hcc := hid hcc
    go_wp2_with fail
    refine (HQ.out).mono ?_
    rintro e w3 ⟨va, vb, rfl, hva, -, b3⟩
    replace hva := hid hva
    replace b3 := hid b3
    clear HQ
    have HQ := hid (quotient_any (hd2.out.keep b3.out) (hv2.out.keep b3.out) hgpos (by rw [hm.out]; exact sd) hsg)
    rw [hd'.out] at HQ
    go_wp2_with fail
    refine (HQ.out).mono ?_
    rintro e w4 ⟨vc, ve, rfl, hvc, -, b4⟩
    replace hvc := hid hvc
    replace b4 := hid b4
    clear HQ
    have hRB4 := hid ((hRB2.out.call b3.out).call b4.out)
    have hva4 := hid (hva.out.keep b4.out)
    clear hva
    obtain ⟨Aa, ca, rfl, -, -, -, -⟩ := id hva4.out
    obtain ⟨Ac, cb, rfl, -, -, -, -⟩ := id hvc.out
    obtain ⟨n', hn'⟩ : ∃ n, len t' = n := ⟨_, rfl⟩
    obtain ⟨m', hm'⟩ : ∃ n, len d' = n := ⟨_, rfl⟩
    obtain ⟨z1, z2⟩ := hlz.out n' hn'
    rw [hn'] at hva4 ⊢
    rw [hm'] at hvc ⊢
    replace hn' := hid hn'
    replace hm' := hid hm'
    clear b3 b4 hRB2 ht2 hd2 hv2 hg1
    obtain ⟨hbF, ⟨r0, r1, r2⟩, hkF⟩ := (hRB4.out).store (b := sb) (A := Aa) (n := n') (c := ca) (A' := Ac) (n' := m') (c' := cb) _ rfl
    obtain ⟨u0, u1, u2, ⟨k0, k1, k2⟩, f0, f1, f2⟩ := (hRB4.out).cells
    have F := hid (show IsRat _ (.agg #[.bool sb, .slice Aa n' ca, .slice Ac m' cb]) q from ⟨_, _, by rw [hsb.out], by rw [p1.out]; exact hkF _ _ hva4.out, by rw [p2.out]; exact hkF _ _ hvc.out⟩)
    have FB := hid hbF
    clear hbF hkF
    cases minus
    · have hb9 : sb = false := hmz.out
      subst hb9
      go_wp2_with fail
      refine bodyPost_ret (v := .agg #[.bool false, .slice Aa n' ca, .slice Ac m' cb]) ?_ rfl ⟨_, rfl, F.out, by rw [hR.out]; exact FB.out⟩
      simp [results, Tryz.results107, go_sem, r0, r1, r2]
    · have hb9 : sb = bz := hmz.out
      subst hb9
      go_wp2_with fail
      refine bodyPost_ret (v := .agg #[.bool sb, .slice Aa n' ca, .slice Ac m' cb]) ?_ rfl ⟨_, rfl, F.out, by rw [hR.out]; exact FB.out⟩
      simp [results, Tryz.results107, go_sem, r0, r1, r2]
end Go.Proofs.YtfppimacnhcflaaGreatDoor.Rf
/- Plain arithmetic of words: no program. -/
namespace Vx
/-- the base of words -/
def W : Nat := 18446744073709551616
theorem W_eq : W = 18446744073709551616 := rfl
theorem W_pos : 0 < W := by unfold W; omega
theorem W_pow : W = 2 ^ 64 := by decide +kernel
theorem Wn_pos (n : Nat) : 0 < W ^ n := Nat.pow_pos W_pos

/-- word j of x -/
def word (x j : Nat) : Nat := x / W ^ j % W
theorem word_lt (x j : Nat) : word x j < W := Nat.mod_lt _ W_pos

/-- the number of words -/
def len (x : Nat) : Nat := if x = 0 then 0 else x.log2 / 64 + 1
theorem len_zero : len 0 = 0 := by simp [len]
theorem lt_len (x : Nat) : x < W ^ len x := by
  unfold len
  split
  · subst x; simp
  · rename_i h
    rw [W_pow, ← Nat.pow_mul]
    exact Nat.lt_of_lt_of_le Nat.lt_log2_self (Nat.pow_le_pow_right (by omega) (by omega))
theorem len_le {x n : Nat} (h : x < W ^ n) : len x ≤ n := by
  unfold len
  split
  · omega
  · rename_i hx
    rw [W_pow, ← Nat.pow_mul] at h
    have := (Nat.log2_lt hx).2 h
    omega
theorem len_eq_zero {x : Nat} : len x = 0 ↔ x = 0 := by unfold len; split <;> simp_all
theorem len_pos {x : Nat} : 0 < len x ↔ 0 < x := by have := @len_eq_zero x; omega
theorem len_lb {x n : Nat} (h : n < len x) : W ^ n ≤ x := by
  rcases Nat.lt_or_ge x (W ^ n) with h1 | h1
  · have := len_le h1; omega
  · exact h1
theorem len_mono {x y : Nat} (h : x ≤ y) : len x ≤ len y := len_le (Nat.lt_of_le_of_lt h (lt_len y))
theorem len_lt_of {x y : Nat} (h : len x < len y) : x < y := by
  rcases Nat.lt_or_ge x y with h1 | h1
  · exact h1
  · have := len_mono h1; omega
theorem len_one : len 1 = 1 := by decide +kernel
theorem len_of_lt {x : Nat} (h0 : 0 < x) (h : x < W) : len x = 1 := by
  have := len_le (x := x) (n := 1) (by simpa using h)
  have := (@len_pos x).2 h0
  omega
theorem len_mul_le (x y : Nat) : len (x * y) ≤ len x + len y := by
  rcases Nat.eq_zero_or_pos y with h | h
  · subst h; simp [len_zero]
  · apply len_le
    rw [Nat.pow_add]
    exact Nat.mul_lt_mul_of_lt_of_le (lt_len x) (Nat.le_of_lt (lt_len y)) (Wn_pos _)
theorem len_add_le (x y : Nat) : len (x + y) ≤ max (len x) (len y) + 1 := by
  apply len_le
  have h1 := Nat.lt_of_lt_of_le (lt_len x) (Nat.pow_le_pow_right W_pos (Nat.le_max_left (len x) (len y)))
  have h2 := Nat.lt_of_lt_of_le (lt_len y) (Nat.pow_le_pow_right W_pos (Nat.le_max_right (len x) (len y)))
  rw [Nat.pow_succ]
  have h3 : W ^ max (len x) (len y) * 2 ≤ W ^ max (len x) (len y) * W := Nat.mul_le_mul_left _ (by unfold W; omega)
  omega

/-- x modulo W ^ j, step by step -/
theorem mod_step (x j : Nat) : x % W ^ (j + 1) = x % W ^ j + W ^ j * word x j := by
  unfold word
  rw [Nat.pow_succ, Nat.mod_mul]
theorem mod_len {x n : Nat} (h : len x ≤ n) : x % W ^ n = x :=
  Nat.mod_eq_of_lt (Nat.lt_of_lt_of_le (lt_len x) (Nat.pow_le_pow_right W_pos h))
theorem word_ge {x j : Nat} (h : len x ≤ j) : word x j = 0 := by
  unfold word
  rw [Nat.div_eq_of_lt (Nat.lt_of_lt_of_le (lt_len x) (Nat.pow_le_pow_right W_pos h))]
  rfl
/-- the number without its lowest words -/
theorem div_step (x j : Nat) : x / W ^ j = word x j + W * (x / W ^ (j + 1)) := by
  unfold word
  rw [Nat.pow_succ, ← Nat.div_div_eq_div_mul]
  exact (Nat.mod_add_div _ _).symm
theorem word_top {x : Nat} (h : 0 < x) : word x (len x - 1) = x / W ^ (len x - 1) ∧ 0 < word x (len x - 1) := by
  have hl := (@len_pos x).2 h
  have h1 : x / W ^ (len x - 1) < W := by
    rw [Nat.div_lt_iff_lt_mul (Wn_pos _), ← Nat.pow_succ']
    have := lt_len x
    rwa [show (len x - 1).succ = len x by omega]
  have h2 : 0 < x / W ^ (len x - 1) := Nat.div_pos (len_lb (by omega)) (Wn_pos _)
  unfold word
  rw [Nat.mod_eq_of_lt h1]
  exact ⟨rfl, h2⟩

/-- what n cells from place o on are worth -/
def seg (cs : List Nat) (o : Nat) : Nat → Nat
  | 0 => 0
  | n + 1 => seg cs o n + W ^ n * cs.getD (o + n) 0

theorem seg_lt {cs : List Nat} (h : ∀ d ∈ cs, d < W) (o n : Nat) : seg cs o n < W ^ n := by
  induction n with
  | zero => simp [seg]
  | succ n ih =>
    unfold seg
    have hd : cs.getD (o + n) 0 < W := by
      rw [List.getD_eq_getElem?_getD]
      cases hg : cs[o + n]? with
      | none => simpa using W_pos
      | some d => simpa using h d (List.mem_of_getElem? hg)
    have : W ^ n * (cs.getD (o + n) 0 + 1) ≤ W ^ n * W := Nat.mul_le_mul_left _ hd
    rw [Nat.mul_add, Nat.mul_one] at this
    rw [Nat.pow_succ]
    omega
theorem seg_congr {cs ds : List Nat} {o p n : Nat} (h : ∀ j, j < n → cs.getD (o + j) 0 = ds.getD (p + j) 0) : seg cs o n = seg ds p n := by
  induction n with
  | zero => rfl
  | succ n ih => unfold seg; rw [ih (fun j hj => h j (by omega)), h n (by omega)]
theorem getD_set (cs : List Nat) (i j v : Nat) : (cs.set i v).getD j 0 = if i = j ∧ i < cs.length then v else cs.getD j 0 := by
  simp only [List.getD_eq_getElem?_getD, List.getElem?_set]
  split
  · rename_i h; subst h
    split
    · simp [*]
    · rename_i h2; simp [h2]
  · rename_i h; simp [h]
theorem seg_set_out {cs : List Nat} {o n i v : Nat} (h : i < o ∨ o + n ≤ i) : seg (cs.set i v) o n = seg cs o n :=
  seg_congr fun j hj => by rw [getD_set, if_neg (by omega)]
theorem seg_set {cs : List Nat} {o n i v : Nat} (hi : i < n) (hl : o + n ≤ cs.length) :
    seg (cs.set (o + i) v) o n + W ^ i * cs.getD (o + i) 0 = seg cs o n + W ^ i * v := by
  induction n with
  | zero => omega
  | succ n ih =>
    unfold seg
    rcases Nat.lt_or_ge i n with h | h
    · have := ih h (by omega)
      rw [getD_set, if_neg (by omega)]
      omega
    · obtain rfl : i = n := by omega
      rw [seg_set_out (by omega), getD_set, if_pos (by omega)]
      omega
theorem seg_split (cs : List Nat) (o m n : Nat) : seg cs o (m + n) = seg cs o m + W ^ m * seg cs (o + m) n := by
  induction n with
  | zero => simp [seg]
  | succ n ih =>
    show seg cs o (m + n) + W ^ (m + n) * cs.getD (o + (m + n)) 0 = seg cs o m + W ^ m * (seg cs (o + m) n + W ^ n * cs.getD (o + m + n) 0)
    rw [ih, Nat.pow_add, Nat.mul_add, Nat.add_assoc, Nat.mul_assoc, Nat.add_assoc o m n]
theorem seg_word {cs : List Nat} (h : ∀ d ∈ cs, d < W) {o n j : Nat} (hj : j < n) : word (seg cs o n) j = cs.getD (o + j) 0 := by
  obtain ⟨k, rfl⟩ : ∃ k, n = j + (1 + k) := ⟨n - j - 1, by omega⟩
  rw [seg_split]
  unfold word
  rw [Nat.add_mul_div_left _ _ (Wn_pos j), Nat.div_eq_of_lt (seg_lt h o j), Nat.zero_add, seg_split]
  have h1 : seg cs (o + j) 1 = cs.getD (o + j) 0 := by simp [seg]
  have h2 := seg_lt h (o + j) 1
  rw [h1] at h2 ⊢
  rw [Nat.pow_one, Nat.add_mul_mod_self_left]
  exact Nat.mod_eq_of_lt (by simpa using h2)
theorem seg_words {cs : List Nat} {x o n : Nat} (h : ∀ j, j < n → cs.getD (o + j) 0 = word x j) : seg cs o n = x % W ^ n := by
  induction n with
  | zero => simp [seg, Nat.mod_one]
  | succ n ih => unfold seg; rw [ih (fun j hj => h j (by omega)), h n (by omega), mod_step]
theorem seg_zero {cs : List Nat} {o n : Nat} (h : ∀ j, j < n → cs.getD (o + j) 0 = 0) : seg cs o n = 0 := by
  induction n with
  | zero => rfl
  | succ n ih => unfold seg; rw [ih (fun j hj => h j (by omega)), h n (by omega)]; simp
/-- a row without zeros at its end has as many words as its number -/
theorem len_seg {cs : List Nat} (h : ∀ d ∈ cs, d < W) {o n : Nat} (hn : 0 < n) (ht : cs.getD (o + (n - 1)) 0 ≠ 0) : len (seg cs o n) = n := by
  have h1 := len_le (seg_lt h o n)
  rcases Nat.lt_or_ge (len (seg cs o n)) n with h2 | h2
  · have h3 := word_ge (x := seg cs o n) (j := n - 1) (by omega)
    rw [seg_word h (by omega)] at h3
    exact absurd h3 ht
  · omega
/-- the quotient of three words by two, as 'guess' finds it -/
def quo3 (a2 a1 a0 b1 b0 : Nat) : Nat := if b1 ≤ a2 then W - 1 else (a2 * W * W + a1 * W + a0) / (b1 * W + b0)

theorem quo3_stop {a2 a1 a0 b1 b0 t rest : Nat} (hb : 0 < b1) (h : t * b1 + rest = a2 * W + a1)
    (hge : (a2 * W * W + a1 * W + a0) / (b1 * W + b0) ≤ t) (hle : t * b0 ≤ rest * W + a0) : t = (a2 * W * W + a1 * W + a0) / (b1 * W + b0) := by
  have hpos : 0 < b1 * W + b0 := by have := Nat.mul_pos hb W_pos; omega
  have h1 : t ≤ (a2 * W * W + a1 * W + a0) / (b1 * W + b0) := by
    rw [Nat.le_div_iff_mul_le hpos]
    have h2 := congrArg (· * W) h
    simp only [Nat.add_mul] at h2
    rw [Nat.mul_add, ← Nat.mul_assoc]
    omega
  omega
theorem quo3_go {a2 a1 a0 b1 b0 t rest : Nat} (hb : 0 < b1) (h : t * b1 + rest = a2 * W + a1)
    (hge : (a2 * W * W + a1 * W + a0) / (b1 * W + b0) ≤ t) (hgt : rest * W + a0 < t * b0) :
    0 < t ∧ (a2 * W * W + a1 * W + a0) / (b1 * W + b0) ≤ t - 1 ∧ (t - 1) * b1 + (rest + b1) = a2 * W + a1 := by
  have hpos : 0 < b1 * W + b0 := by have := Nat.mul_pos hb W_pos; omega
  have ht : 0 < t := by
    rcases Nat.eq_zero_or_pos t with h0 | h0
    · subst h0; simp at hgt
    · exact h0
  refine ⟨ht, ?_, ?_⟩
  · have h1 : (a2 * W * W + a1 * W + a0) / (b1 * W + b0) < t := by
      rw [Nat.div_lt_iff_lt_mul hpos]
      have h2 := congrArg (· * W) h
      simp only [Nat.add_mul] at h2
      rw [Nat.mul_add, ← Nat.mul_assoc]
      omega
    omega
  · obtain ⟨s, rfl⟩ : ∃ s, t = s + 1 := ⟨t - 1, by omega⟩
    simp only [Nat.add_mul, Nat.one_mul, Nat.add_sub_cancel] at h ⊢
    omega
/-- the double word t * b0 against rest * W + a0, word by word -/
theorem two_le {x y r a : Nat} (hx : y < W) (ha : a < W) : (x < r ∨ x = r ∧ y ≤ a) ↔ x * W + y ≤ r * W + a := by
  constructor
  · rintro (h | ⟨rfl, h⟩)
    · have : (x + 1) * W ≤ r * W := Nat.mul_le_mul_right _ h
      rw [Nat.add_mul] at this; omega
    · omega
  · intro h
    rcases Nat.lt_trichotomy x r with h1 | h1 | h1
    · exact .inl h1
    · subst h1; exact .inr ⟨rfl, by omega⟩
    · have : (r + 1) * W ≤ x * W := Nat.mul_le_mul_right _ h1
      rw [Nat.add_mul] at this; omega

/-- Knuth: the guess is the quotient, or one more. K stands for W ^ (n - 2). -/
theorem quo3_knuth {a2 a1 a0 b1 b0 la lb K a b : Nat} (hb1 : W ≤ 2 * b1) (h1 : b1 < W) (h0 : b0 < W) (ha0 : a0 < W) (ha1 : a1 < W) (hK : 0 < K)
    (hla : la < K) (hlb : lb < K) (ha : a = (a2 * W * W + a1 * W + a0) * K + la) (hb : b = (b1 * W + b0) * K + lb) (hab : a < b * W) :
    quo3 a2 a1 a0 b1 b0 < W ∧ a / b ≤ quo3 a2 a1 a0 b1 b0 ∧ quo3 a2 a1 a0 b1 b0 ≤ a / b + 1 := by
  have hW := W_eq
  have hb1' : 0 < b1 := by omega
  have hpos : 0 < b1 * W + b0 := by have := Nat.mul_pos hb1' W_pos; omega
  have hbpos : 0 < b := by rw [hb]; have := Nat.mul_pos hpos hK; omega
  have hlt : a / b < W := by rw [Nat.div_lt_iff_lt_mul hbpos, Nat.mul_comm]; exact hab
  unfold quo3
  split
  · rename_i hge
    refine ⟨by omega, by omega, ?_⟩
    have h2 : W - 2 ≤ a / b := by
      rw [Nat.le_div_iff_mul_le hbpos]
      -- (W - 2) * b ≤ b1 * W * W * K ≤ a
      have e1 : b < (b1 + 1) * W * K := by
        have : (b1 * W + b0 + 1) * K ≤ (b1 + 1) * W * K := Nat.mul_le_mul_right _ (by rw [Nat.add_mul]; omega)
        rw [Nat.add_mul (b1 * W + b0), Nat.one_mul] at this
        omega
      have e2 : (W - 2) * (b1 + 1) ≤ b1 * W := by
        rw [Nat.sub_mul, Nat.mul_add, Nat.mul_comm W b1]; omega
      have e3 : (W - 2) * b ≤ (W - 2) * ((b1 + 1) * W * K) := Nat.mul_le_mul_left _ (Nat.le_of_lt e1)
      have e4 : (W - 2) * ((b1 + 1) * W * K) = (W - 2) * (b1 + 1) * (W * K) := by simp only [Nat.mul_assoc]
      have e5 : (W - 2) * (b1 + 1) * (W * K) ≤ b1 * W * (W * K) := Nat.mul_le_mul_right _ e2
      have e6 : b1 * W * (W * K) ≤ a2 * W * (W * K) := Nat.mul_le_mul_right _ (Nat.mul_le_mul_right _ hge)
      have e7 : a2 * W * (W * K) ≤ a := by
        rw [ha, Nat.add_mul, Nat.add_mul, ← Nat.mul_assoc (a2 * W)]; omega
      omega
    omega
  · rename_i hlt2
    have hq : (a2 * W * W + a1 * W + a0) / (b1 * W + b0) < W := by
      rw [Nat.div_lt_iff_lt_mul hpos]
      have : (a2 + 1) * W ≤ b1 * W := Nat.mul_le_mul_right _ (by omega)
      have e1 : (a2 * W + a1 + 1) * W ≤ b1 * W * W := Nat.mul_le_mul_right _ (by rw [Nat.add_mul] at this; omega)
      rw [Nat.add_mul, Nat.add_mul] at e1
      rw [Nat.mul_add, Nat.mul_comm W (b1 * W)]
      omega
    generalize hQ : (a2 * W * W + a1 * W + a0) / (b1 * W + b0) = q at hq ⊢
    have hq1 : q * (b1 * W + b0) ≤ a2 * W * W + a1 * W + a0 := by rw [← hQ]; exact Nat.div_mul_le_self _ _
    have hq2 : a2 * W * W + a1 * W + a0 < (q + 1) * (b1 * W + b0) := by
      have := Nat.lt_mul_div_succ (a2 * W * W + a1 * W + a0) hpos
      rw [hQ] at this
      exact Nat.lt_of_lt_of_eq this (Nat.mul_comm _ _)
    refine ⟨hq, ?_, ?_⟩
    · have : a / b < q + 1 := by
        rw [Nat.div_lt_iff_lt_mul hbpos]
        have e1 : (a2 * W * W + a1 * W + a0 + 1) * K ≤ (q + 1) * (b1 * W + b0) * K := Nat.mul_le_mul_right _ hq2
        rw [Nat.add_mul (a2 * W * W + a1 * W + a0) 1, Nat.one_mul] at e1
        have e2 : (q + 1) * b = (q + 1) * (b1 * W + b0) * K + (q + 1) * lb := by rw [hb, Nat.mul_add, Nat.mul_assoc]
        omega
      omega
    · rcases Nat.eq_zero_or_pos q with h | h
      · rw [h]; exact Nat.zero_le _
      obtain ⟨s, rfl⟩ : ∃ s, q = s + 1 := ⟨q - 1, by omega⟩
      have : s ≤ a / b := by
        rw [Nat.le_div_iff_mul_le hbpos]
        have e1 : (s + 1) * (b1 * W + b0) * K ≤ (a2 * W * W + a1 * W + a0) * K := Nat.mul_le_mul_right _ hq1
        have e2 : (s + 1) * b = (s + 1) * (b1 * W + b0) * K + (s + 1) * lb := by rw [hb, Nat.mul_add, Nat.mul_assoc]
        have e3 : (s + 1) * lb ≤ W * K := Nat.mul_le_mul (by omega) (Nat.le_of_lt hlb)
        have e4 : W * K ≤ b1 * W * K := by
          rw [Nat.mul_assoc]; exact Nat.le_mul_of_pos_left _ hb1'
        have e5 : b1 * W * K ≤ b := by rw [hb, Nat.add_mul]; omega
        rw [Nat.add_mul, Nat.one_mul] at e2
        omega
      omega

/-- one step of the long division: what 'subScaled' leaves, and when the guess was one too many. P stands for W ^ n. -/
theorem take_same {lo an P b a t lo' m : Nat} (hlo : a = lo + an * P) (hP : b < P) (hb : 0 < b) (ht : t = a / b) (h : lo' + b * t = lo + m * P) (hlo' : lo' < P) :
    ¬ an < m ∧ lo' = a % b := by
  have hr : a % b < b := Nat.mod_lt _ hb
  have e := Nat.div_add_mod a b
  rw [← ht] at e
  have e1 : lo' + an * P = a % b + m * P := by omega
  rcases Nat.lt_trichotomy an m with h1 | h1 | h1
  · have : (an + 1) * P ≤ m * P := Nat.mul_le_mul_right _ h1
    rw [Nat.add_mul] at this; omega
  · subst h1; omega
  · have : (m + 1) * P ≤ an * P := Nat.mul_le_mul_right _ h1
    rw [Nat.add_mul] at this; omega
theorem take_more {lo an P b a t lo' m : Nat} (hlo : a = lo + an * P) (hP : b < P) (hb : 0 < b) (ht : t = a / b + 1) (h : lo' + b * t = lo + m * P) (hlo' : lo' < P) :
    an < m ∧ lo' + b = a % b + P := by
  have hr : a % b < b := Nat.mod_lt _ hb
  have e := Nat.div_add_mod a b
  rw [ht, Nat.mul_add] at h
  have e1 : lo' + b + an * P = a % b + m * P := by omega
  rcases Nat.lt_trichotomy (an + 1) m with h1 | h1 | h1
  · have : (an + 1 + 1) * P ≤ m * P := Nat.mul_le_mul_right _ h1
    simp only [Nat.add_mul] at this; omega
  · subst h1; rw [Nat.add_mul] at e1; omega
  · have : m * P ≤ an * P := Nat.mul_le_mul_right _ (by omega)
    omega

/-- Newton's step for a root -/
theorem newton_ge {a x s : Nat} (hx : 0 < x) (hs : s * s ≤ a) : s ≤ (x + a / x) / 2 := by
  have h1 : 2 * s ≤ x + a / x := by
    rcases Nat.lt_or_ge x s with h | h
    · have h2 : 2 * s - x ≤ a / x := by
        rw [Nat.le_div_iff_mul_le hx]
        obtain ⟨d, rfl⟩ : ∃ d, s = x + d := ⟨s - x, by omega⟩
        have : (2 * (x + d) - x) * x = x * x + 2 * (d * x) := by
          rw [show 2 * (x + d) - x = x + 2 * d by omega, Nat.add_mul, Nat.mul_assoc]
        have e : (x + d) * (x + d) = x * x + 2 * (d * x) + d * d := by
          rw [Nat.mul_add, Nat.add_mul, Nat.add_mul, Nat.mul_comm x d]; omega
        omega
      omega
    · rcases Nat.lt_or_ge (2 * s) x with h3 | h3
      · generalize a / x = q; omega
      have h2 : 2 * s - x ≤ a / x := by
        rw [Nat.le_div_iff_mul_le hx]
        obtain ⟨d, rfl⟩ : ∃ d, x = s + d := ⟨x - s, by omega⟩
        have e : (2 * s - (s + d)) * (s + d) + d * d = s * s := by
          rw [show 2 * s - (s + d) = s - d by omega]
          obtain ⟨c, rfl⟩ : ∃ c, s = d + c := ⟨s - d, by omega⟩
          rw [show d + c - d = c by omega]
          simp only [Nat.mul_add, Nat.add_mul, Nat.mul_comm c d]; omega
        omega
      omega
  omega
/-- the greatest number whose square is at most a -/
def isqrt (a : Nat) : Nat → Nat
  | 0 => 0
  | n + 1 => if (n + 1) * (n + 1) ≤ a then n + 1 else isqrt a n
def rootOf (a : Nat) : Nat := isqrt a a
theorem isqrt_sq (a n : Nat) : isqrt a n * isqrt a n ≤ a := by
  induction n with
  | zero => simp [isqrt]
  | succ n ih => unfold isqrt; split <;> assumption
theorem isqrt_max (a n s : Nat) (hs : s * s ≤ a) (hn : s ≤ n) : s ≤ isqrt a n := by
  induction n with
  | zero => omega
  | succ n ih =>
    unfold isqrt
    split
    · exact hn
    · rename_i h
      apply ih
      rcases Nat.lt_or_ge n s with h1 | h1
      · obtain rfl : s = n + 1 := by omega
        exact absurd hs h
      · exact h1
theorem root_sq (a : Nat) : rootOf a * rootOf a ≤ a := isqrt_sq a a
theorem root_max {a s : Nat} (hs : s * s ≤ a) : s ≤ rootOf a := by
  apply isqrt_max _ _ _ hs
  rcases Nat.eq_zero_or_pos s with h | h
  · omega
  · exact Nat.le_trans (Nat.le_mul_of_pos_left s h) hs
theorem root_lt (a : Nat) : a < (rootOf a + 1) * (rootOf a + 1) := by
  rcases Nat.lt_or_ge a ((rootOf a + 1) * (rootOf a + 1)) with h | h
  · exact h
  · have := root_max h; omega
theorem root_unique {a s : Nat} (h1 : s * s ≤ a) (h2 : a < (s + 1) * (s + 1)) : s = rootOf a := by
  have h3 := root_max h1
  have h4 := root_sq a
  rcases Nat.lt_or_ge s (rootOf a) with h | h
  · have := Nat.mul_le_mul (show s + 1 ≤ rootOf a from h) (show s + 1 ≤ rootOf a from h); omega
  · omega
theorem newton_stop {a x : Nat} (hx : 0 < x) (h : x ≤ (x + a / x) / 2) : x * x ≤ a := by
  have h1 : x ≤ a / x := by omega
  rwa [Nat.le_div_iff_mul_le hx] at h1
end Vx
namespace Go.Proofs.YtfppimacnhcflaaGreatDoor
open Go.RowKit
open Vx

/-- The value v is a number of package exact: x, its words below block B. -/
def IsNat (w : World) (B : Nat) (v : Value) (x : Nat) : Prop :=
  ∃ A c, v = .slice A (len x) c ∧ len x ≤ c ∧ c ≤ 1125899906842624 ∧ (x = 0 → A = none ∧ c = 0) ∧
    (0 < x → ∃ g o, A = some ⟨g, o, none⟩ ∧ g < B ∧ ∀ j, j < len x → w.cell? ⟨g, o + j, none⟩ = some (.int .u64 (word x j : Nat)))

/-- Block g is a row of words. -/
def Row (w : World) (g : Nat) (cs : List Nat) : Prop :=
  w.heap[g]? = some (.cells (cs.map fun d => Value.int .u64 (d : Nat)).toArray 112 (0, 0)) ∧ ∀ d ∈ cs, d < W

/-- Only block g, and what is new, has turned. -/
def Wrote (g : Nat) (w w' : World) : Prop := w.grownBy w' (some g)

section
variable {w w' w1 w2 : World} {g B B' x : Nat} {v : Value} {cs : List Nat}

theorem IsNat.mono (h : IsNat w B v x) (hb : Below B w w') (hB : B ≤ B') : IsNat w' B' v x := by
  obtain ⟨A, c, h1, h2, h3, h4, h5⟩ := h
  refine ⟨A, c, h1, h2, h3, h4, fun hx => ?_⟩
  obtain ⟨g, o, h6, h7, h8⟩ := h5 hx
  exact ⟨g, o, h6, by omega, fun j hj => (hb.cell (p := ⟨g, o + j, none⟩) h7).trans (h8 j hj)⟩
theorem IsNat.more (h : IsNat w B v x) (hB : B ≤ B') : IsNat w B' v x := h.mono (Below.refl _ _) hB
theorem IsNat.zero (w : World) (B : Nat) : IsNat w B (.slice none 0 0) 0 := ⟨none, 0, by rw [len_zero], by rw [len_zero]; omega, by omega, fun _ => ⟨rfl, rfl⟩, fun h => absurd h (by omega)⟩
theorem IsNat.zero' (h : IsNat w B v 0) : v = .slice none 0 0 := by
  obtain ⟨A, c, h1, _, _, h4, _⟩ := h
  obtain ⟨rfl, rfl⟩ := h4 rfl
  rw [h1, len_zero]

/-- The slice v reads as the n lowest words of z, which has no more. -/
def Reads (w : World) (B : Nat) (v : Value) (n z : Nat) : Prop :=
  ∃ A c, v = .slice A n c ∧ n ≤ c ∧ c ≤ 1125899906842624 ∧ z < Vx.W ^ n ∧
    (0 < n → ∃ g o, A = some ⟨g, o, none⟩ ∧ g < B ∧ ∀ j, j < n → w.cell? ⟨g, o + j, none⟩ = some (.int .u64 (word z j : Nat)))
theorem IsNat.reads (h : IsNat w B v x) : Reads w B v (len x) x := by
  obtain ⟨A, c, h1, h2, h3, _, h5⟩ := h
  exact ⟨A, c, h1, h2, h3, lt_len x, fun hx => h5 (len_pos.1 hx)⟩
theorem Reads.mono {n z : Nat} (h : Reads w B v n z) (hb : Below B w w') (hB : B ≤ B') : Reads w' B' v n z := by
  obtain ⟨A, c, h1, h2, h3, h4, h5⟩ := h
  refine ⟨A, c, h1, h2, h3, h4, fun hx => ?_⟩
  obtain ⟨g, o, h6, h7, h8⟩ := h5 hx
  exact ⟨g, o, h6, by omega, fun j hj => (hb.cell (p := ⟨g, o + j, none⟩) h7).trans (h8 j hj)⟩

theorem Reads.nil (w : World) (B : Nat) : Reads w B (.slice none 0 0) 0 0 := ⟨none, 0, rfl, Nat.le_refl _, by omega, by simp, fun h => absurd h (by omega)⟩
/-- A number whose words lie in memory that is there. -/
def Nt (w : World) (v : Value) (x : Nat) : Prop := IsNat w w.heap.size v x
theorem Nt.keep (h : Nt w v x) (hb : Below w.heap.size w w') : Nt w' v x := IsNat.mono h hb hb.size
theorem chain (h : Below w.heap.size w w1) (k : Below w1.heap.size w1 w2) : Below w.heap.size w w2 := h.trans (k.mono h.size)
theorem Nt.zero (w : World) : Nt w (.slice none 0 0) 0 := IsNat.zero _ _

theorem Wrote.refl (g : Nat) (w : World) : Wrote g w w := ⟨rfl, rfl, rfl, Nat.le_refl _, fun _ _ _ => rfl⟩
theorem Wrote.trans (h : Wrote g w w1) (k : Wrote g w1 w2) : Wrote g w w2 :=
  ⟨k.os.trans h.os, k.tape.trans h.tape, k.output.trans h.output, Nat.le_trans h.size k.size, fun i hi hne => (k.block i (Nat.lt_of_lt_of_le hi h.size) hne).trans (h.block i hi hne)⟩
theorem Wrote.of_below (h : Below w.heap.size w w1) : Wrote g w w1 := ⟨h.os, h.tape, h.output, h.size, fun i hi _ => h.block i hi⟩
theorem Wrote.below (h : Wrote g w w1) (hB : B ≤ w.heap.size) (hg : B ≤ g) : Below B w w1 :=
  ⟨h.os, h.tape, h.output, h.size, fun k hk => h.block k (by omega) (by simp; omega)⟩
theorem Wrote.set (w : World) (g o : Nat) (u : Value) : Wrote g w (w.setCell ⟨g, o, none⟩ u) :=
  ⟨rfl, rfl, rfl, by simp [World.setCell], fun k _ hk => Below.heap_setCell _ _ _ _ (fun e => hk (by simp [e]))⟩
theorem Wrote.drew (h : Wrote g w w1) : Wrote g w w1.drew := ⟨h.os, h.tape, h.output, h.size, h.block⟩

theorem Row.lt (h : Row w g cs) : g < w.heap.size := (Array.getElem?_eq_some_iff.1 h.1).1
theorem Row.cell (h : Row w g cs) {i : Nat} (hi : i < cs.length) : w.cell? ⟨g, i, none⟩ = some (.int .u64 (cs.getD i 0 : Nat)) := by
  rw [cell_of_row w g i _ _ _ h.1]
  simp [hi]
theorem Row.frozen (h : Row w g cs) (i : Nat) : w.frozen? ⟨g, i, none⟩ = false := frozen_of_row w g i _ _ h.1
theorem Row.set (h : Row w g cs) {i d : Nat} (hd : d < W) : Row (w.setCell ⟨g, i, none⟩ (.int .u64 (d : Nat))) g (cs.set i d) := by
  refine ⟨?_, fun e he => ?_⟩
  · rw [heap_setCell_same w g i _ _ _ h.1]
    simp [List.map_set]
  · rcases List.mem_or_eq_of_mem_set he with h1 | h1
    · exact h.2 e h1
    · subst h1; exact hd
theorem Row.keep (h : Row w g cs) (hb : w'.heap[g]? = w.heap[g]?) : Row w' g cs := ⟨hb.trans h.1, h.2⟩
theorem Row.getD_lt (h : Row w g cs) (i : Nat) : cs.getD i 0 < W := by
  rw [List.getD_eq_getElem?_getD]
  cases hg : cs[i]? with
  | none => simpa using W_pos
  | some d => simpa using h.2 d (List.mem_of_getElem? hg)
end

theorem Row.reads {w : World} {g : Nat} {cs : List Nat} (h : Row w g cs) {o n c : Nat} (hn : o + n ≤ cs.length) (hc : n ≤ c) (hc2 : c ≤ 1125899906842624) :
    Reads w (g + 1) (.slice (some ⟨g, o, none⟩) n c) n (seg cs o n) :=
  ⟨_, c, rfl, hc, hc2, seg_lt h.2 o n, fun _ => ⟨g, o, rfl, by omega, fun j hj => by rw [h.cell (by omega), seg_word h.2 hj]⟩⟩

/-- What a function that makes a number leaves. -/
def NatRet (w : World) (x : Nat) (e : Ending) (w' : World) : Prop := ∃ v, e = .returned v ∧ Nt w' v x ∧ Below w.heap.size w w'
/-- What a function that hands a number on leaves: the world stays. -/
def NatKept (w : World) (B x : Nat) (e : Ending) (w' : World) : Prop := ∃ v, e = .returned v ∧ IsNat w B v x ∧ w = w'

/-- a counter that goes down, before its rounds -/
def downI : Nat → Int
  | 0 => -1
  | p + 1 => (p : Int)
theorem downI_eq (k : Nat) : downI k = (k : Int) - 1 := by cases k <;> simp [downI]; 
/-- A question on numbers is answered; the world has drawn at most. -/
def SaysQ (w : World) (u : Value) (e : Ending) (w' : World) : Prop := e = .returned u ∧ ∃ n, w' = w.drewN n
/-- The answer of a question on numbers: the world stays. -/
def Says (w : World) (u : Value) (e : Ending) (w' : World) : Prop := e = .returned u ∧ w = w'
theorem says_bool {w : World} {a b : Bool} (h : a = b) : Says w (.bool b) (.returned (.bool a)) w := ⟨by rw [h], rfl⟩
theorem says_int {w : World} {k : IntKind} {a b : Int} (h : a = b) : Says w (.int k b) (.returned (.int k a)) w := ⟨by rw [h], rfl⟩
theorem quiet_says {P : Program} {f : FuncId} {args : Array Value} {w : World} {n : Nat} {v : Value} (h : Calls P f args (w.drewN n) (Says (w.drewN n) v)) :
    Calls P f args (w.drewN n) fun e w'' => e = .returned v ∧ ∃ m, w'' = w.drewN m := h.mono fun _ _ ⟨a, b⟩ => ⟨a, n, b.symm⟩
theorem quiet_saysQ {P : Program} {f : FuncId} {args : Array Value} {w : World} {n : Nat} {v : Value} (h : Calls P f args (w.drewN n) (SaysQ (w.drewN n) v)) :
    Calls P f args (w.drewN n) fun e w'' => e = .returned v ∧ ∃ m, w'' = w.drewN m := h.mono fun _ _ ⟨a, m, b⟩ => ⟨a, n + m, by rw [b, World.drewN_drewN]⟩
theorem below_drewN (w : World) (n : Nat) : Below w.heap.size w (w.drewN n) := ⟨rfl, rfl, rfl, Nat.le_refl _, fun _ _ => rfl⟩
theorem Nt.drewN {w : World} {v : Value} {x : Nat} (h : Nt w v x) (n : Nat) : Nt (w.drewN n) v x := h.keep (below_drewN w n)

/-- the low word of a sum or a product, and what it has no room for -/
def lo (n : Nat) : Nat := n % 18446744073709551616
def hi (n : Nat) : Nat := n / 18446744073709551616
/-- the word of a difference, and what is missing -/
def dlo (x y b : Nat) : Nat := (x + 18446744073709551616 - y - b) % 18446744073709551616
def dhi (x y b : Nat) : Nat := if x < y + b then 1 else 0
theorem lo_lt (n : Nat) : lo n < W := Nat.mod_lt _ (by omega)
theorem lohi (n : Nat) : lo n + W * hi n = n := Nat.mod_add_div n _
theorem hi_sum {x y c : Nat} (hx : x < W) (hy : y < W) (hc : c ≤ 1) : hi (x + y + c) ≤ 1 := by
  unfold W at hx hy; unfold hi; omega
theorem dlo_lt (x y b : Nat) : dlo x y b < W := Nat.mod_lt _ (by omega)
theorem dhi_le (x y b : Nat) : dhi x y b ≤ 1 := by unfold dhi; split <;> omega
theorem dlohi {x y b : Nat} (hx : x < W) (hy : y < W) (hb : b ≤ 1) : dlo x y b + y + b = x + W * dhi x y b := by
  unfold W at *; unfold dlo dhi; split <;> omega

theorem add64 {x y c : Nat} (hc : c ≤ 1) (w : World) :
    (callFunc 185 #[.int .u64 (x : Nat), .int .u64 (y : Nat), .int .u64 (c : Nat)]).run Tryz.prog w =
      .ok (.value (.tuple #[.int .u64 (lo (x + y + c) : Nat), .int .u64 (hi (x + y + c) : Nat)])) w := by
  rw [run_callFunc_extern Tryz.func185 (by kernel_rfl) (by kernel_rfl) (by kernel_rfl) (e := add64Entry) (by kernel_rfl), run_add64 x y c (by omega) (by omega) (by omega) (by omega)]
  simp only [Result.andThen]
  unfold lo hi
  congr 5 <;> omega
theorem add64z {x c : Nat} (hc : c ≤ 1) (w : World) :
    (callFunc 185 #[.int .u64 (x : Nat), .int .u64 0, .int .u64 (c : Nat)]).run Tryz.prog w =
      .ok (.value (.tuple #[.int .u64 (lo (x + 0 + c) : Nat), .int .u64 (hi (x + 0 + c) : Nat)])) w := add64 (x := x) (y := 0) hc w
theorem add64c {x y : Nat} (w : World) :
    (callFunc 185 #[.int .u64 (x : Nat), .int .u64 (y : Nat), .int .u64 0]).run Tryz.prog w =
      .ok (.value (.tuple #[.int .u64 (lo (x + y + 0) : Nat), .int .u64 (hi (x + y + 0) : Nat)])) w := add64 (x := x) (y := y) (c := 0) (by omega) w

theorem sub64 {x y b : Nat} (hb : b ≤ 1) (w : World) :
    (callFunc 181 #[.int .u64 (x : Nat), .int .u64 (y : Nat), .int .u64 (b : Nat)]).run Tryz.prog w =
      .ok (.value (.tuple #[.int .u64 (dlo x y b : Nat), .int .u64 (dhi x y b : Nat)])) w := by
  rw [run_callFunc_extern Tryz.func181 (by kernel_rfl) (by kernel_rfl) (by kernel_rfl) (e := sub64Entry) (by kernel_rfl), run_sub64 x y b hb]
  rfl
theorem sub64z {x b : Nat} (hb : b ≤ 1) (w : World) :
    (callFunc 181 #[.int .u64 (x : Nat), .int .u64 0, .int .u64 (b : Nat)]).run Tryz.prog w =
      .ok (.value (.tuple #[.int .u64 (dlo x 0 b : Nat), .int .u64 (dhi x 0 b : Nat)])) w := sub64 (x := x) (y := 0) hb w
theorem sub64c {x y : Nat} (w : World) :
    (callFunc 181 #[.int .u64 (x : Nat), .int .u64 (y : Nat), .int .u64 0]).run Tryz.prog w =
      .ok (.value (.tuple #[.int .u64 (dlo x y 0 : Nat), .int .u64 (dhi x y 0 : Nat)])) w := sub64 (x := x) (y := y) (b := 0) (by omega) w
end Go.Proofs.YtfppimacnhcflaaGreatDoor
namespace Go.Proofs.YtfppimacnhcflaaGreatDoor
open Go.RowKit
open Vx

theorem mod_top_zero {z k : Nat} (h : word z k = 0) : z % W ^ (k + 1) = z % W ^ k := by rw [mod_step, h]; simp
theorem len_mod_of {z k : Nat} (h : word z k ≠ 0) : len (z % W ^ (k + 1)) = k + 1 := by
  have h1 := len_le (Nat.mod_lt z (Wn_pos (k + 1)))
  rcases Nat.lt_or_ge (len (z % W ^ (k + 1))) (k + 1) with h2 | h2
  · have h3 : z % W ^ (k + 1) < W ^ k := Nat.lt_of_lt_of_le (lt_len _) (Nat.pow_le_pow_right W_pos (by omega))
    rw [mod_step] at h3
    have h4 := Nat.lt_of_le_of_lt (Nat.le_add_left _ _) h3
    have : W ^ k * 1 ≤ W ^ k * word z k := Nat.mul_le_mul_left _ (by omega)
    omega
  · omega
theorem word_mod {z k j : Nat} (h : j < k) : word (z % W ^ k) j = word z j := by
  unfold word
  obtain ⟨d, rfl⟩ : ∃ d, k = j + (1 + d) := ⟨k - j - 1, by omega⟩
  rw [Nat.pow_add, Nat.mod_mul_right_div_self, Nat.pow_add, Nat.pow_one, Nat.mod_mul_right_mod]

/-- what 'trim' makes of a slice whose words are worth z -/
def trimv (A : Option Addr) (c z : Nat) : Value := if z = 0 then .slice none 0 0 else .slice A (len z) c

set_option maxRecDepth 100000 in
set_option maxHeartbeats 1000000 in
theorem trim_val {w : World} {B n c z : Nat} {A : Option Addr} (h : Reads w B (.slice A n c) n z) :
    Calls Tryz.prog 157 #[.slice A n c] w (fun e w' => e = .returned (trimv A c z) ∧ w' = w) := by
  obtain ⟨A', c', e, hn, hc, hz, hp⟩ := h
  simp only [Value.slice.injEq, true_and] at e
  obtain ⟨rfl, rfl⟩ := e
  go_enter Tryz.func157, Tryz.ntmps157
  go_wp2_with fail
  go_loop [3] (fun i => ∃ k : Nat, k ≤ n ∧ i = .int .i64 k ∧ Hid (z % W ^ k = z)) (fun i => (intOf i).toNat)
  case atStart => exact ⟨n, by omega, rfl, Nat.mod_eq_of_lt hz⟩
  case round =>
    obtain ⟨k, hk, rfl, hm⟩ := hrel
    rcases Nat.eq_zero_or_pos k with h0 | h0
    · subst h0
      go_wp2_with fail
      go_ret
      have : z = 0 := by have := hm.out; simpa [Nat.mod_one] using this.symm
      exact ⟨by rw [trimv, if_pos this]; rfl, rfl⟩
    · obtain ⟨g, o, rfl, hg, hcell⟩ := hp (by omega)
      have h1 := hcell (k - 1) (by omega)
      obtain ⟨p, rfl⟩ : ∃ p, k = p + 1 := ⟨k - 1, by omega⟩
      rw [Nat.add_sub_cancel] at h1
      by_cases hw : word z p = 0
      · rw [hw] at h1
        go_wp2_with fail
        go_round
        case rel => exact ⟨p, by omega, by go_num, by have := hm.out; rwa [mod_top_zero hw] at this⟩
        case measure => simp [intOf]
      · have hlen := len_mod_of hw
        rw [hm.out] at hlen
        have hz0 : z ≠ 0 := by intro e; rw [e, len_zero] at hlen; omega
        have ht : ((word z p : Nat) : Int) ≠ 0 := by omega
        have ht2 : (((word z p : Nat) : Int) == 0) = false := by rw [beq_eq_false_iff_ne]; exact ht
        have Hl := Lib.hid hlen; clear hlen
        clear hcell hw ht
        go_wp2_with fail
        go_ret
        exact ⟨by rw [trimv, if_neg hz0, Hl.out]; rfl, rfl⟩
theorem Reads.trimmed {w : World} {B n c z : Nat} {A : Option Addr} (h : Reads w B (.slice A n c) n z) : IsNat w B (trimv A c z) z := by
  obtain ⟨A', c', e, hn, hc, hz, hp⟩ := h
  simp only [Value.slice.injEq, true_and] at e
  obtain ⟨rfl, rfl⟩ := e
  by_cases h0 : z = 0
  · subst h0; rw [trimv, if_pos rfl]; exact IsNat.zero _ _
  · have hl := len_le hz
    have hpos := len_pos.2 (Nat.pos_of_ne_zero h0)
    obtain ⟨g, o, rfl, hg, hcell⟩ := hp (by omega)
    rw [trimv, if_neg h0]
    exact ⟨_, c, rfl, by omega, hc, fun e => absurd e h0, fun _ => ⟨g, o, rfl, hg, fun j hj => hcell j (by omega)⟩⟩
theorem trim_any {w : World} {B n z : Nat} {v : Value} (h : Reads w B v n z) :
    Calls Tryz.prog 157 #[v] w (NatKept w B z) := by
  obtain ⟨A, c, rfl, _⟩ := id h
  exact (trim_val h).mono fun e w' ⟨h1, h2⟩ => ⟨_, h1, h.trimmed, h2.symm⟩
end Go.Proofs.YtfppimacnhcflaaGreatDoor
namespace Go.Proofs.YtfppimacnhcflaaGreatDoor
open Go.RowKit
open Vx

/-- the world behind a 'make' of n words -/
def mk (w : World) (n : Nat) : World := w.alloc (.cells (madeCells #[.int .u64 0] n) 112)
theorem infoW : (Tryz.prog.info? 112).map (fun i => (i.zero, i.size, i.bytes)) = some (some (.int .u64 0), 1, 8) := by kernel_rfl
theorem infoS : (Tryz.prog.info? 112).map (·.size) = some 1 := by kernel_rfl
theorem natT : Tryz.prog.underlying 23 = some (.slice 112) := by kernel_rfl

theorem mkNat (z : Int) (n : Nat) (hz : z = n) (hn : n ≤ 17592186044416) (w : World) :
    (Instr.makeSlice 23 (.int .i64 z) (.int .i64 z)).run Tryz.prog w = .ok (.slice (some ⟨w.heap.size, 0, none⟩) n n) (mk w n) := by
  subst hz
  exact run_make_row' _ _ _ 8 natT infoW rfl .i64 .i64 n (by omega) (by omega) w
theorem mk_row (w : World) (n : Nat) : Row (mk w n) w.heap.size (List.replicate n 0) := by
  refine ⟨?_, fun d hd => by rw [List.eq_of_mem_replicate hd]; exact W_pos⟩
  unfold mk
  rw [heap_alloc_new]
  congr 2
  apply Array.ext'
  simp [madeCells, Nat.mod_one, List.map_const']
theorem mk_below (w : World) (n : Nat) : Below w.heap.size w (mk w n) := (Below.refl _ _).alloc (Nat.le_refl _) _
theorem mk_size (w : World) (n : Nat) : (mk w n).heap.size = w.heap.size + 1 := by unfold mk; simp

/-- 'copy' of a number into the words of a row from its head on -/
theorem copyNat {w : World} {g n c m b B : Nat} {cs : List Nat} {A : Option Addr} {cb : Nat} (hr : Row w g cs) (hn : n ≤ cs.length)
    (hb : Reads w B (.slice A m cb) m b) (hm : m ≤ n) :
    ∃ w2, (∀ ty, (Builtin.copy_ #[23, 23] ty #[.slice (some ⟨g, 0, none⟩) n c, .slice A m cb]).run Tryz.prog w = .ok (goInt m) w2) ∧
      Wrote g w w2 ∧ ∃ cs', Row w2 g cs' ∧ cs'.length = cs.length ∧ (∀ j, cs'.getD j 0 = if j < m then word b j else cs.getD j 0) := by
  obtain ⟨A', cb', e, h1, h2, h3, h4⟩ := hb
  simp only [Value.slice.injEq, true_and] at e
  obtain ⟨rfl, rfl⟩ := e
  rcases Nat.eq_zero_or_pos m with h0 | h0
  · subst h0
    exact ⟨w, fun ty => run_copy_none (P := Tryz.prog) w _ _ ty _ _ _ _ _ _ _ natT infoS (by simp), Wrote.refl _ _, cs, hr, rfl, fun j => by simp⟩
  · obtain ⟨gb, ob, rfl, hg, hc⟩ := h4 h0
    have hmin : Nat.min m n = m := Nat.min_eq_left hm
    have hrun := fun (ty : TypeId) => run_copy_row (P := Tryz.prog) w 23 23 ty 112 g 0 n c ⟨gb, ob, none⟩ m cb (cs.map fun d => Value.int .u64 (d : Nat)).toArray 112 ((List.range m).map fun j => Value.int .u64 (word b j : Nat)) natT infoS hr.1
        (by simp [hmin]) (fun j v hj => by
          simp only [List.getElem?_map, Option.map_eq_some_iff] at hj
          obtain ⟨j', hj', rfl⟩ := hj
          have hlt : j < m := by
            rcases Nat.lt_or_ge j m with h | h
            · exact h
            · rw [List.getElem?_eq_none (by simpa using h)] at hj'; cases hj'
          rw [List.getElem?_range hlt] at hj'
          cases hj'
          rw [Addr.add_lit]
          exact hc j hlt) (by simp; omega) (by simp [Value.oneCell'])
    simp only [List.length_map, List.length_range] at hrun
    refine ⟨_, hrun, ?_, ((List.range m).map (word b) ++ cs.drop m), ?_, ?_, ?_⟩
    · exact ⟨rfl, rfl, rfl, by simp [World.setRow], fun k _ hk => setRow_other w g k _ (fun e => hk (by simp [e]))⟩
    · refine ⟨?_, fun d hd => ?_⟩
      · rw [setRow_heap w g _ _ _ _ hr.1]
        congr 2
        apply Array.ext'
        simp [List.map_append, List.map_map, Function.comp_def]
      · rcases List.mem_append.1 hd with h | h
        · obtain ⟨j, _, rfl⟩ := List.mem_map.1 h; exact word_lt _ _
        · exact hr.2 d (List.mem_of_mem_drop h)
    · simp; omega
    · intro j
      simp only [List.getD_eq_getElem?_getD, List.getElem?_append, List.length_map, List.length_range]
      split
      · rename_i h; simp [List.getElem?_range h]
      · rename_i h
        rw [List.getElem?_drop, show m + (j - m) = j by omega]
theorem getD_replicate (n j : Nat) : (List.replicate n 0).getD j 0 = 0 := by
  simp [List.getD_eq_getElem?_getD, List.getElem?_replicate]; split <;> rfl
theorem seg_copied {cs : List Nat} {m n b : Nat} (h : ∀ j, cs.getD j 0 = if j < m then word b j else (List.replicate n 0).getD j 0) (hm : len b ≤ m) (hn : m ≤ n) : seg cs 0 n = b := by
  rw [seg_words (x := b), mod_len (Nat.le_trans hm hn)]
  intro j _
  rw [Nat.zero_add, h j]
  split
  · rfl
  · rw [getD_replicate, word_ge (by omega)]
end Go.Proofs.YtfppimacnhcflaaGreatDoor
namespace Go.Proofs.YtfppimacnhcflaaGreatDoor
open Go.RowKit
open Vx

set_option maxRecDepth 100000 in
set_option maxHeartbeats 1000000 in
theorem natOf_any {w : World} (x : Nat) (hx : x < W) : Calls Tryz.prog 132 #[.int .u64 (x : Nat)] w (NatRet w x) := by
  rcases Nat.eq_zero_or_pos x with h0 | h0
  · subst h0
    go_enter Tryz.func132, Tryz.ntmps132
    go_wp2
    go_ret
    exact ⟨_, rfl, IsNat.zero _ _, Below.refl _ _⟩
  · have ht : (((x : Nat) : Int) == 0) = false := by rw [beq_eq_false_iff_ne]; omega
    go_enter Tryz.func132, Tryz.ntmps132
    go_wp2
    go_ret
    refine ⟨_, rfl, ⟨_, 1, by rw [len_of_lt h0 hx]; rfl, by rw [len_of_lt h0 hx]; omega, by omega, fun e => by omega, fun _ => ⟨w.heap.size, 0, rfl, by simp, fun j hj => ?_⟩⟩, (Below.refl _ _).alloc (Nat.le_refl _) _⟩
    rw [len_of_lt h0 hx] at hj
    obtain rfl : j = 0 := by omega
    rw [cell_of_row _ _ _ _ _ _ (heap_alloc_new w _)]
    simp [word, Nat.mod_eq_of_lt hx]

set_option maxRecDepth 100000 in
set_option maxHeartbeats 1000000 in
theorem isOne_any {w : World} {x : Nat} {v : Value} (h : Nt w v x) : Calls Tryz.prog 136 #[v] w (Says w (.bool (decide (x = 1)))) := by
  obtain ⟨A, c, rfl, hc1, hc2, hz, hp⟩ := h
  have hll := @len_one
  by_cases h1 : len x = 1
  · obtain ⟨g, o, rfl, hg, hcell⟩ := hp (len_pos.1 (by omega))
    have hc := hcell 0 (by omega)
    have hx : word x 0 = x := by unfold word; rw [Nat.pow_zero, Nat.div_one, Nat.mod_eq_of_lt]; have := lt_len x; rwa [h1, Nat.pow_one] at this
    rw [hx, Nat.add_zero] at hc
    have hd : (((x : Nat) : Int) == 1) = decide (x = 1) := by rw [Bool.eq_iff_iff]; simp; omega
    have Hd := Lib.hid hd; clear hd hx hll
    rw [h1]
    clear hcell
    go_enter Tryz.func136, Tryz.ntmps136
    go_wp2
    go_ret
    exact says_bool Hd.out
  · have ht : (((len x : Nat) : Int) == 1) = false := by rw [beq_eq_false_iff_ne]; omega
    have hx : ¬ x = 1 := by intro e; subst e; exact h1 hll
    clear hll h1
    go_enter Tryz.func136, Tryz.ntmps136
    go_wp2
    go_ret
    exact says_bool (by simp [hx])

/-- A copy in memory of its own: its block is the first new one. -/
def CopyRet (w : World) (x : Nat) (e : Ending) (w' : World) : Prop :=
  (x = 0 ∧ e = .returned (.slice none 0 0) ∧ w' = w) ∨
  (0 < x ∧ ∃ cs, e = .returned (.slice (some ⟨w.heap.size, 0, none⟩) (len x) (len x)) ∧ Row w' w.heap.size cs ∧ cs.length = len x ∧ seg cs 0 (len x) = x ∧ Below w.heap.size w w')

set_option maxRecDepth 100000 in
set_option maxHeartbeats 1000000 in
theorem copied_any {w : World} {x : Nat} {v : Value} (h : Nt w v x) (hs : len x ≤ 17592186044416) : Calls Tryz.prog 99 #[v] w (CopyRet w x) := by
  rcases Nat.eq_zero_or_pos x with h0 | h0
  · subst h0
    rw [IsNat.zero' h]
    go_enter Tryz.func99, Tryz.ntmps99
    go_wp2
    go_ret
    exact .inl ⟨rfl, rfl, rfl⟩
  · obtain ⟨A, c, rfl, hc1, hc2, hz, hp⟩ := h
    have hl := len_pos.2 h0
    have hlx : (((len x : Nat) : Int) == 0) = false := by rw [beq_eq_false_iff_ne]; omega
    have hb : Reads (mk w (len x)) w.heap.size (.slice A (len x) c) (len x) x := (IsNat.reads ⟨A, c, rfl, hc1, hc2, hz, hp⟩).mono (mk_below w _) (Nat.le_refl _)
    obtain ⟨w2, hcp, hw2, cs, hr2, hl2, hd2⟩ := copyNat (c := len x) (mk_row w (len x)) (by simp) hb (Nat.le_refl _)
    have hseg := seg_copied hd2 (Nat.le_refl _) (Nat.le_refl _)
    have Hs := Lib.hid hseg
    have Hd := Lib.hid hd2
    have Hl := Lib.hid hl2
    have hmk := mkNat (len x) (len x) rfl hs
    clear hseg hd2 hl2 hp
    go_enter Tryz.func99, Tryz.ntmps99
    go_wp2
    go_ret
    exact .inr ⟨h0, cs, rfl, hr2, by rw [Hl.out]; simp, Hs.out, (mk_below w _).trans (hw2.below (by rw [mk_size]; omega) (Nat.le_refl _))⟩
/-- a copy is the number -/
theorem CopyRet.nat {w w' : World} {x : Nat} {e : Ending} (h : CopyRet w x e w') (hs : len x ≤ 17592186044416) : NatRet w x e w' := by
  rcases h with ⟨rfl, rfl, rfl⟩ | ⟨h0, cs, rfl, hr, hl, hseg, hb⟩
  · exact ⟨_, rfl, Nt.zero _, Below.refl _ _⟩
  · refine ⟨_, rfl, ⟨_, _, rfl, Nat.le_refl _, by omega, fun e => by omega, fun _ => ⟨w.heap.size, 0, rfl, hr.lt, fun j hj => ?_⟩⟩, hb⟩
    rw [hr.cell (by omega), ← seg_word hr.2 hj, hseg]
theorem copied_nat {w : World} {x : Nat} {v : Value} (h : Nt w v x) (hs : len x ≤ 17592186044416) : Calls Tryz.prog 99 #[v] w (NatRet w x) :=
  (copied_any h hs).mono fun _ _ h => h.nat hs
end Go.Proofs.YtfppimacnhcflaaGreatDoor
namespace Go.Proofs.YtfppimacnhcflaaGreatDoor
open Go.RowKit
open Vx

/-- The post of a function that writes in place: the words [o, o + n) of block g, and a word that is returned. -/
def InPlace (w : World) (g : Nat) (cs : List Nat) (o n : Nat) (R : Nat → Nat → Prop) (e : Ending) (w' : World) : Prop :=
  ∃ cs' k, e = .returned (.int .u64 (k : Nat)) ∧ k < W ∧ Wrote g w w' ∧ Row w' g cs' ∧ cs'.length = cs.length ∧ (∀ i, i < o ∨ o + n ≤ i → cs'.getD i 0 = cs.getD i 0) ∧ R (seg cs' o n) k

/-- What holds in such a loop. -/
def PlaceRel (w : World) (g : Nat) (cs : List Nat) (o n : Nat) (R : Nat → Prop) (wr : World) : Prop :=
  ∃ cs', Wrote g w wr ∧ Row wr g cs' ∧ cs'.length = cs.length ∧ (∀ i, i < o ∨ o + n ≤ i → cs'.getD i 0 = cs.getD i 0) ∧ R (seg cs' o n)

theorem PlaceRel.start {w : World} {g o n : Nat} {cs : List Nat} {R : Nat → Prop} (h : Row w g cs) (hR : R (seg cs o n)) : PlaceRel w g cs o n R w :=
  ⟨cs, Wrote.refl g w, h, rfl, fun _ _ => rfl, hR⟩
/-- One word is written. -/
theorem PlaceRel.step {w wr : World} {g o n i d : Nat} {cs cs' : List Nat} {R : Nat → Prop} (hw : Wrote g w wr) (hr : Row wr g cs') (hl : cs'.length = cs.length)
    (hs : ∀ i, i < o ∨ o + n ≤ i → cs'.getD i 0 = cs.getD i 0) (hi : i < n) (hn : o + n ≤ cs.length) (hd : d < W)
    (hR : ∀ z, z + W ^ i * cs'.getD (o + i) 0 = seg cs' o n + W ^ i * d → R z) :
    PlaceRel w g cs o n R (wr.setCell ⟨g, o + i, none⟩ (.int .u64 (d : Nat))) := by
  refine ⟨cs'.set (o + i) d, hw.trans (Wrote.set _ _ _ _), hr.set hd, by simpa using hl, fun j hj => ?_, ?_⟩
  · rw [getD_set, if_neg (by omega)]; exact hs j hj
  · exact hR _ (seg_set hi (by omega))

theorem add_step {P z z' s bm bw d c k l h : Nat} (e1 : z + P * c = s + bm) (e2 : z' + P * d = z + P * l) (e3 : l + W * h = d + bw + c) (hk : k = P * W) :
    z' + k * h = s + (bm + P * bw) := by
  subst hk
  have := congrArg (P * ·) e3
  simp only [Nat.mul_add, ← Nat.mul_assoc] at this
  omega

set_option maxRecDepth 100000 in
set_option maxHeartbeats 1000000 in
theorem addInto_any {w : World} {g o n c B : Nat} {cs : List Nat} {vb : Value} {b : Nat} (hr : Row w g cs) (hon : o + n ≤ cs.length) (hlen : cs.length ≤ 1125899906842624) (hb : IsNat w B vb b) (hB : B ≤ g) (hbn : len b ≤ n) :
    Calls Tryz.prog 164 #[.slice (some ⟨g, o, none⟩) n c, vb] w (InPlace w g cs o n fun z k => z + W ^ n * k = seg cs o n + b ∧ k ≤ 1) := by
  obtain ⟨A, cb, rfl, hc1, hc2, hz, hp⟩ := hb
  have hadd := @add64
  have hadd0 := @add64z
  go_enter Tryz.func164, Tryz.ntmps164
  go_wp2_with fail
  go_loopw [5, 11] (fun cv i wr => ∃ k c : Nat, k ≤ len b ∧ i = .int .i64 k ∧ cv = .int .u64 c ∧ c ≤ 1 ∧ PlaceRel w g cs o n (fun z => z + W ^ k * c = seg cs o n + b % W ^ k) wr) (fun _ i _ => len b - (intOf i).toNat)
  case atStart => exact ⟨0, 0, by omega, rfl, rfl, by omega, PlaceRel.start hr (by simp [Nat.mod_one])⟩
  case round =>
    obtain ⟨k, cy, hk, rfl, rfl, hcy, cs1, hw1, hr1, hl1, hs1, hR1⟩ := hrel
    by_cases hlt : k < len b
    · obtain ⟨gb, ob, rfl, hgb, hcell⟩ := hp (len_pos.1 (by omega))
      have h1 : wr.cell? ⟨gb, ob + k, none⟩ = some (.int .u64 (word b k : Nat)) := (World.cell?_of_block (hw1.block gb (by have := hr.lt; omega) (by simp; omega))).trans (hcell k hlt)
      have h2 := hr1.cell (i := o + k) (by omega)
      have h3 := hr1.frozen (o + k)
      have hd := hr1.getD_lt (o + k)
      generalize hdd : cs1.getD (o + k) 0 = d at h2 hd
      have Hd := Lib.hid hdd; clear hdd
      have HR := Lib.hid hR1; clear hR1
      have HL := Lib.hid hl1; clear hl1
      go_wp2_with fail
      go_roundw
      case rel =>
        refine ⟨k + 1, hi (d + word b k + cy), by omega, by go_num, rfl, hi_sum hd (word_lt _ _) hcy, ?_⟩
        refine PlaceRel.step hw1 hr1 HL.out hs1 (by omega) hon (lo_lt _) fun z hz => ?_
        rw [Hd.out] at hz
        rw [mod_step]
        exact add_step HR.out hz (lohi _) (Nat.pow_succ ..)
      case measure => simp [intOf]; omega
    · obtain rfl : k = len b := by omega
      have HR := Lib.hid hR1; clear hR1
      have HL := Lib.hid hl1; clear hl1
      go_wp2_with fail
      go_loopw [5, 8] (fun cv i wr => ∃ k c : Nat, len b ≤ k ∧ k ≤ n ∧ i = .int .i64 k ∧ cv = .int .u64 c ∧ c ≤ 1 ∧ PlaceRel w g cs o n (fun z => z + W ^ k * c = seg cs o n + b) wr) (fun _ i _ => n - (intOf i).toNat)
      case atStart =>
        refine ⟨len b, cy, by omega, by omega, rfl, rfl, hcy, cs1, hw1, hr1, HL.out, hs1, ?_⟩
        have := HR.out
        rwa [mod_len (Nat.le_refl _)] at this
      case round =>
        clear hw1 hr1 hs1 HR HL hcy
        obtain ⟨k, cy, hk1, hk2, rfl, rfl, hcy, cs1, hw1, hr1, hl1, hs1, hR1⟩ := hrel
        have h2 := fun (hh : k < n) => hr1.cell (i := o + k) (by omega)
        have h3 := hr1.frozen (o + k)
        have hd := hr1.getD_lt (o + k)
        generalize hdd : cs1.getD (o + k) 0 = d at h2 hd
        have Hd := Lib.hid hdd; clear hdd
        have HR := Lib.hid hR1; clear hR1
        have HL := Lib.hid hl1; clear hl1
        by_cases hlt : k < n
        · have h2' := h2 hlt
          clear h2
          by_cases hne : cy = 0
          · subst hne
            go_wp2_with fail
            go_ret
            exact ⟨cs1, 0, rfl, W_pos, hw1, hr1, HL.out, hs1, by have := HR.out; simpa using this, by omega⟩
          · have ht : ((cy : Int) != 0) = true := by rw [bne_iff_ne]; omega
            go_wp2_with fail
            go_roundw
            case rel =>
              refine ⟨k + 1, hi (d + 0 + cy), by omega, by omega, by go_num, rfl, hi_sum hd W_pos hcy, ?_⟩
              refine PlaceRel.step hw1 hr1 HL.out hs1 hlt hon (lo_lt _) fun z hz => ?_
              rw [Hd.out] at hz
              have := add_step HR.out hz (lohi (d + 0 + cy)) (Nat.pow_succ ..)
              simpa using this
            case measure => simp [intOf]; omega
        · obtain rfl : k = n := by omega
          clear h2
          go_wp2_with fail
          go_ret
          exact ⟨cs1, cy, rfl, by have := W_eq; omega, hw1, hr1, HL.out, hs1, HR.out, hcy⟩
end Go.Proofs.YtfppimacnhcflaaGreatDoor
