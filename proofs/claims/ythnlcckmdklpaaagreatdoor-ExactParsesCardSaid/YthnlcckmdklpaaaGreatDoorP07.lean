/-
  Contracts of the functions that the law calls, for every input (Rn Ro Rh Rp Rv OrT).
-/
import Derived.Test.YthnlcckmdklpaaaGreatDoorP06
import Derived.Deep.Cut
import Derived.Test.YthnlcckmdklpaaaGreatDoorJ20
import Derived.Test.YthnlcckmdklpaaaGreatDoorP03
import Derived.Test.YthnlcckmdklpaaaGreatDoorJ21
import Derived.Deep.LoopGhost
import Derived.Test.YthnlcckmdklpaaaGreatDoorJ22
set_option linter.all false
namespace Go.Proofs.YthnlcckmdklpaaaGreatDoor.Rf
open Go.RowKit
open Rx
open Lib (hid)

/-- a number from its sign, its top and its bottom -/
def rat (minus : Bool) (t d : Nat) : Rat := mkRat (if minus then -(t : Int) else t) d
theorem rat_num {minus : Bool} {t d : Nat} (hd : 0 < d) : (rat minus t d).num = (if minus then -((t / Nat.gcd t d : Nat) : Int) else ((t / Nat.gcd t d : Nat) : Int)) ∧ (rat minus t d).den = d / Nat.gcd t d := by
  unfold rat
  have hc : (if minus then -(t : Int) else (t : Int)).natAbs = t := by cases minus <;> simp
  have hdv : ((Nat.gcd t d : Nat) : Int) ∣ ((t : Nat) : Int) := Int.natCast_dvd_natCast.2 (Nat.gcd_dvd_left _ _)
  constructor
  · rw [Rat.num_mkRat, if_neg (by omega), hc, Nat.gcd_comm]
    cases minus
    · show ((t : Nat) : Int) / ((Nat.gcd t d : Nat) : Int) = ((t / Nat.gcd t d : Nat) : Int)
      rw [Int.natCast_ediv]
    · show -((t : Nat) : Int) / ((Nat.gcd t d : Nat) : Int) = -((t / Nat.gcd t d : Nat) : Int)
      rw [Int.neg_ediv_of_dvd hdv, Int.natCast_ediv]
  · rw [Rat.den_mkRat, if_neg (by omega), hc, Nat.gcd_comm]
theorem rat_parts {minus : Bool} {t d : Nat} {q : Rat} (hd : 0 < d) (h : rat minus t d = q) : q.num.natAbs = t / Nat.gcd t d ∧ q.den = d / Nat.gcd t d ∧ decide (q.num < 0) = (minus && decide (0 < t)) := by
  subst h
  obtain ⟨e1, e2⟩ := rat_num (minus := minus) (t := t) hd
  have hg : 0 < Nat.gcd t d := Nat.gcd_pos_of_pos_right _ hd
  have hp : 0 < t / Nat.gcd t d ↔ 0 < t := by
    constructor
    · intro h; rcases Nat.eq_zero_or_pos t with h1 | h1
      · rw [h1, Nat.zero_div] at h; exact absurd h (by omega)
      · exact h1
    · intro h; exact Nat.div_pos (Nat.le_of_dvd h (Nat.gcd_dvd_left _ _)) hg
  generalize t / Nat.gcd t d = m at e1 hp ⊢
  refine ⟨?_, e2, ?_⟩
  · rw [e1]; cases minus <;> simp
  · rw [e1]
    cases minus
    · simp
    · simp; exact hp
theorem big_one (w : World) : IsBig (w.alloc (.cells #[.int .i64 1] 3)) (.slice (some ⟨w.heap.size, 0, none⟩) 1 1) 1 := by
  have h1 : len 1 = 1 := len_one
  refine ⟨some ⟨w.heap.size, 0, none⟩, 1, by rw [h1], by rw [h1]; exact Nat.le_refl _, by decide, by rw [h1]; decide, fun _ => ⟨w.heap.size, 0, rfl, by rw [World.size_alloc]; omega, fun j hj => ?_⟩⟩
  rw [h1] at hj
  obtain rfl : j = 0 := by omega
  exact cell_of_row _ _ 0 _ _ _ (heap_alloc_new w _)
theorem lens_pos {x y : Nat} (h : 0 < x ↔ 0 < y) : (0 < len x) ↔ 0 < y := len_pos.trans h

set_option maxRecDepth 100000 in
set_option maxHeartbeats 4000000 in
theorem make_any {w : World} {vt vd : Value} {minus : Bool} {t d : Nat} {q : Rat} (hq : rat minus t d = q) (ht : IsBig w vt t) (hd : IsBig w vd d) (h0 : 0 < d) (st : len t ≤ 68719476736) (sd : len d ≤ 68719476736) :
    Calls Tryz.prog 103 #[.bool minus, vt, vd] w (RatRet w q) := by
  obtain ⟨p1, p2, p3⟩ := rat_parts h0 hq
  obtain ⟨G, hG⟩ : ∃ G, Nat.gcd t d = G := ⟨_, rfl⟩
  have hgpos : 0 < G := by rw [← hG]; exact Nat.gcd_pos_of_pos_right _ h0
  obtain ⟨t', ht'⟩ : ∃ v, t / G = v := ⟨_, rfl⟩
  obtain ⟨d', hd'⟩ : ∃ v, d / G = v := ⟨_, rfl⟩
  rw [hG, ht'] at p1
  rw [hG, hd'] at p2
  have htp : 0 < t' ↔ 0 < t := by
    rw [← ht']
    constructor
    · intro h; rcases Nat.eq_zero_or_pos t with h1 | h1
      · rw [h1, Nat.zero_div] at h; exact absurd h (by omega)
      · exact h1
    · intro h; exact Nat.div_pos (by rw [← hG]; exact Nat.le_of_dvd h (Nat.gcd_dvd_left _ _)) hgpos
  have hsg : len G ≤ 68719476736 := Nat.le_trans (len_mono (by rw [← hG]; exact Nat.gcd_le_right _ h0)) sd
  obtain ⟨At, ct, rfl, -, -, -, -⟩ := id ht
  obtain ⟨Ad, cd, rfl, -, -, -, -⟩ := id hd
  obtain ⟨wB, hwB⟩ : ∃ u, u = w.alloc (.cells #[.bool false, .slice none 0 0, .slice none 0 0] 33) := ⟨_, rfl⟩
  have hRB := RB.start w
  have hbB := alloc_below w (.cells #[.bool false, .slice none 0 0, .slice none 0 0] 33)
  rw [← hwB] at hRB hbB
  have HC := hid (common_any (ht.keep hbB) (hd.keep hbB) st sd)
  rw [hG] at HC
  have hq9 := hid hq
  have htp9 := hid htp
  replace p1 := hid p1
  replace p2 := hid p2
  replace p3 := hid p3
  replace hRB := hid hRB
  replace ht := hid (ht.keep hbB)
  replace hd := hid (hd.keep hbB)
  replace hbB := hid hbB
  obtain ⟨n, hn⟩ : ∃ n, len t = n := ⟨_, rfl⟩
  obtain ⟨m, hm⟩ : ∃ n, len d = n := ⟨_, rfl⟩
  rw [hn] at ht st HC ⊢
  rw [hm] at hd sd HC ⊢
  clear htp hq
  replace hG := hid hG
  replace ht' := hid ht'
  replace hd' := hid hd'
  replace hn := hid hn
  replace hm := hid hm
  obtain ⟨R, hR⟩ : ∃ R, w.heap.size = R := ⟨_, rfl⟩
  rw [hR] at hRB
  go_enter Tryz.func103, Tryz.ntmps103
  go_upto_region 1 with fail
  rw [← hwB]
  replace hR := hid hR
  clear hwB
  go_wp2_with fail
  refine (HC.out).mono ?_
  rintro e w1 ⟨v1, rfl, hv1, b1⟩
  replace hv1 := hid hv1
  replace b1 := hid b1
  obtain ⟨Ag, cg, rfl, -, -, -, -⟩ := id hv1.out
  obtain ⟨w2, hw2⟩ : ∃ u, u = w1.alloc (.cells #[.int .i64 1] 3) := ⟨_, rfl⟩
  have hone := big_one w1
  have b2 := alloc_below w1 (.cells #[.int .i64 1] 3)
  rw [← hw2] at hone b2
  obtain ⟨cc, hcc⟩ : ∃ c, cmpN G 1 = c := ⟨_, rfl⟩
  have HK := hid (compare_any (hv1.out.keep b2) hone (by omega) (by rw [len_one]; omega))
  rw [hcc] at HK
  replace b2 := hid b2
  clear HC hone
  go_wp2_with fail
  rw [← hw2]
  clear hw2
  refine (HK.out).mono ?_
  rintro e w' ⟨rfl, rfl⟩
  clear HK
  have hRB2 := hid ((hRB.out.call b1.out).call b2.out)
  have ht2 := hid ((ht.out.keep b1.out).keep b2.out)
  have hd2 := hid ((hd.out.keep b1.out).keep b2.out)
  have hv2 := hid (hv1.out.keep b2.out)
  clear ht hd hv1 b1 b2 hRB hbB
  obtain ⟨bz, hbz⟩ : ∃ b, decide (0 < t) = b := ⟨_, rfl⟩
  obtain ⟨sb, hsb⟩ : ∃ b, decide (q.num < 0) = b := ⟨_, rfl⟩
  have hmz : sb = (minus && bz) := by rw [← hsb, p3.out, hbz]
  have hlz : ∀ k, len t' = k → decide (((k : Nat) : Int) > 0) = bz ∧ decide (0 < k) = bz := fun k hk => by
    have : 0 < k ↔ 0 < t := by rw [← hk]; exact len_pos.trans htp9.out
    rw [← hbz]
    constructor
    · rw [decide_eq_decide, ← this]; omega
    · rw [decide_eq_decide, ← this]
  replace hmz := hid hmz
  replace hsb := hid hsb
  replace hbz := hid hbz
  replace hlz := hid hlz
  rcases Nat.lt_trichotomy G 1 with hg1 | hg1 | hg1
  · exact absurd hg1 (by omega)
  · have c1 : (cc != 0) = false := by rw [← hcc, hg1, cmpN_eq]; rfl
    have e1 : t' = t := by rw [← ht'.out, hg1, Nat.div_one]
    have e2 : d' = d := by rw [← hd'.out, hg1, Nat.div_one]
    subst e1 e2
    obtain ⟨z1, z2⟩ := hlz.out n hn.out
    replace hcc := hid hcc
    replace hg1 := hid hg1
    obtain ⟨hbF, ⟨r0, r1, r2⟩, hkF⟩ := (hRB2.out).store (b := sb) (A := At) (n := n) (c := ct) (A' := Ad) (n' := m) (c' := cd) _ rfl
    obtain ⟨u0, u1, u2, ⟨k0, k1, k2⟩, f0, f1, f2⟩ := (hRB2.out).cells
    have F := hid (show IsRat _ (.agg #[.bool sb, .slice At n ct, .slice Ad m cd]) q from ⟨_, _, by rw [hsb.out], by rw [p1.out]; exact hkF _ _ ht2.out, by rw [p2.out]; exact hkF _ _ hd2.out⟩)
    have FB := hid hbF
    clear hbF hkF
    cases minus
    · have hb9 : sb = false := hmz.out
      subst hb9
      go_wp2_with fail
      refine bodyPost_ret (v := .agg #[.bool false, .slice At n ct, .slice Ad m cd]) ?_ rfl ⟨_, rfl, F.out, by rw [hR.out]; exact FB.out⟩
      simp [results, Tryz.results103, go_sem, r0, r1, r2]
    · have hb9 : sb = bz := hmz.out
      subst hb9
      go_wp2_with fail
      refine bodyPost_ret (v := .agg #[.bool sb, .slice At n ct, .slice Ad m cd]) ?_ rfl ⟨_, rfl, F.out, by rw [hR.out]; exact FB.out⟩
      simp [results, Tryz.results103, go_sem, r0, r1, r2]
  · have c1 : (cc != 0) = true := by rw [← hcc, cmpN_gt hg1]; rfl
    have HQ := hid (quotient_any ht2.out hv2.out hgpos (by rw [hn.out]; exact st) hsg)
    rw [ht'.out] at HQ
    replace hcc := hid hcc
    go_wp2_with fail
    refine (HQ.out).mono ?_
    rintro e w3 ⟨va, vb, rfl, hva, -, b3⟩
    replace hva := hid hva
    replace b3 := hid b3
    clear HQ
    have HQ := hid (quotient_any (hd2.out.keep b3.out) (hv2.out.keep b3.out) hgpos (by rw [hm.out]; exact sd) hsg)
    rw [hd'.out] at HQ
    go_wp2_with fail
    refine (HQ.out).mono ?_
    rintro e w4 ⟨vc, ve, rfl, hvc, -, b4⟩
    replace hvc := hid hvc
    replace b4 := hid b4
    clear HQ
    have hRB4 := hid ((hRB2.out.call b3.out).call b4.out)
    have hva4 := hid (hva.out.keep b4.out)
    clear hva
    obtain ⟨Aa, ca, rfl, -, -, -, -⟩ := id hva4.out
    obtain ⟨Ac, cb, rfl, -, -, -, -⟩ := id hvc.out
    obtain ⟨n', hn'⟩ : ∃ n, len t' = n := ⟨_, rfl⟩
    obtain ⟨m', hm'⟩ : ∃ n, len d' = n := ⟨_, rfl⟩
    obtain ⟨z1, z2⟩ := hlz.out n' hn'
    rw [hn'] at hva4 ⊢
    rw [hm'] at hvc ⊢
    replace hn' := hid hn'
    replace hm' := hid hm'
    clear b3 b4 hRB2 ht2 hd2 hv2 hg1
    obtain ⟨hbF, ⟨r0, r1, r2⟩, hkF⟩ := (hRB4.out).store (b := sb) (A := Aa) (n := n') (c := ca) (A' := Ac) (n' := m') (c' := cb) _ rfl
    obtain ⟨u0, u1, u2, ⟨k0, k1, k2⟩, f0, f1, f2⟩ := (hRB4.out).cells
    have F := hid (show IsRat _ (.agg #[.bool sb, .slice Aa n' ca, .slice Ac m' cb]) q from ⟨_, _, by rw [hsb.out], by rw [p1.out]; exact hkF _ _ hva4.out, by rw [p2.out]; exact hkF _ _ hvc.out⟩)
    have FB := hid hbF
    clear hbF hkF
    cases minus
    · have hb9 : sb = false := hmz.out
      subst hb9
      go_wp2_with fail
      refine bodyPost_ret (v := .agg #[.bool false, .slice Aa n' ca, .slice Ac m' cb]) ?_ rfl ⟨_, rfl, F.out, by rw [hR.out]; exact FB.out⟩
      simp [results, Tryz.results103, go_sem, r0, r1, r2]
    · have hb9 : sb = bz := hmz.out
      subst hb9
      go_wp2_with fail
      refine bodyPost_ret (v := .agg #[.bool sb, .slice Aa n' ca, .slice Ac m' cb]) ?_ rfl ⟨_, rfl, F.out, by rw [hR.out]; exact FB.out⟩
      simp [results, Tryz.results103, go_sem, r0, r1, r2]
end Go.Proofs.YthnlcckmdklpaaaGreatDoor.Rf
namespace Go.Proofs.YthnlcckmdklpaaaGreatDoor.Rf
open Go.RowKit
open Rx
open Lib (hid)

theorem ten_step (X j : Nat) : ∀ r a s : Nat, X / V ^ (j + 1) % 10 = r → word X j = a → r * 65536 + a = s → s / 10 = word (X / 10) j ∧ s % 10 = X / V ^ j % 10 ∧ r < 10 ∧ a < 65536 := by
  intro r a s hr ha hs
  have h := div_step X j
  have h1 := word_lt X j
  rw [ha] at h h1
  have e : X / 10 / V ^ j = X / V ^ j / 10 := by rw [Nat.div_div_eq_div_mul, Nat.div_div_eq_div_mul, Nat.mul_comm]
  have e2 : word (X / 10) j = X / V ^ j / 10 % V := by
    show X / 10 / V ^ j % V = _
    rw [e]
  rw [e2]
  generalize X / V ^ (j + 1) = M at *
  generalize X / V ^ j = N at *
  unfold V at *
  subst hr hs
  refine ⟨?_, ?_, ?_, ?_⟩ <;> omega
theorem digs_done {n k : Nat} (h0 : n / 10 ^ k = 0) (h1 : k = 0 ∨ 0 < n / 10 ^ (k - 1)) (hn : 0 < n) : dec n = digs k n := by
  have hlt : n < 10 ^ k := by
    rcases Nat.lt_or_ge n (10 ^ k) with h | h
    · exact h
    · have := Nat.div_pos h (Nat.pow_pos (by decide)); omega
  rw [dec_of hlt]
  rcases k with _ | k
  · have : n < 1 := hlt
    omega
  · have h2 : 0 < n / 10 ^ k := by
      rcases h1 with h1 | h1
      · omega
      · exact h1
    have h3 : n / 10 ^ k < 10 := by
      rw [Nat.div_lt_iff_lt_mul (Nat.pow_pos (by decide)), Nat.mul_comm, ← Nat.pow_succ]; exact hlt
    have e : digs (k + 1) n = UInt8.ofNat (48 + n / 10 ^ k % 10) :: digs k n := digs_front k n
    have e3 : dropZ (digs (k + 1) n) = digs (k + 1) n := by
      rw [e]
      unfold dropZ
      rw [List.dropWhile_cons_of_neg]
      intro hc
      have hc2 := eq_of_beq hc
      have := congrArg UInt8.toNat hc2
      rw [UInt8.toNat_ofNat', Nat.mod_eq_of_lt (a := n / 10 ^ k) h3] at this
      have h48 : (48 : UInt8).toNat = 48 := rfl
      omega
    rw [e3, if_neg]
    rw [e]; intro h; cases h

theorem byteT : Tryz.prog.underlying 184 = some (.slice 5) := by kernel_rfl
theorem u8T : Tryz.prog.underlying 5 = some (.int .u8) := by kernel_rfl
theorem strT : Tryz.prog.underlying 9 = some .string := by kernel_rfl
theorem conv_one (w : World) {r : Nat} (h : r < 10) : (convert 184 9 (.slice (some ⟨w.heap.size, 0, none⟩) 1 1)).run Tryz.prog (w.alloc (.cells #[.int .u8 (48 + ((r : Nat) : Int))] 5)) = .ok (.string ⟨#[UInt8.ofNat (48 + r)]⟩) (w.alloc (.cells #[.int .u8 (48 + ((r : Nat) : Int))] 5)) := by
  refine run_convert_bytes_back _ _ _ _ ⟨w.heap.size, 0, none⟩ 1 [UInt8.ofNat (48 + r)] byteT u8T strT ?_
  intro j hj
  obtain rfl : j = 0 := by simpa using hj
  have e : ((UInt8.ofNat (48 + r)).toNat : Int) = 48 + ((r : Nat) : Int) := by
    rw [UInt8.toNat_ofNat', Nat.mod_eq_of_lt (by omega)]; omega
  show _ = some (Value.int .u8 ((UInt8.ofNat (48 + r)).toNat : Int))
  rw [e]
  exact cell_of_row _ _ 0 _ _ _ (heap_alloc_new w _)

theorem bytes_app (a b : ByteArray) : (a ++ b).data.toList = a.data.toList ++ b.data.toList := by rw [ByteArray.data_append, Array.toList_append]
theorem ten_k {x k n : Nat} (h : 0 < x / 10 ^ k) (hn : len x = n) : k + 1 ≤ 20 * n := by
  have h1 : 10 ^ k ≤ x := by
    rcases Nat.lt_or_ge x (10 ^ k) with h2 | h2
    · rw [Nat.div_eq_of_lt h2] at h; omega
    · exact h2
  have h2 := lt_len x
  rw [hn] at h2
  have h3 : V ^ n ≤ (10 ^ 5) ^ n := Nat.pow_le_pow_left (by decide) n
  rw [← Nat.pow_mul] at h3
  have h4 : 10 ^ k < 10 ^ (5 * n) := Nat.lt_of_le_of_lt h1 (Nat.lt_of_lt_of_le h2 h3)
  have := (Nat.pow_lt_pow_iff_right (by decide)).1 h4
  omega

set_option maxRecDepth 100000 in
set_option maxHeartbeats 4000000 in
theorem decimal_any {w : World} {vx : Value} {x : Nat} (hx : IsBig w vx x) (hx0 : 0 < x) (sx : len x ≤ 1048576) :
    Calls Tryz.prog 155 #[vx] w (StrRet w (dec x)) := by
  obtain ⟨A, c, rfl, -, -, -, -⟩ := id hx
  have hl := len_pos.2 hx0
  have hx2 := hid hx
  obtain ⟨n, hn⟩ : ∃ n, len x = n := ⟨_, rfl⟩
  rw [hn] at hx2 hl ⊢
  have e1 : (((n : Nat) : Int) == 0) = false := by rw [beq_eq_false_iff_ne]; omega
  replace hn := hid hn
  clear hx hl
  obtain ⟨l, hdl⟩ : ∃ l, dec x = l := ⟨_, rfl⟩
  rw [hdl]
  replace hdl := hid hdl
  go_enter Tryz.func155, Tryz.ntmps155
  go_wp2_with fail
  clear e1
  go_loopg [0, 3] x (fun g xv sv wr => ∃ (k : Nat) (s : ByteArray), x / 10 ^ k = g ∧ sv = .string s ∧ s.data.toList = digs k x ∧ IsBig wr xv g ∧ (k = 0 ∨ 0 < x / 10 ^ (k - 1)) ∧ k ≤ 20 * n ∧ Below w.heap.size w wr)
  case atStart => exact ⟨0, _, by rw [Nat.pow_zero, Nat.div_one], rfl, rfl, hx2.out, Or.inl rfl, Nat.zero_le _, Below.refl _ _⟩
  case round =>
    obtain ⟨k, s, hg, rfl, hs, hxv, hk0, hk20, hbl⟩ := hrel
    obtain ⟨X, hXg⟩ : ∃ X, gk = X := ⟨_, rfl⟩
    rw [hXg] at hg hxv
    replace hXg := hid hXg
    replace hbl := hid hbl
    rcases Nat.eq_zero_or_pos X with hX0 | hX0
    · subst hX0
      have e := digs_done hg hk0 hx0
      rw [hdl.out, ← hs] at e
      obtain ⟨Ay, cy, rfl, -, -, -, -⟩ := hxv
      rw [len_zero]
      have F : Ending.returned (.string s) = .returned (.string ⟨l.toArray⟩) := by rw [e]
      replace F := hid F
      clear e hg hs
      go_wp2_with fail
      go_ret
      exact ⟨F.out, hbl.out⟩
    · obtain ⟨Ax, cx, rfl, -, -, -, -⟩ := id hxv
      obtain ⟨L, hL⟩ : ∃ L, len X = L := ⟨_, rfl⟩
      have hLp := len_pos.2 hX0
      have hXx : X ≤ x := by rw [← hg]; exact Nat.div_le_self _ _
      have hLn := len_mono hXx
      rw [hL] at hLp hLn hxv ⊢
      rw [hn.out] at hLn sx
      have e2 : ((L : Nat) : Int) > 0 := by omega
      have e3 : decide (0 < L) = true := decide_eq_true hLp
      obtain ⟨w5, hw5⟩ : ∃ u, u = wr := ⟨_, rfl⟩
      rw [← hw5] at hxv hbl ⊢
      clear hw5
      have hxr : BReads w5 (.slice Ax L cx) L X := by have h9 := hxv; unfold IsBig at h9; rw [hL] at h9; exact h9
      replace hxr := hid hxr
      clear hxv
      replace hg := hid hg
      replace hL := hid hL
      have hmk := mkBig L (by omega) w5
      obtain ⟨w6, hw6⟩ : ∃ u, u = w5.alloc (.cells (madeCells #[.int .i64 0] L) 3) := ⟨_, rfl⟩
      have hr1 := mk_rowF w5 L
      have hb1 := alloc_below w5 (.cells (madeCells #[.int .i64 0] L) 3)
      obtain ⟨g, hgg⟩ : ∃ g, w5.heap.size = g := ⟨_, rfl⟩
      rw [← hw6] at hmk hr1 hb1
      rw [hgg] at hmk hr1
      clear hw6
      replace hr1 := hid hr1
      replace hb1 := hid hb1
      replace hgg := hid hgg
      go_wp2_with fail
      clear hmk
      go_loopw [5, 6] (fun rv iv wr => ∃ j : Nat, j ≤ L ∧ iv = .int .i64 (downI j) ∧ rv = .int .i64 (X / V ^ j % 10 : Nat) ∧ Hid (RowF wr g L (fun t => if t < j then 0 else word (X / 10) t)) ∧ Hid (Below w5.heap.size w5 wr)) (fun _ iv _ => (intOf iv + 1).toNat)
      case atStart => exact ⟨L, Nat.le_refl _, by rw [downI_eq], by rw [Nat.div_eq_of_lt (by rw [← hL.out]; exact lt_len X)]; rfl, hr1.out.congr (fun t ht => by rw [if_pos ht]), hb1.out⟩
      case round =>
        obtain ⟨j, hj, rfl, rfl, hrow, hb5⟩ := hrel
        rcases j with _ | j
        · obtain ⟨r, hr⟩ : ∃ r, X / V ^ 0 % 10 = r := ⟨_, rfl⟩
          have hr10 : r < 10 := by omega
          have hz9 : X / 10 < V ^ L := Nat.lt_of_le_of_lt (Nat.div_le_self _ _) (by rw [← hL.out]; exact lt_len X)
          have HC0 := hid (RowF.reads (hrow.out.congr (f' := word (X / 10)) (fun t _ => by rw [if_neg (by omega)])) (by unfold maxLen; omega) hz9)
          rw [hr, show downI 0 = -1 from rfl]
          have hr2 : x / 10 ^ k % 10 = r := by rw [hg.out, ← hr, Nat.pow_zero, Nat.div_one]
          have hsz : s.size ≤ 20971520 := by
            have h1 : s.data.toList.length = s.size := Array.length_toList (xs := s.data)
            rw [hs, digs_len] at h1
            omega
          have hcv := conv_one wr hr10
          obtain ⟨sb, hsb⟩ : ∃ z : ByteArray, (⟨#[UInt8.ofNat (48 + r)]⟩ : ByteArray) = z := ⟨_, rfl⟩
          have hs1 : sb.size = 1 := by rw [← hsb]; rfl
          have hs2 : sb.data.toList = [UInt8.ofNat (48 + r)] := by rw [← hsb]
          rw [hsb] at hcv
          obtain ⟨w7, hw7⟩ : ∃ u, u = wr.alloc (.cells #[.int .u8 (48 + ((r : Nat) : Int))] 5) := ⟨_, rfl⟩
          have b7 := alloc_below wr (.cells #[.int .u8 (48 + ((r : Nat) : Int))] 5)
          rw [← hw7] at b7
          replace hw7 := hid hw7
          have hs2 := hid hs2
          replace hr := hid hr
          replace hr2 := hid hr2
          replace hsb := hid hsb
          replace b7 := hid b7
          have hs9 := hid hs
          clear hs
          have HC := hid (cut_any (HC0.out.keep b7.out))
          have hk1 := ten_k (x := x) (k := k) (by rw [hg.out]; exact hX0) hn.out
          clear HC0
          go_wp2_with fail
          rw [← hw7.out]
          refine (HC.out).mono ?_
          rintro e w' ⟨v2, rfl, hv2, rfl⟩
          replace hv2 := hid hv2
          clear HC
          go_wp2_with fail
          go_roundg (X / 10)
          case rel =>
            refine ⟨k + 1, _, ?_, rfl, ?_, hv2.out, Or.inr ?_, hk1, chain hbl.out (chain hb5.out b7.out)⟩
            · rw [Nat.pow_succ, ← Nat.div_div_eq_div_mul, hg.out]
            · rw [digs_front, hr2.out, bytes_app, hs2.out, hs9.out]; rfl
            · rw [Nat.add_sub_cancel, hg.out]; exact hX0
          case measure => have := hXg.out; omega
        · obtain ⟨r, hr⟩ : ∃ r, X / V ^ (j + 1) % 10 = r := ⟨_, rfl⟩
          obtain ⟨a, ha⟩ : ∃ a, word X j = a := ⟨_, rfl⟩
          obtain ⟨v, hv⟩ : ∃ v, r * 65536 + a = v := ⟨_, rfl⟩
          obtain ⟨q1, q2, q3, q4⟩ := ten_step X j r a v hr ha hv
          obtain ⟨d, hd⟩ : ∃ d, word (X / 10) j = d := ⟨_, rfl⟩
          obtain ⟨r', hr'⟩ : ∃ r, X / V ^ j % 10 = r := ⟨_, rfl⟩
          rw [hd] at q1
          rw [hr'] at q2
          rw [hr, show downI (j + 1) = ((j : Nat) : Int) from rfl]
          obtain ⟨wq, hwq⟩ : ∃ u, u = wr := ⟨_, rfl⟩
          rw [← hwq] at hrow hb5 ⊢
          clear hwq
          obtain ⟨gx, ox, rfl, hcx⟩ := (hxr.out.keep hb5.out).at hj
          rw [ha] at hcx
          have hcz := hrow.out.cell (t := j) hj (d := 0) (by rw [if_pos (by omega)])
          have hfz := hrow.out.frozen j
          obtain ⟨m, hm⟩ : ∃ m, r * 65536 = m := ⟨_, rfl⟩
          rw [hm] at hv
          have v0 : ((r : Nat) : Int) * 65536 = ((m : Nat) : Int) := by omega
          have v2 : ((m : Nat) : Int) + (a : Nat) = ((v : Nat) : Int) := by omega
          have v3 : ((v : Nat) : Int) / 10 = ((d : Nat) : Int) := by omega
          have v4 : ((v : Nat) : Int) % 10 = ((r' : Nat) : Int) := by omega
          have v5 : ((v : Nat) : Int).tdiv 10 = ((d : Nat) : Int) := by rw [Int.tdiv_eq_ediv_of_nonneg (by omega)]; exact v3
          have v6 : ((v : Nat) : Int).tmod 10 = ((r' : Nat) : Int) := by rw [Int.tmod_eq_emod_of_nonneg (by omega)]; exact v4
          have bm : m < 655360 := by omega
          have bv : v < 720896 := by omega
          have bd : d < 720896 := by omega
          have br : r' < 10 := by omega
          have hrow2 := hid (RowF.set (t := j) (d := d) hrow.out)
          have hbl2 := hid (hb5.out.setCell (p := ⟨g, j, none⟩) (Nat.le_of_eq hgg.out) (.int .i64 (d : Nat)))
          replace hd := hid hd
          replace hr' := hid hr'
          clear hr ha hv q1 q2 q3 hm
          go_wp2_with fail
          go_roundw
          case rel =>
            refine ⟨j, by omega, by rw [downI_eq], by rw [hr'.out], hrow2.out.congr ?_, hbl2⟩
            intro t ht
            by_cases h : t = j
            · rw [if_pos h, if_neg (by omega), h]; exact hd.out.symm
            · rw [if_neg h]
              by_cases h2 : t < j
              · rw [if_pos (by omega), if_pos h2]
              · rw [if_neg (by omega), if_neg h2]
          case measure => simp [intOf]
end Go.Proofs.YthnlcckmdklpaaaGreatDoor.Rf
namespace Go.Proofs.YthnlcckmdklpaaaGreatDoor.Rf
open Go.RowKit
open Rx
open Lib (hid)

theorem of_done {n k : Nat} (h : n / V ^ k = 0) (hk : k ≤ len n) : len n = k := by
  have h1 : n < V ^ k := by
    rcases Nat.lt_or_ge n (V ^ k) with h2 | h2
    · exact h2
    · have := Nat.div_pos h2 (Vn_pos k); rw [h] at this; exact absurd this (by decide)
  exact Nat.le_antisymm (len_le h1) hk
theorem of_step {n k m : Nat} (h : n / V ^ k = m) (h0 : 0 < m) : word n k = m % 65536 ∧ n / V ^ (k + 1) = m / 65536 ∧ k + 1 ≤ len n := by
  refine ⟨by unfold word; rw [h]; rfl, by rw [Nat.pow_succ, ← Nat.div_div_eq_div_mul, h]; rfl, ?_⟩
  rcases Nat.lt_or_ge k (len n) with h1 | h1
  · exact h1
  · have h2 : n < V ^ k := Nat.lt_of_lt_of_le (lt_len n) (Nat.pow_le_pow_right V_pos h1)
    rw [Nat.div_eq_of_lt h2] at h
    omega
theorem u64_len {n : Nat} (h : n < 18446744073709551616) : len n ≤ 4 := len_le (n := 4) (Nat.lt_of_lt_of_le h (by decide +kernel))

set_option maxRecDepth 100000 in
set_option maxHeartbeats 1000000 in
theorem of_any {w : World} {n : Nat} (hn : n < 18446744073709551616) :
    Calls Tryz.prog 108 #[.int .u64 (n : Nat)] w (BigRet w n) := by
  have hn5 := u64_len hn
  clear hn
  go_enter Tryz.func108, Tryz.ntmps108
  go_wp2_with fail
  go_loopw [0, 3] (fun p v wr => ∃ k m : Nat, p = .int .u64 (m : Nat) ∧ Hid (n / V ^ k = m) ∧ k ≤ len n ∧ Hid (Gath w wr v n k) ∧ Hid (Below w.heap.size w wr)) (fun p _ _ => (intOf p).toNat)
  case atStart => exact ⟨0, n, rfl, by show _ = _; simp, Nat.zero_le _, row_empty w, alloc_below w _⟩
  case round =>
    obtain ⟨k, m, rfl, hm, hk, hown, hbl⟩ := hrel
    rcases Nat.eq_zero_or_pos m with h0 | h0
    · have hlen := of_done (by rw [← h0]; exact hm.out) hk
      have F : ∀ v, Gath w wr v n k → IsBig wr v n := fun v h => by unfold IsBig; rw [hlen]; exact BReads.of_row h (by rw [← hlen]; exact lt_len n)
      have F := hid (F _ hown.out)
      have t1 : decide (((m : Nat) : Int) > 0) = false := decide_eq_false (by omega)
      have t2 : ((m : Nat) : Int) ≤ 0 := by omega
      clear h0 hlen hk hm hn5
      go_wp2_with fail
      go_ret
      exact ⟨_, rfl, F.out, hbl.out⟩
    · obtain ⟨e1, e2, e3⟩ := of_step hm.out h0
      obtain ⟨d, hd⟩ : ∃ d, word n k = d := ⟨_, rfl⟩
      obtain ⟨m', hm'⟩ : ∃ m', n / V ^ (k + 1) = m' := ⟨_, rfl⟩
      have hdl := word_lt n k
      rw [hd] at hdl e1
      rw [hm'] at e2
      unfold V at hdl
      have hand : bits .and .u64 ((m : Nat) : Int) 65535 = ((d : Nat) : Int) := by rw [and_u64, e1]
      have hwr := wrap_small hdl
      have hshr : ((m : Nat) : Int) / 65536 = ((m' : Nat) : Int) := by omega
      have hlt : m' < m := by omega
      have hk9 : k ≤ 2199023255552 := by omega
      replace hd := hid hd
      replace hm' := hid hm'
      replace e3 := hid e3
      replace hm := hid hm.out
      clear e1 e2 hdl hk hn5
      go_wp2_with (at_builtin; refine push_big rfl _ _ rfl rfl hown.out hbl.out hd.out hk9 rfl ?_; intro v' w1 hown' hb')
      go_roundw
      case rel => exact ⟨k + 1, m', rfl, hm'.out, e3.out, hown', hb'⟩
      case measure => simp [intOf]; omega
end Go.Proofs.YthnlcckmdklpaaaGreatDoor.Rf
namespace Go.Proofs.YthnlcckmdklpaaaGreatDoor.Rf
open Go.RowKit
open Rx
open Lib (hid)
open List renaming getElem?_toArray → lg, getElem?_cons_zero → lz, getElem?_cons_succ → ls, setIfInBounds_toArray → lt, set_cons_zero → ly, set_cons_succ → lu

theorem len_small {n : Nat} (h : n < 65536) (h0 : 0 < n) : len n = 1 := len_of_lt h0 h
theorem big_small (w : World) {n : Nat} (h : n < 65536) (h0 : 0 < n) : IsBig (w.alloc (.cells #[.int .i64 ((n : Nat) : Int)] 3)) (.slice (some ⟨w.heap.size, 0, none⟩) 1 1) n := by
  have h1 := len_small h h0
  refine ⟨some ⟨w.heap.size, 0, none⟩, 1, by rw [h1], by rw [h1]; exact Nat.le_refl _, by decide, by rw [h1]; exact Nat.lt_of_lt_of_eq h (Nat.pow_one _).symm, fun _ => ⟨w.heap.size, 0, rfl, by rw [World.size_alloc]; omega, fun j hj => ?_⟩⟩
  rw [h1] at hj
  obtain rfl : j = 0 := by omega
  have e : word n 0 = n := by unfold word; rw [Nat.pow_zero, Nat.div_one]; exact Nat.mod_eq_of_lt h
  rw [e]
  exact cell_of_row _ _ 0 _ _ _ (heap_alloc_new w _)
theorem len_val {l : List UInt8} (h : l.all digC = true) : len (valL l) ≤ l.length :=
  len_le (Nat.lt_of_lt_of_le (valL_lt h) (Nat.pow_le_pow_left (by decide) _))
theorem dig_facts {c : UInt8} (h : digC c = true) : 48 ≤ c.toNat ∧ c.toNat ≤ 57 := by simpa [digC] using h
/-- Digits are read: a number, and whether they are digits. -/
def DigRet (w : World) (l : List UInt8) (e : Ending) (w' : World) : Prop := ∃ v, e = .returned (.tuple #[v, .bool (digB l)]) ∧ (digB l = true → IsBig w' v (valL l)) ∧ Below w.heap.size w w'

set_option maxRecDepth 100000 in
set_option maxHeartbeats 4000000 in
theorem digits_any {w : World} {s : ByteArray} (hs : s.size ≤ 1048576) : Calls Tryz.prog 102 #[.string s] w (DigRet w s.data.toList) := by
  have hsi : ((s.size : Nat) : Int) ≤ 1048576 := by omega
  go_enter Tryz.func102, Tryz.ntmps102
  go_wp2_with fail
  go_loopw [4, 5] (fun xv iv wr => ∃ k : Nat, k ≤ s.size ∧ iv = .int .i64 ((k : Nat) : Int) ∧ Hid ((s.data.toList.take k).all digC = true) ∧ Hid (IsBig wr xv (valL (s.data.toList.take k))) ∧ Hid (Below w.heap.size w wr)) (fun _ iv _ => s.size - (intOf iv).toNat)
  case atStart => exact ⟨0, Nat.zero_le _, rfl, rfl, big_zero _ _, alloc_below w _⟩
  case round =>
    obtain ⟨k, hk, rfl, HA, hxv, hbl⟩ := hrel
    rcases Nat.lt_or_ge k s.size with hlt | hge
    · have hki : ((k : Nat) : Int) < ((s.size : Nat) : Int) := by omega
      by_cases hc : digC s[k] = true
      · have HA2 := hid (all_take hlt HA.out hc)
        obtain ⟨hc1, hc2⟩ := dig_facts hc
        have hval0 : valL (s.data.toList.take (k + 1)) = valL (s.data.toList.take k) * 10 + (s[k].toNat - 48) := by rw [take_next hlt, valL_snoc]
        have hsz := len_val HA.out
        rw [List.length_take] at hsz
        obtain ⟨m, hm⟩ : ∃ m, s[k].toNat - 48 = m := ⟨_, rfl⟩
        obtain ⟨X, hX⟩ : ∃ X, valL (s.data.toList.take k) = X := ⟨_, rfl⟩
        rw [hX, hm] at hval0
        rw [hX] at hxv hsz
        have hval := hid hval0.symm
        have hm64 : m < 18446744073709551616 := by omega
        have hs2 : len (X * 10) ≤ 1099511627776 := by
          have h1 := len_mul_le X 10
          have h2 : len 10 = 1 := len_small (by decide) (by decide)
          omega
        have hs3 : len m ≤ 1099511627776 := Nat.le_trans (u64_len hm64) (by decide)
        have d1 : decide (((s[k].toNat : Nat) : Int) < 48) = false := decide_eq_false (by omega)
        have d2 : decide ((57 : Int) < ((s[k].toNat : Nat) : Int)) = false := decide_eq_false (by omega)
        have d3 : (48 : Int) ≤ ((s[k].toNat : Nat) : Int) := by omega
        have d4 : ((s[k].toNat : Nat) : Int) ≤ 57 := by omega
        have d5 : ((s[k].toNat : Nat) : Int) - 48 = ((m : Nat) : Int) := by omega
        have d6 : IntKind.u8.wrap (((s[k].toNat : Nat) : Int) - 48) = ((m : Nat) : Int) := by rw [d5, IntKind.wrap_u8]; omega
        have d7 : IntKind.u64.wrap ((m : Nat) : Int) = ((m : Nat) : Int) := by rw [IntKind.wrap_u64]; omega
        have d8 : IntKind.u8.wrap ((m : Nat) : Int) = ((m : Nat) : Int) := by rw [IntKind.wrap_u8]; omega
        replace hm := hid hm
        replace hX := hid hX
        replace hs2 := hid hs2
        replace hs3 := hid hs3
        clear hc1 hc2 hc hval0
        have hXl : len X ≤ 1099511627776 := by omega
        obtain ⟨Ax, cx, rfl, -, -, -, -⟩ := id hxv.out
        go_wp2_with fail
        refine wp_region_held_drew (S := (fun w' => 0 ≤ w'.heap.size)) (by kernel_rfl) ?_ (fun hHeld => ?_)
        · (try dsimp only)
          exact Nat.zero_le _
        obtain ⟨u0, hu0⟩ : ∃ u, u = wr.drew := ⟨_, rfl⟩
        have b0 : Below wr.heap.size wr u0 := by rw [hu0]; exact below_drew wr
        rw [← hu0] at hHeld ⊢
        clear hu0
        obtain ⟨u1, hu1⟩ : ∃ u, u = u0.alloc (.cells #[.int .i64 10] 3) := ⟨_, rfl⟩
        have b1 := alloc_below u0 (.cells #[.int .i64 10] 3)
        have hten := big_small u0 (show 10 < 65536 by decide) (show 0 < 10 by decide)
        rw [show (((10 : Nat) : Int)) = 10 from rfl, ← hu1] at hten
        rw [← hu1] at b1
        have HT := hid (times_any ((hxv.out.keep b0).keep b1) hten (by omega) (by rw [len_small (by decide) (by decide)]; decide))
        replace hu1 := hid hu1
        replace b0 := hid b0
        replace b1 := hid b1
        clear hten
        refine tk (i := 0) (h := ?_)
        try simp only [Act.put, lt, ly, lu]
        refine tk (i := 3) (h := ?_)
        try simp only [Act.put, lt, ly, lu]
        refine tk (i := 4) (h := ?_)
        try simp only [Act.put, lt, ly, lu]
        refine tk (i := 5) (h := ?_)
        try simp only [Act.put, lt, ly, lu]
        refine tk (i := 6) (h := ?_)
        try simp only [Act.put, lt, ly, lu]
        refine tk (i := 7) (h := ?_)
        try simp only [Act.put, lt, ly, lu]
        refine wpAnyH_ready (rs := [1]) (by kernel_rfl) (by simp) (AllReadyH.cons (o := ?o1) ?e1 ?k1 AllReadyH.nil)
        case e1 => simp only [lg, lz, ls]; rfl
        intro K hK
        go_simp
        rw [← hu1.out]
        refine hK.out _ _ ?_ (fun hHeld2 => ?_)
        · (try dsimp only)
          exact Nat.zero_le _
        clear hK K hHeld
        try simp only [Act.put, lt, ly, lu]
        have hHeld := hHeld2
        clear hHeld2
        refine wpAnyH_ready (rs := [2]) (by kernel_rfl) (by simp) (AllReadyH.cons (o := ?o2) ?e2 ?k2 AllReadyH.nil)
        case e2 => simp only [lg, lz, ls]; rfl
        intro K hK
        go_simp; go_at_call 104
        refine (HT.out).mono ?_
        rintro e u2 ⟨v2, rfl, hv2, b2⟩
        replace hv2 := hid hv2
        replace b2 := hid b2
        obtain ⟨A2, c2, rfl, -, -, -, -⟩ := id hv2.out
        clear HT
        refine hK.out _ _ ?_ (fun hHeld2 => ?_)
        · (try dsimp only)
          exact Nat.zero_le _
        clear hK K hHeld
        try simp only [Act.put, lt, ly, lu]
        have hHeld := hHeld2
        clear hHeld2
        refine wpAnyH_ready (rs := [8]) (by kernel_rfl) (by simp) (AllReadyH.cons (o := ?o8) ?e8 ?k8 AllReadyH.nil)
        case e8 => simp only [lg, lz, ls]; rfl
        intro K hK
        go_simp; go_at_call 108
        refine (of_any hm64).mono ?_
        rintro e u3 ⟨v3, rfl, hv3, b3⟩
        have hv2' := hid (hv2.out.keep b3)
        replace hv3 := hid hv3
        replace b3 := hid b3
        obtain ⟨A3, c3, rfl, -, -, -, -⟩ := id hv3.out
        clear hv2
        refine hK.out _ _ ?_ (fun hHeld2 => ?_)
        · (try dsimp only)
          exact Nat.zero_le _
        clear hK K hHeld
        try simp only [Act.put, lt, ly, lu]
        have hHeld := hHeld2
        clear hHeld2
        refine wpAnyH_ready (rs := [9]) (by kernel_rfl) (by simp) (AllReadyH.cons (o := ?o9) ?e9 ?k9 AllReadyH.nil)
        case e9 => simp only [lg, lz, ls]; rfl
        intro K hK
        go_simp; go_at_call 105
        refine (plus_any hv2'.out hv3.out hs2.out hs3.out).mono ?_
        rintro e u4 ⟨v4, rfl, hv4, b4⟩
        replace hv4 := hid hv4
        replace b4 := hid b4
        refine hK.out _ _ ?_ (fun hHeld2 => ?_)
        · (try dsimp only)
          exact Nat.zero_le _
        clear hK K hHeld
        try simp only [Act.put, lt, ly, lu]
        have hHeld := hHeld2
        clear hHeld2
        refine tk (i := 10) (h := ?_)
        try simp only [Act.put, lt, ly, lu]
        refine wpAnyH_done (by kernel_rfl) ?_ _
        clear hHeld
        have hbl9 := hid (chain hbl.out (chain b0.out (chain b1.out (chain b2.out (chain b3.out b4.out)))))
        go_wp2_with fail
        go_roundw
        case rel => exact ⟨k + 1, by omega, by go_num, HA2, by rw [hval.out] at hv4; exact hv4, hbl9⟩
        case measure => simp [intOf]; omega
      · have hnd := hid (all_not hlt (by simpa using hc))
        have fin : ∀ v, DigRet w s.data.toList (.returned (.tuple #[v, .bool false])) wr := fun v => ⟨v, by rw [hnd.out], (fun h => by rw [hnd.out] at h; cases h), hbl.out⟩
        have F := hid (fin (.slice none 0 0))
        clear fin
        by_cases h1 : s[k].toNat < 48
        · have d1 : decide (((s[k].toNat : Nat) : Int) < 48) = true := decide_eq_true (by omega)
          have d3 : ((s[k].toNat : Nat) : Int) < 48 := by omega
          clear hc h1
          go_wp2_with fail
          go_ret2
          exact F.out
        · have hc9 : 57 < s[k].toNat := by
            rcases Nat.lt_or_ge 57 s[k].toNat with h2 | h2
            · exact h2
            · exact absurd (show digC s[k] = true by unfold digC; exact decide_eq_true ⟨by omega, h2⟩) hc
          have d1 : decide (((s[k].toNat : Nat) : Int) < 48) = false := decide_eq_false (by omega)
          have d2 : decide ((57 : Int) < ((s[k].toNat : Nat) : Int)) = true := decide_eq_true (by omega)
          have d3 : (48 : Int) ≤ ((s[k].toNat : Nat) : Int) := by omega
          have d4 : (57 : Int) < ((s[k].toNat : Nat) : Int) := by omega
          clear hc h1 hc9
          go_wp2_with fail
          go_ret2
          exact F.out
    · obtain rfl : k = s.size := by omega
      have hall : s.data.toList.take s.size = s.data.toList := List.take_of_length_le (Nat.le_of_eq (Array.length_toList (xs := s.data)))
      rw [hall] at HA hxv
      obtain ⟨bz, hbz⟩ : ∃ b, decide (0 < s.size) = b := ⟨_, rfl⟩
      have hd : digB s.data.toList = bz := by
        unfold digB
        rw [HA.out, Bool.and_true, ← hbz]
        have h1 : s.data.toList.length = s.size := Array.length_toList (xs := s.data)
        rw [← h1]
        cases s.data.toList <;> simp
      have F : DigRet w s.data.toList (.returned (.tuple #[u4, .bool bz])) wr := ⟨u4, by rw [hd], fun _ => hxv.out, hbl.out⟩
      replace F := hid F
      have hbz2 : decide (((s.size : Nat) : Int) > 0) = bz := by rw [← hbz, decide_eq_decide]; omega
      clear hd
      go_wp2_with fail
      go_ret2
      exact F.out
end Go.Proofs.YthnlcckmdklpaaaGreatDoor.Rf
namespace Go.Proofs.YthnlcckmdklpaaaGreatDoor.Rf
open Go.RowKit
open Rx
open Lib (hid)
open List renaming getElem?_toArray → lg, getElem?_cons_zero → lz, getElem?_cons_succ → ls, setIfInBounds_toArray → lt, set_cons_zero → ly, set_cons_succ → lu

set_option maxRecDepth 100000 in
theorem decimal_zero {w : World} {vx : Value} (hx : IsBig w vx 0) : Calls Tryz.prog 155 #[vx] w (StrRet w (dec 0)) := by
  obtain ⟨A, c, rfl, -, -, -, -⟩ := hx
  rw [len_zero]
  have F : Ending.returned (.string { data := #[48] }) = .returned (.string ⟨(dec 0).toArray⟩) := by
    have : dec 0 = [48] := by decide +kernel
    rw [this]
  replace F := hid F
  go_enter Tryz.func155, Tryz.ntmps155
  go_wp2_with fail
  go_ret
  exact ⟨F.out, Below.refl _ _⟩
theorem decimal_full {w : World} {vx : Value} {x : Nat} (hx : IsBig w vx x) (sx : len x ≤ 1048576) : Calls Tryz.prog 155 #[vx] w (StrRet w (dec x)) := by
  rcases Nat.eq_zero_or_pos x with h | h
  · subst h; exact decimal_zero hx
  · exact decimal_any hx h sx
theorem vp_parts {d t f c : Nat} (h : d = 2 ^ t * 5 ^ f * c) (h2 : c % 2 = 1) (h5 : c % 5 ≠ 0) : vp 2 d = t ∧ vp 5 d = f := by
  have odd5 : ∀ f, 5 ^ f % 2 = 1 := fun f => by
    induction f with
    | zero => rfl
    | succ f ih => rw [Nat.pow_succ]; omega
  constructor
  · have e : d = (5 ^ f * c) * 2 ^ t := by rw [h, Nat.mul_assoc, Nat.mul_comm]
    rw [e]
    refine vp_of (by decide) ?_
    rw [Nat.mul_mod, odd5, h2]; decide
  · have e : d = (2 ^ t * c) * 5 ^ f := by rw [h]; simp only [Nat.mul_assoc, Nat.mul_comm (5 ^ f) c]
    rw [e]
    refine vp_of (by decide) ?_
    intro h0
    have h1 := two_mod_five t
    rw [Nat.mul_mod] at h0
    have h6 : c % 5 < 5 := Nat.mod_lt _ (by decide)
    have h7 : c % 5 = 1 ∨ c % 5 = 2 ∨ c % 5 = 3 ∨ c % 5 = 4 := by omega
    rcases h1 with h1 | h1 | h1 | h1 <;> rcases h7 with h7 | h7 | h7 | h7 <;> rw [h1, h7] at h0 <;> cases h0
theorem c_one {d t f c : Nat} (h : d = 2 ^ t * 5 ^ f * c) : c = 1 ↔ d = 2 ^ t * 5 ^ f := by
  have hp : 0 < 2 ^ t * 5 ^ f := Nat.mul_pos (Nat.pow_pos (by decide)) (Nat.pow_pos (by decide))
  constructor
  · intro e; rw [h, e, Nat.mul_one]
  · intro e
    rw [e] at h
    have := Nat.eq_of_mul_eq_mul_left hp ((Nat.mul_one _).trans h)
    exact this.symm
theorem ten_over {n t f k : Nat} (ht : t ≤ k) (hf : f ≤ k) : n * 10 ^ k / (2 ^ t * 5 ^ f) = n * 5 ^ (k - f) * 2 ^ (k - t) := by
  have hp : 0 < 2 ^ t * 5 ^ f := Nat.mul_pos (Nat.pow_pos (by decide)) (Nat.pow_pos (by decide))
  have e : 10 ^ k = (2 ^ t * 5 ^ f) * (5 ^ (k - f) * 2 ^ (k - t)) := by
    have e2 : 2 ^ k = 2 ^ t * 2 ^ (k - t) := by rw [← Nat.pow_add]; congr 1; omega
    have e5 : 5 ^ k = 5 ^ f * 5 ^ (k - f) := by rw [← Nat.pow_add]; congr 1; omega
    rw [show 10 = 2 * 5 from rfl, Nat.mul_pow, e2, e5]
    simp only [Nat.mul_assoc, Nat.mul_comm, Nat.mul_left_comm]
  rw [e, Nat.mul_left_comm, Nat.mul_div_cancel_left _ hp, Nat.mul_assoc]
theorem ratvals {q : Rat} {k : Nat} (hk : max (vp 2 q.den) (vp 5 q.den) = k) : q.num.natAbs * 5 ^ (max (vp 2 q.den) (vp 5 q.den) - vp 5 q.den) * 2 ^ (max (vp 2 q.den) (vp 5 q.den) - vp 2 q.den) = q.num.natAbs * 5 ^ (k - vp 5 q.den) * 2 ^ (k - vp 2 q.den) := by rw [hk]
end Go.Proofs.YthnlcckmdklpaaaGreatDoor.Rf
namespace Go.Proofs.YthnlcckmdklpaaaGreatDoor
open Vx

theorem digC_of (m : Nat) : digC (UInt8.ofNat (48 + m % 10)) = true ∧ (UInt8.ofNat (48 + m % 10)).toNat = 48 + m % 10 := by
  have h : (UInt8.ofNat (48 + m % 10)).toNat = 48 + m % 10 := by
    rw [UInt8.toNat_ofNat']; exact Nat.mod_eq_of_lt (by omega)
  refine ⟨?_, h⟩
  unfold digC
  rw [h]
  exact decide_eq_true ⟨by omega, by omega⟩
theorem digs_all (k : Nat) : ∀ n, (digs k n).all digC = true := by
  induction k with
  | zero => intro n; rfl
  | succ k ih =>
    intro n
    rw [digs, List.all_append, ih, List.all_cons, (digC_of n).1]
    rfl
theorem digs_val (k : Nat) : ∀ n, n < 10 ^ k → valL (digs k n) = n := by
  induction k with
  | zero => intro n h; have : n = 0 := by simpa using h
            subst this; rfl
  | succ k ih =>
    intro n h
    rw [digs, valL_snoc, ih (n / 10) (by rw [Nat.pow_succ] at h; omega), (digC_of n).2]
    omega
theorem drop_val (l : List UInt8) : valL (dropZ l) = valL l := by
  induction l with
  | nil => rfl
  | cons c l ih =>
    unfold dropZ
    rw [List.dropWhile_cons]
    split
    · rename_i h
      have hc : c = 48 := by simpa using h
      subst hc
      have e : valL (48 :: l) = valL l := by
        show List.foldl _ _ l = _
        rfl
      rw [e]; exact ih
    · rfl
theorem drop_all {l : List UInt8} (h : l.all digC = true) : (dropZ l).all digC = true := by
  rw [List.all_eq_true] at *
  intro x hx
  exact h x (List.dropWhile_sublist _ |>.mem hx)
theorem drop_head {l : List UInt8} {c : UInt8} {m : List UInt8} (h : dropZ l = c :: m) : c ≠ 48 := by
  induction l with
  | nil => cases h
  | cons d l ih =>
    unfold dropZ at h
    rw [List.dropWhile_cons] at h
    split at h
    · exact ih h
    · rename_i hd
      injection h with h1 h2
      subst h1
      simpa using hd
theorem dec_all (n : Nat) : (dec n).all digC = true := by
  unfold dec
  split
  · rfl
  · exact drop_all (digs_all _ _)
theorem dec_val (n : Nat) : valL (dec n) = n := by
  have h := digs_val (20 * len n) n (lt_ten n)
  rw [← drop_val] at h
  unfold dec
  split
  · rename_i e
    rw [e] at h
    rw [← h]; rfl
  · exact h
theorem dec_ne (n : Nat) : dec n ≠ [] := by
  unfold dec
  split
  · intro h; cases h
  · assumption
theorem dec_whole (n : Nat) : wholeB (dec n) = true := by
  have h1 := dec_all n
  have h2 := dec_ne n
  unfold wholeB digB
  rw [h1]
  have h3 : (dec n).isEmpty = false := by simpa using h2
  rw [h3]
  simp only [Bool.not_false, Bool.and_self, Bool.true_and, Bool.or_eq_true]
  unfold dec
  split
  · right; rfl
  · left
    rename_i hne
    rcases hd : dropZ (digs (20 * len n) n) with _ | ⟨c, m⟩
    · exact absurd hd hne
    · have := drop_head hd
      simpa using this
theorem dec_zero {n : Nat} (h : dec n = [48]) : n = 0 := by
  have := dec_val n
  rw [h] at this
  exact this.symm
theorem dec_head {n : Nat} (h : n ≠ 0) : ∃ c m, dec n = c :: m ∧ c ≠ 48 := by
  unfold dec
  rcases hd : dropZ (digs (20 * len n) n) with _ | ⟨c, m⟩
  · exfalso
    have e := digs_val (20 * len n) n (lt_ten n)
    rw [← drop_val, hd] at e
    exact h e.symm
  · exact ⟨c, m, by simp, drop_head hd⟩
/-- a list of digits holds no other sign -/
theorem dig_not {l : List UInt8} (h : l.all digC = true) {c : UInt8} (hc : digC c = false) : c ∉ l := by
  intro hm
  rw [List.all_eq_true] at h
  rw [h c hm] at hc
  cases hc
theorem index_sep {a b : List UInt8} {c : UInt8} (h : c ∉ a) : Lib.index (a ++ c :: b) [c] = a.length := by
  induction a with
  | nil => simp [Lib.index, List.isPrefixOf]
  | cons x a ih =>
    have hx : ¬ c = x := fun e => h (by rw [e]; exact List.mem_cons_self)
    have ih2 := ih (fun hm => h (List.mem_cons_of_mem _ hm))
    rw [List.cons_append]
    unfold Lib.index
    rw [ih2]
    have e1 : ([c] : List UInt8).isPrefixOf (x :: (a ++ c :: b)) = false := by
      simp [List.isPrefixOf, hx]
    rw [e1]
    have e2 : ((a.length : Int) == -1) = false := by rw [beq_eq_false_iff_ne]; omega
    rw [e2]
    simp
theorem index_no {a : List UInt8} {c : UInt8} (h : c ∉ a) : Lib.index a [c] = -1 := by
  induction a with
  | nil => rfl
  | cons x a ih =>
    have hx : ¬ c = x := fun e => h (by rw [e]; exact List.mem_cons_self)
    have ih2 := ih (fun hm => h (List.mem_cons_of_mem _ hm))
    unfold Lib.index
    rw [ih2]
    have e1 : ([c] : List UInt8).isPrefixOf (x :: a) = false := by simp [List.isPrefixOf, hx]
    rw [e1]
    rfl
theorem cut_sep {a b : List UInt8} {c : UInt8} (h : c ∉ a) : Lib.cut (a ++ [c] ++ b) [c] = (a, b, true) := by
  have e : a ++ [c] ++ b = a ++ c :: b := by simp
  unfold Lib.cut
  rw [e, index_sep h, if_pos (by omega)]
  simp
theorem cut_no {a : List UInt8} {c : UInt8} (h : c ∉ a) : Lib.cut a [c] = (a, [], false) := by
  unfold Lib.cut
  rw [index_no h, if_neg (by omega)]
theorem prefix_neg (l : List UInt8) : Lib.hasPrefix ([45] ++ l) [45] = true ∧ Lib.trimPrefix ([45] ++ l) [45] = l := by
  have h : Lib.hasPrefix ([45] ++ l) [45] = true := by simp [Lib.hasPrefix, List.isPrefixOf]
  refine ⟨h, ?_⟩
  unfold Lib.trimPrefix
  rw [if_pos h]; rfl
theorem prefix_pos {l : List UInt8} {c : UInt8} {m : List UInt8} (h : l = c :: m) (hc : c ≠ 45) : Lib.hasPrefix l [45] = false ∧ Lib.trimPrefix l [45] = l := by
  have h1 : Lib.hasPrefix l [45] = false := by
    rw [h]
    have : ¬ (45 : UInt8) = c := fun e => hc e.symm
    simp [Lib.hasPrefix, List.isPrefixOf, this]
  refine ⟨h1, ?_⟩
  unfold Lib.trimPrefix
  rw [if_neg (by rw [h1]; decide)]
/-- the sign of a text, and what is behind it -/
theorem sign_text {neg : Bool} {t : List UInt8} {c : UInt8} {m : List UInt8} (h : t = c :: m) (hc : digC c = true) :
    Lib.hasPrefix ((if neg = true then [45] else []) ++ t) [45] = neg ∧ Lib.trimPrefix ((if neg = true then [45] else []) ++ t) [45] = t := by
  cases neg
  · have h45 : c ≠ 45 := by intro e; subst e; exact absurd hc (by decide)
    exact prefix_pos h h45
  · exact prefix_neg t
theorem all_head {l : List UInt8} {c : UInt8} {m : List UInt8} (h : l = c :: m) (ha : l.all digC = true) : digC c = true := by
  rw [h, List.all_cons, Bool.and_eq_true] at ha
  exact ha.1
theorem cons_of {l : List UInt8} (h : l ≠ []) : ∃ c m, l = c :: m := by
  rcases l with _ | ⟨c, m⟩
  · exact absurd rfl h
  · exact ⟨c, m, rfl⟩
theorem slash_dig : digC 47 = false := by decide
theorem point_dig : digC 46 = false := by decide
/-- a fraction's text -/
theorem parse_frac {neg : Bool} {a d : Nat} (hd : d ≠ 0) : parseL ((if neg = true then [45] else []) ++ (dec a ++ [47] ++ dec d)) = some (mkRat (sgn neg a) d) := by
  obtain ⟨c, m, e⟩ := cons_of (dec_ne a)
  obtain ⟨h1, h2⟩ := sign_text (neg := neg) (t := dec a ++ [47] ++ dec d) (c := c) (m := m ++ [47] ++ dec d) (by rw [e]; rfl) (all_head e (dec_all a))
  have h3 := cut_sep (a := dec a) (b := dec d) (dig_not (dec_all a) slash_dig)
  unfold parseL
  rw [h1, h2, h3, if_pos rfl, if_pos ⟨dec_whole a, dec_whole d, fun h => hd (dec_zero h)⟩, dec_val, dec_val]
/-- a whole number's text -/
theorem parse_whole {neg : Bool} {a : Nat} : parseL ((if neg = true then [45] else []) ++ dec a) = some (mkRat (sgn neg a) 1) := by
  obtain ⟨c, m, e⟩ := cons_of (dec_ne a)
  obtain ⟨h1, h2⟩ := sign_text (neg := neg) (t := dec a) e (all_head e (dec_all a))
  have h3 := cut_no (dig_not (dec_all a) slash_dig)
  have h4 := cut_no (dig_not (dec_all a) point_dig)
  unfold parseL
  rw [h1, h2, h3, if_neg (fun h => by cases h), h4, if_pos ⟨dec_whole a, fun h => by cases h⟩, List.append_nil, dec_val]
  rfl
theorem rep_val (n : Nat) (l : List UInt8) : valL (List.replicate n 48 ++ l) = valL l := by
  induction n with
  | zero => rfl
  | succ n ih =>
    rw [List.replicate_succ, List.cons_append]
    rw [← ih]
    rfl
/-- a text with a point -/
theorem parse_point {neg : Bool} {a p : Nat} (ha : a ≠ 0) (hp : p ≠ 0) : parseL ((if neg = true then [45] else []) ++ pointL (dec a) p) = some (mkRat (sgn neg a) (10 ^ p)) := by
  obtain ⟨l, el⟩ : ∃ l, List.replicate (p + 1 - (dec a).length) 48 ++ dec a = l := ⟨_, rfl⟩
  have hall : l.all digC = true := by
    rw [← el, List.all_append, dec_all, Bool.and_true, List.all_eq_true]
    intro x hx
    rw [List.eq_of_mem_replicate hx]; rfl
  have hlen : p + 1 ≤ l.length := by rw [← el, List.length_append, List.length_replicate]; omega
  have hval : valL l = a := by rw [← el, rep_val, dec_val]
  obtain ⟨A, eA⟩ : ∃ A, l.take (l.length - p) = A := ⟨_, rfl⟩
  obtain ⟨B, eB⟩ : ∃ B, l.drop (l.length - p) = B := ⟨_, rfl⟩
  have hAB : A ++ B = l := by rw [← eA, ← eB]; exact List.take_append_drop _ _
  have hA : A.all digC = true := by rw [← hAB, List.all_append, Bool.and_eq_true] at hall; exact hall.1
  have hB : B.all digC = true := by rw [← hAB, List.all_append, Bool.and_eq_true] at hall; exact hall.2
  have hBl : B.length = p := by rw [← eB, List.length_drop]; omega
  have hAl : A.length = l.length - p := by rw [← eA, List.length_take]; omega
  have hAne : A ≠ [] := by intro h; rw [h] at hAl; simp at hAl; omega
  have hBne : B ≠ [] := by intro h; rw [h] at hBl; simp at hBl; omega
  have hpl : pointL (dec a) p = A ++ [46] ++ B := by
    unfold pointL
    rw [if_neg hp, el, eA, eB]
  obtain ⟨c, m, e⟩ := cons_of hAne
  obtain ⟨h1, h2⟩ := sign_text (neg := neg) (t := A ++ [46] ++ B) (c := c) (m := m ++ [46] ++ B) (by rw [e]; rfl) (all_head e hA)
  have hno : (47 : UInt8) ∉ A ++ [46] ++ B := by
    intro hm
    rw [List.mem_append, List.mem_append] at hm
    rcases hm with (hm | hm) | hm
    · exact dig_not hA slash_dig hm
    · simp at hm
    · exact dig_not hB slash_dig hm
  have h3 := cut_no hno
  have h4 := cut_sep (a := A) (b := B) (dig_not hA point_dig)
  have hAw : wholeB A = true := by
    unfold wholeB digB
    have e3 : A.isEmpty = false := by simpa using hAne
    rw [hA, e3]
    simp only [Bool.not_false, Bool.and_self, Bool.true_and, Bool.or_eq_true]
    rcases Nat.lt_or_ge p (dec a).length with hlt | hge
    · left
      obtain ⟨c0, m0, e0, hc0⟩ := dec_head ha
      have el2 : l = dec a := by rw [← el, show p + 1 - (dec a).length = 0 by omega]; rfl
      have ec : c = c0 := by
        have : A ++ B = c0 :: m0 := by rw [hAB, el2, e0]
        rw [e, List.cons_append] at this
        injection this
      rw [e, ec]
      simpa using hc0
    · right
      have hl1 : l.length = p + 1 := by rw [← el, List.length_append, List.length_replicate]; omega
      have hA1 : A.length = 1 := by omega
      rw [e] at hA1 ⊢
      have hm0 : m = [] := by simpa using hA1
      subst hm0
      have ec : c = 48 := by
        have h0 : (A ++ B).head? = some c := by rw [e]; rfl
        rw [hAB, ← el] at h0
        obtain ⟨j, hj⟩ : ∃ j, p + 1 - (dec a).length = j + 1 := ⟨p - (dec a).length, by omega⟩
        rw [hj, List.replicate_succ] at h0
        simpa using h0.symm
      rw [ec]; rfl
  have hBd : digB B = true := by
    unfold digB
    have e3 : B.isEmpty = false := by simpa using hBne
    rw [hB, e3]; rfl
  unfold parseL
  rw [hpl, h1, h2, h3, if_neg (fun h => by cases h), h4, if_pos ⟨hAw, fun _ => hBd⟩, hAB, hval, hBl]
theorem dec_len_le {n k : Nat} (h : n < 10 ^ k) (hk : 0 < k) : (dec n).length ≤ k := by
  rw [dec_of h]
  split
  · show 1 ≤ k
    omega
  · have := List.Sublist.length_le (List.dropWhile_sublist (l := digs k n) (fun c => c == 48))
    rw [digs_len] at this
    exact this
theorem neg_if (q : Rat) : (if q.num < 0 then ([45] : List UInt8) else []) = if decide (q.num < 0) = true then [45] else [] := by
  rcases Decidable.em (q.num < 0) with h | h
  · rw [if_pos h, if_pos (decide_eq_true h)]
  · rw [if_neg h, if_neg (by rw [decide_eq_false h]; decide)]
theorem vp_pow {t f : Nat} : vp 2 (2 ^ t * 5 ^ f) = t ∧ vp 5 (2 ^ t * 5 ^ f) = f := by
  have h5 : 5 ^ f % 2 ≠ 0 := by
    have : ∀ f : Nat, 5 ^ f % 2 = 1 := by
      intro f
      induction f with
      | zero => rfl
      | succ f ih => rw [Nat.pow_succ]; omega
    rw [this]; omega
  constructor
  · rw [Nat.mul_comm]; exact vp_of (by omega) h5
  · have h := two_mod_five t
    exact vp_of (by omega) (by omega)
/-- THE TEXT OF A NUMBER HAS IT AS ITS VALUE. -/
theorem parse_text (q : Rat) : parseL (textQ q) = some q := by
  unfold textQ
  rw [neg_if]
  have hden : q.den ≠ 0 := Nat.ne_of_gt q.den_pos
  rcases Decidable.em (q.den = 2 ^ vp 2 q.den * 5 ^ vp 5 q.den) with h | h
  · rw [if_pos h]
    obtain ⟨t, ht⟩ : ∃ t, vp 2 q.den = t := ⟨_, rfl⟩
    obtain ⟨f, hf⟩ : ∃ f, vp 5 q.den = f := ⟨_, rfl⟩
    rw [ht, hf] at h ⊢
    obtain ⟨p, hp⟩ : ∃ p, max t f = p := ⟨_, rfl⟩
    rw [hp]
    have hpt : t ≤ p := by omega
    have hpf : f ≤ p := by omega
    rcases Nat.eq_zero_or_pos p with h0 | h0
    · have ht0 : t = 0 := by omega
      have hf0 : f = 0 := by omega
      subst h0 ht0 hf0
      have hd1 : q.den = 1 := by rw [h]
      have e : q.num.natAbs * 5 ^ (0 - 0) * 2 ^ (0 - 0) = q.num.natAbs := by simp
      rw [e]
      have e2 : pointL (dec q.num.natAbs) 0 = dec q.num.natAbs := if_pos rfl
      rw [e2, parse_whole, sgn_self]
      congr 1
      have := Rat.mkRat_self q
      rw [hd1] at this
      exact this
    · have hn0 : q.num.natAbs ≠ 0 := by
        intro hz
        have hnum : q.num = 0 := Int.natAbs_eq_zero.1 hz
        have hq0 : q = 0 := Rat.num_eq_zero.1 hnum
        rw [hq0] at h
        have h1 : (0 : Rat).den = 1 := rfl
        rw [h1] at h
        have i1 : 0 < 2 ^ t := Nat.pow_pos (by omega)
        have i2 : 0 < 5 ^ f := Nat.pow_pos (by omega)
        rcases Nat.eq_zero_or_pos t with k | k
        · have kf : 0 < f := by omega
          obtain ⟨j, rfl⟩ : ∃ j, f = j + 1 := ⟨f - 1, by omega⟩
          have : 1 ≤ 5 ^ j := Nat.pow_pos (by omega)
          rw [Nat.pow_succ] at h
          have : 2 ^ t * (5 ^ j * 5) ≥ 1 * (1 * 5) := Nat.mul_le_mul i1 (Nat.mul_le_mul this (Nat.le_refl 5))
          omega
        · obtain ⟨j, rfl⟩ : ∃ j, t = j + 1 := ⟨t - 1, by omega⟩
          have : 1 ≤ 2 ^ j := Nat.pow_pos (by omega)
          rw [Nat.pow_succ] at h
          have : 2 ^ j * 2 * 5 ^ f ≥ 1 * 2 * 1 := Nat.mul_le_mul (Nat.mul_le_mul this (Nat.le_refl 2)) i2
          omega
      have hm0 : q.num.natAbs * 5 ^ (p - f) * 2 ^ (p - t) ≠ 0 := Nat.mul_ne_zero (Nat.mul_ne_zero hn0 (Nat.ne_of_gt (Nat.pow_pos (by omega)))) (Nat.ne_of_gt (Nat.pow_pos (by omega)))
      rw [parse_point hm0 (by omega)]
      congr 1
      have e10 : 10 ^ p = q.den * (5 ^ (p - f) * 2 ^ (p - t)) := by
        have i1 : 2 ^ p = 2 ^ t * 2 ^ (p - t) := by rw [← Nat.pow_add]; congr 1; omega
        have i2 : 5 ^ p = 5 ^ f * 5 ^ (p - f) := by rw [← Nat.pow_add]; congr 1; omega
        rw [show (10 : Nat) = 2 * 5 by rfl, Nat.mul_pow, i1, i2, h]
        simp only [Nat.mul_assoc, Nat.mul_comm, Nat.mul_left_comm]
      have es : sgn (decide (q.num < 0)) (q.num.natAbs * 5 ^ (p - f) * 2 ^ (p - t)) = q.num * ((5 ^ (p - f) * 2 ^ (p - t) : Nat) : Int) := by
        have e1 := sgn_self q.num
        rw [Nat.mul_assoc]
        unfold sgn at e1 ⊢
        split
        · rename_i hd
          rw [if_pos hd] at e1
          rw [Int.natCast_mul, ← Int.neg_mul, e1]
        · rename_i hd
          rw [if_neg hd] at e1
          rw [Int.natCast_mul, e1]
      rw [es, e10]
      rw [Rat.mkRat_mul_right (Nat.ne_of_gt (Nat.mul_pos (Nat.pow_pos (by omega)) (Nat.pow_pos (by omega))))]
      exact Rat.mkRat_self q
  · rw [if_neg h, parse_frac hden, sgn_self]
    congr 1
    exact Rat.mkRat_self q
end Go.Proofs.YthnlcckmdklpaaaGreatDoor
