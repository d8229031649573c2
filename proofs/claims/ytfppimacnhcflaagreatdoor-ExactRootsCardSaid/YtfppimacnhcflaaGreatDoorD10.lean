/-
  Contracts of the functions that the law calls, for every input (Steps3).
-/
import Derived.Test.YtfppimacnhcflaaGreatDoorD00
import Derived.Test.YtfppimacnhcflaaGreatDoorD09
set_option linter.all false
set_option maxRecDepth 100000
set_option maxHeartbeats 40000000
namespace Go.Proofs.YtfppimacnhcflaaGreatDoor
open Lib (hid)
open Go.RowKit
open Vx
theorem tops_f {b s n : Nat} (hl : len b + 1 < n) : 0 = b / (W ^ (n - 2) * 2 ^ (64 - s)) := by
  symm
  apply Nat.div_eq_of_lt
  refine Nat.lt_of_lt_of_le (lt_len b) (Nat.le_trans (Nat.pow_le_pow_right W_pos (show len b ≤ n - 2 by omega)) (Nat.le_mul_of_pos_right _ (Nat.two_pow_pos _)))
theorem stepsOf_far {w : World} {a b : Nat} {va vb : Value} (ha : Nt w va a) (hb : Nt w vb b) (hs : len a ≤ 1099511627776) (hba : b ≤ a) (hl2 : 2 ≤ len b) (hl : len b + 1 < len a) :
    Calls Tryz.prog 151 #[va, vb] w (StepsRet w a b) := by
  obtain ⟨A, ca, ea, hca, hca2, _, hp⟩ := id ha
  obtain ⟨A', cb, eb, hcb, hcb2, _, hp'⟩ := id hb
  obtain ⟨g, o, rfl, hg, hcell⟩ := hp (len_pos.1 (by omega))
  obtain ⟨g', o', rfl, hg', hcell'⟩ := hp' (len_pos.1 (by omega))
  subst ea
  subst eb
  have c1 := hcell (len a - 1) (by omega)
  have c2 := hcell (len a - 2) (by omega)
  have hlz := lz64_any (word a (len a - 1)) (word_lt _ _)
  obtain ⟨s, hsd⟩ : ∃ s, s = 64 - bitlen (word a (len a - 1)) := ⟨_, rfl⟩
  rw [← hsd] at hlz
  have hs63 : s ≤ 63 := (norm (len_pos.1 (by omega)) hsd).1
  have hs64 : (s : Int) ≤ 63 := by omega
  have HL := hid hl
  have e1 : (((len b : Nat) : Int) == ((len a : Nat) : Int)) = false := by rw [beq_eq_false_iff_ne]; omega
  have e3 : (((len b : Nat) : Int) == ((len a : Nat) : Int) - 1) = false := by rw [beq_eq_false_iff_ne]; omega
  have HS := hid hsd
  clear hl hsd hcell hcell' hp hp'
  have hl1 : 2 ≤ len a := by have := HL.out; omega
  go_enter Tryz.func151, Tryz.ntmps151
  go_wp2_with fail
  refine (hlz _).mono ?_
  rintro e w' ⟨rfl, rfl⟩
  have hx1 := word_lt a (len a - 1)
  have hx2 := word_lt a (len a - 2)
  have i1 : (2 : Int) ≤ ((len a : Nat) : Int) := by omega
  have TA := hid (tops_a (a := a) hl1 HS.out)
  have TB := hid (tops_f (b := b) (s := s) (n := len a) HL.out)
  generalize word a (len a - 1) = x1 at *
  generalize word a (len a - 2) = x2 at *
  have T1 := hid (top_word (h := x1) (l := x2) hs63 TA.out.1 hx2)
  go_wp2_with fail
  go_quiet (fail)
  rw [T1.out]
  generalize hT : (x1 * W + x2) / 2 ^ (64 - s) = T at *
  go_wp2_with fail
  obtain ⟨N, hN⟩ : ∃ N : Nat, N = 0 := ⟨_, rfl⟩
  have hTa : T = a / (W ^ (len a - 2) * 2 ^ (64 - s)) := TA.out.2
  have hNb : N = b / (W ^ (len a - 2) * 2 ^ (64 - s)) := by rw [hN]; exact TB.out
  have HT := hid hTa; have HN := hid hNb
  have hNT : N ≤ T := by rw [hTa, hNb]; exact Nat.div_le_div_right hba
  have hTW : T < 18446744073709551616 := by
    rw [← hT, Nat.div_lt_iff_lt_mul (Nat.two_pow_pos _)]
    have h1 := TA.out.1
    have h3 : W = 2 ^ s * 2 ^ (64 - s) := two_W (by omega)
    have h4 : x1 + 1 ≤ 2 ^ (64 - s) := by
      apply Nat.lt_of_mul_lt_mul_right (a := 2 ^ s)
      rw [Nat.mul_comm (2 ^ (64 - s)), ← h3]; exact h1
    have h5 := Nat.mul_le_mul_left W h4
    rw [Nat.mul_add, Nat.mul_one, Nat.mul_comm W x1] at h5
    have h6 : W * 2 ^ (64 - s) = 18446744073709551616 * 2 ^ (64 - s) := rfl
    omega
  have HN0 := hid hN
  clear hT hN hTa hNb TA TB T1 c1 c2 hx1 hx2
  go_loopw [7, 8, 10, 11] (fun tv nv av bv wr => ∃ top next a2 b2 : Nat, tv = .int .u64 top ∧ nv = .int .u64 next ∧ av = .int .u64 a2 ∧ bv = .int .u64 b2 ∧ top < 18446744073709551616 ∧ next ≤ top ∧ a2 < 18446744073709551616 ∧ b2 < 18446744073709551616 ∧ StepsRel w (w.heap.size + 1) a b T N top next a2 b2 wr) (fun _ nv _ _ _ => (intOf nv).toNat)
  case atStart => exact ⟨T, N, 0, 1, rfl, by rw [HN0.out]; rfl, rfl, rfl, hTW, hNT, by omega, by omega, steps_start _ _ _ _ _ _ hNT⟩
  case round =>
    obtain ⟨top, next, a2, b2, rfl, rfl, rfl, rfl, htop, hnt, ha2, hb2, a0, a1, b0, b1, ev, hbw, ha0', ha1', hb0', hb1', ⟨r0, r1, r2, r3, r4, hres⟩, hst, HI, HO⟩ := hrel
    rw [Nat.add_sub_cancel] at hres
    have k0 : wr.cell? ⟨w.heap.size + 1, 0, none⟩ = some (.int .u64 (a0 : Nat)) := cell_of_row wr _ 0 _ _ _ hst
    have k1 : wr.cell? ⟨w.heap.size + 1, 1, none⟩ = some (.int .u64 (a1 : Nat)) := cell_of_row wr _ 1 _ _ _ hst
    have k2 : wr.cell? ⟨w.heap.size + 1, 2, none⟩ = some (.int .u64 (b0 : Nat)) := cell_of_row wr _ 2 _ _ _ hst
    have k3 : wr.cell? ⟨w.heap.size + 1, 3, none⟩ = some (.int .u64 (b1 : Nat)) := cell_of_row wr _ 3 _ _ _ hst
    have k4 : wr.cell? ⟨w.heap.size + 1, 4, none⟩ = some (.bool ev) := cell_of_row wr _ 4 _ _ _ hst
    have m0 : wr.cell? ⟨w.heap.size, 0, none⟩ = some r0 := cell_of_row wr _ 0 _ _ _ hres
    have m1 : wr.cell? ⟨w.heap.size, 1, none⟩ = some r1 := cell_of_row wr _ 1 _ _ _ hres
    have m2 : wr.cell? ⟨w.heap.size, 2, none⟩ = some r2 := cell_of_row wr _ 2 _ _ _ hres
    have m3 : wr.cell? ⟨w.heap.size, 3, none⟩ = some r3 := cell_of_row wr _ 3 _ _ _ hres
    have m4 : wr.cell? ⟨w.heap.size, 4, none⟩ = some r4 := cell_of_row wr _ 4 _ _ _ hres
    have f0 := fun j => frozen_of_row wr _ j _ _ hst
    have f1 := fun j => frozen_of_row wr _ j _ _ hres
    have HH := hid hst
    have HRS := hid hres
    clear hst hres
    by_cases hc1 : b2 ≤ next
    · have hTs := leh_T HI.out
      have hb21 : 1 ≤ b2 := HI.out.2.2.2.1
      have hbb : b1 + b2 < 18446744073709551616 := by
        have g1 := Nat.le_mul_of_pos_right b2 (show 0 < top by omega)
        have g2 := Nat.le_mul_of_pos_right b1 (show 0 < next by omega)
        omega
      by_cases hc2 : b1 + b2 + next ≤ top
      · have hn1 : 0 < next := by omega
        have hnew := leh_step HI.out hn1
        have hT2 := leh_T hnew
        have hord := hnew.2.1
        obtain ⟨q, hq⟩ : ∃ q, q = top / next := ⟨_, rfl⟩
        obtain ⟨r, hr⟩ : ∃ r, r = top % next := ⟨_, rfl⟩
        rw [← hq, ← hr] at hnew hT2
        rw [← hq] at hord
        have hqi : ((top : Nat) : Int) / ((next : Nat) : Int) = ((q : Nat) : Int) := by rw [hq]; exact (Int.natCast_ediv _ _).symm
        have hri : ((top : Nat) : Int) % ((next : Nat) : Int) = ((r : Nat) : Int) := by rw [hr]; exact (Int.natCast_emod _ _).symm
        have hq64 : q < 18446744073709551616 := by rw [hq]; exact Nat.lt_of_le_of_lt (Nat.div_le_self _ _) htop
        have hrn : r < next := by rw [hr]; exact Nat.mod_lt _ hn1
        obtain ⟨p, hp⟩ : ∃ p, p = q * a2 := ⟨_, rfl⟩
        obtain ⟨pb, hpb⟩ : ∃ pb, pb = q * b2 := ⟨_, rfl⟩
        have hpi : ((q : Nat) : Int) * ((a2 : Nat) : Int) = ((p : Nat) : Int) := by rw [hp]; exact (Int.natCast_mul _ _).symm
        have hpbi : ((q : Nat) : Int) * ((b2 : Nat) : Int) = ((pb : Nat) : Int) := by rw [hpb]; exact (Int.natCast_mul _ _).symm
        rw [← hp, ← hpb] at hnew hord
        rw [← hpb] at hT2
        have hbn : b1 + pb < 18446744073709551616 := by
          have g1 := Nat.le_mul_of_pos_right (b1 + pb) hn1
          omega
        have han : a1 + p < 18446744073709551616 := by omega
        have HNW := hid hnew
        have hne0 : ((next : Nat) : Int) ≠ 0 := by omega
        have hc2i : ((b1 : Nat) : Int) + ((b2 : Nat) : Int) ≤ ((top : Nat) : Int) - ((next : Nat) : Int) := by omega
        clear hTs hnew hT2 hq hr hp hpb
        have hp64 : p < 18446744073709551616 := by omega
        have hpb64 : pb < 18446744073709551616 := by omega
        go_wp2_with fail
        go_quiet (fail)
        go_wp2_with fail
        go_roundw
        case rel =>
          have hok : b1 = 0 ∨ StepOk a b a1 a2 b1 b2 (!ev) := by
            rcases Nat.eq_zero_or_pos b1 with h0 | h0
            · exact .inl h0
            · exact .inr (leh_ok (K := (W ^ (len a - 2) * 2 ^ (64 - s))) (la := a % (W ^ (len a - 2) * 2 ^ (64 - s))) (lb := b % (W ^ (len a - 2) * 2 ^ (64 - s))) HI.out (by rw [HT.out, Nat.mul_comm]; exact (Nat.div_add_mod _ _).symm) (by rw [HN.out, Nat.mul_comm]; exact (Nat.div_add_mod _ _).symm) (Nat.le_of_lt (Nat.mod_lt _ (Nat.mul_pos (Wn_pos _) (Nat.two_pow_pos _)))) (Nat.le_of_lt (Nat.mod_lt _ (Nat.mul_pos (Wn_pos _) (Nat.two_pow_pos _)))) hc1 hc2 h0)
          exact ⟨next, r, a1 + p, b1 + pb, rfl, by rw [hri], by go_num, by go_num, by omega, by omega, han, hbn, steps_next hbw HRS.out HH.out ha1' ha2 hb1' hb2 HNW.out hok⟩
        case measure => simp only [intOf]; rw [hri]; simpa using hrn
      · have hc2i : ¬ ((b1 : Nat) : Int) + ((b2 : Nat) : Int) ≤ ((top : Nat) : Int) - ((next : Nat) : Int) := by omega
        clear hTs
        go_wp2_with fail
        refine bodyPost_ret (v := .agg #[.int .u64 (a0 : Nat), .int .u64 (a1 : Nat), .int .u64 (b0 : Nat), .int .u64 (b1 : Nat), .bool ev]) ?_ rfl ?_
        · simp [results, Tryz.results151, go_sem, *]
        · exact ⟨a0, a1, b0, b1, ev, rfl, ha0', ha1', hb0', hb1', HO.out, ((((hbw.setCell (Nat.le_refl _) _).setCell (Nat.le_refl _) _).setCell (Nat.le_refl _) _).setCell (Nat.le_refl _) _).setCell (Nat.le_refl _) _⟩
    · go_wp2_with fail
      refine bodyPost_ret (v := .agg #[.int .u64 (a0 : Nat), .int .u64 (a1 : Nat), .int .u64 (b0 : Nat), .int .u64 (b1 : Nat), .bool ev]) ?_ rfl ?_
      · simp [results, Tryz.results151, go_sem, *]
      · exact ⟨a0, a1, b0, b1, ev, rfl, ha0', ha1', hb0', hb1', HO.out, ((((hbw.setCell (Nat.le_refl _) _).setCell (Nat.le_refl _) _).setCell (Nat.le_refl _) _).setCell (Nat.le_refl _) _).setCell (Nat.le_refl _) _⟩
theorem stepsOf_any {w : World} {a b : Nat} {va vb : Value} (ha : Nt w va a) (hb : Nt w vb b) (hs : len a ≤ 1099511627776) (hba : b ≤ a) (hl2 : 2 ≤ len b) :
    Calls Tryz.prog 151 #[va, vb] w (StepsRet w a b) := by
  have := len_mono hba
  rcases Nat.lt_trichotomy (len b + 1) (len a) with h | h | h
  · exact stepsOf_far ha hb hs hba hl2 h
  · exact stepsOf_next ha hb hs hba hl2 h
  · exact stepsOf_same ha hb hs hba hl2 (by omega)
end Go.Proofs.YtfppimacnhcflaaGreatDoor
