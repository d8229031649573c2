/-
  Contracts of the functions that the law calls, for every input (HoF LawD).
-/
import Derived.Test.YtlffafddmmhbmaaGreatDoorH30
import Derived.Test.YtlffafddmmhbmaaGreatDoorH33
import Derived.Test.YtlffafddmmhbmaaGreatDoorH27
import Derived.Test.YtlffafddmmhbmaaGreatDoorH14
set_option linter.all false
namespace Go.Proofs.YtlffafddmmhbmaaGreatDoor
open Vx

theorem pow_le {x y : Rat} (n : Nat) (h : 0 ≤ x) (h2 : x ≤ y) : x ^ n ≤ y ^ n := by
  induction n with
  | zero => rw [Rat.pow_zero, Rat.pow_zero]; exact Rat.le_refl
  | succ n ih =>
    rw [Rat.pow_succ, Rat.pow_succ]
    have i1 := Rat.mul_le_mul_of_nonneg_right ih h
    have i2 := Rat.mul_le_mul_of_nonneg_left h2 (Rat.pow_nonneg (n := n) (Rat.le_trans h h2))
    exact Rat.le_trans i1 i2
theorem neg_pow (x : Rat) (n : Nat) : (-x) ^ n = if n % 2 = 0 then x ^ n else -(x ^ n) := by
  induction n with
  | zero => rw [Rat.pow_zero, Rat.pow_zero]; rfl
  | succ n ih =>
    rw [Rat.pow_succ, Rat.pow_succ, ih]
    rcases Nat.mod_two_eq_zero_or_one n with h | h
    · rw [if_pos h, if_neg (by omega), Rat.mul_neg]
    · rw [if_neg (by omega), if_pos (by omega), Rat.neg_mul, Rat.mul_neg, Rat.neg_neg]
theorem abs_pow {x : Rat} {n : Nat} (h : n % 2 = 0) : x.abs ^ n = x ^ n := by
  rcases abs_two x with ⟨-, e⟩ | ⟨-, e⟩ <;> rw [e]
  rw [neg_pow, if_pos h]
theorem pow_odd {x y : Rat} {n : Nat} (hn : n % 2 ≠ 0) (h : x ≤ y) : x ^ n ≤ y ^ n := by
  rcases Decidable.em (0 ≤ x) with hx | hx
  · exact pow_le n hx h
  · rcases Decidable.em (0 ≤ y) with hy | hy
    · have i1 := Rat.pow_nonneg (n := n) hy
      have i2 := Rat.pow_nonneg (n := n) (show 0 ≤ -x by grind)
      rw [neg_pow, if_neg hn] at i2
      grind
    · have i1 := pow_le n (show 0 ≤ -y by grind) (show -y ≤ -x by grind)
      rw [neg_pow, neg_pow, if_neg hn, if_neg hn] at i1
      grind
theorem absLo_nonneg {a b : Rat} (h : a ≤ b) : 0 ≤ absLo a b := by rw [absLo_is h]; grind
/-- a power lies in the box of powers -/
theorem pow_in {a b x : Rat} {n : Nat} (hab : a ≤ b) (h1 : a ≤ x) (h2 : x ≤ b) : (if n % 2 = 0 then absLo a b else a) ^ n ≤ x ^ n ∧ x ^ n ≤ (if n % 2 = 0 then absHi a b else b) ^ n := by
  rcases Decidable.em (n % 2 = 0) with h | h
  · rw [if_pos h, if_pos h]
    obtain ⟨i1, i2⟩ := abs_in hab h1 h2
    have i0 := absLo_nonneg hab
    have e := abs_pow (x := x) h
    rw [← e]
    exact ⟨pow_le n i0 i1, pow_le n (Rat.le_trans i0 i1) i2⟩
  · rw [if_neg h, if_neg h]
    exact ⟨pow_odd h h1, pow_odd h h2⟩
/-- its ends are powers of ends, or of 0 -/
theorem pow_ends {a b : Rat} {n : Nat} (hab : a ≤ b) :
    ((if n % 2 = 0 then absLo a b else a) ^ n = a ^ n ∨ (if n % 2 = 0 then absLo a b else a) ^ n = b ^ n ∨ ((a ≤ 0 ∧ 0 ≤ b) ∧ (if n % 2 = 0 then absLo a b else a) ^ n = 0 ^ n)) ∧
    ((if n % 2 = 0 then absHi a b else b) ^ n = a ^ n ∨ (if n % 2 = 0 then absHi a b else b) ^ n = b ^ n) := by
  rcases Decidable.em (n % 2 = 0) with h | h
  · rw [if_pos h, if_pos h, absLo_is hab, absHi_is hab]
    have ea : (-a) ^ n = a ^ n := by rw [neg_pow, if_pos h]
    have eb : (-b) ^ n = b ^ n := by rw [neg_pow, if_pos h]
    constructor
    · split
      · rename_i h0; exact Or.inr (Or.inr ⟨h0, rfl⟩)
      · split
        · exact Or.inl rfl
        · exact Or.inr (Or.inl eb)
    · split
      · exact Or.inr rfl
      · exact Or.inl ea
  · rw [if_neg h, if_neg h]
    exact ⟨Or.inl rfl, Or.inr rfl⟩
theorem any_least (z0 z1 z2 z3 : Rat) : anyEq [z0, z1, z2, z3] (leastOf z0 [z2, z1, z3]) = true := by
  unfold anyEq
  rw [List.any_eq_true]
  rcases leastOf_mem [z2, z1, z3] z0 with e | e
  · exact ⟨z0, by simp, decide_eq_true e.symm⟩
  · simp only [List.mem_cons, List.not_mem_nil, or_false] at e
    rcases e with e | e | e
    · exact ⟨z2, by simp, decide_eq_true e.symm⟩
    · exact ⟨z1, by simp, decide_eq_true e.symm⟩
    · exact ⟨z3, by simp, decide_eq_true e.symm⟩
theorem any_greatest (z0 z1 z2 z3 : Rat) : anyEq [z0, z1, z2, z3] (greatestOf z0 [z2, z1, z3]) = true := by
  unfold anyEq
  rw [List.any_eq_true]
  rcases greatestOf_mem [z2, z1, z3] z0 with e | e
  · exact ⟨z0, by simp, decide_eq_true e.symm⟩
  · simp only [List.mem_cons, List.not_mem_nil, or_false] at e
    rcases e with e | e | e
    · exact ⟨z2, by simp, decide_eq_true e.symm⟩
    · exact ⟨z1, by simp, decide_eq_true e.symm⟩
    · exact ⟨z3, by simp, decide_eq_true e.symm⟩
end Go.Proofs.YtlffafddmmhbmaaGreatDoor
namespace Go.Proofs.YtlffafddmmhbmaaGreatDoor
open Go.RowKit
open Vx

set_option maxRecDepth 100000 in
set_option maxHeartbeats 2000000 in
theorem overf_any {w : World} {vx vy : Value} {x y : Rat} (hx : IsNum w vx x) (hy : IsNum w vy y) (hs : siz x ≤ 34359738368) (ht : siz y ≤ 34359738368) :
    Calls Tryz.prog 43 #[vx, vy] w (NumRet w (x / y)) := by
  obtain ⟨A1, c1, A2, c2, rfl, -, -⟩ := id hx.opened
  obtain ⟨A3, c3, A4, c4, rfl, -, -⟩ := id hy.opened
  obtain ⟨wB, hwB⟩ : ∃ u, u = ((w.alloc (.cells #[.bool (decide (x.num < 0)), .slice A1 (len x.num.natAbs) c1, .slice A2 (len (below x.den)) c2] 27)).alloc (.cells #[.bool (decide (y.num < 0)), .slice A3 (len y.num.natAbs) c3, .slice A4 (len (below y.den)) c4] 27)).alloc (.cells #[.bool false, .slice none 0 0, .slice none 0 0] 27) := ⟨_, rfl⟩
  obtain ⟨b0, g0, g1, g2⟩ := news3 w (.cells #[.bool (decide (x.num < 0)), .slice A1 (len x.num.natAbs) c1, .slice A2 (len (below x.den)) c2] 27) (.cells #[.bool (decide (y.num < 0)), .slice A3 (len y.num.natAbs) c3, .slice A4 (len (below y.den)) c4] 27) (.cells #[.bool false, .slice none 0 0, .slice none 0 0] 27)
  rw [← hwB] at b0 g0 g1 g2
  have k0 : wB.cell? ⟨w.heap.size, 0, none⟩ = some (.bool (decide (x.num < 0))) := cell_of_row _ _ _ _ _ _ g0
  have k1 : wB.cell? ⟨w.heap.size, 1, none⟩ = some (.slice A1 (len x.num.natAbs) c1) := cell_of_row _ _ _ _ _ _ g0
  have k2 : wB.cell? ⟨w.heap.size, 2, none⟩ = some (.slice A2 (len (below x.den)) c2) := cell_of_row _ _ _ _ _ _ g0
  have k3 : wB.cell? ⟨w.heap.size + 1, 0, none⟩ = some (.bool (decide (y.num < 0))) := cell_of_row _ _ _ _ _ _ g1
  have k4 : wB.cell? ⟨w.heap.size + 1, 1, none⟩ = some (.slice A3 (len y.num.natAbs) c3) := cell_of_row _ _ _ _ _ _ g1
  have k5 : wB.cell? ⟨w.heap.size + 1, 2, none⟩ = some (.slice A4 (len (below y.den)) c4) := cell_of_row _ _ _ _ _ _ g1
  have HK0 := Lib.hid (Kept.start (T := 27) rfl (plain3 _ _ _ _ _ _ _) g2)
  have HB0 := Lib.hid b0
  have hlt1 : w.heap.size < w.heap.size + 2 := by omega
  have hlt2 : w.heap.size + 1 < w.heap.size + 2 := by omega
  clear g0 g1 g2 b0
  obtain ⟨q, hq⟩ : ∃ q : Rat, q = x / y := ⟨_, rfl⟩
  obtain ⟨cc, hcc⟩ : ∃ cc : Int, cc = if y = 0 then 10 else 0 := ⟨_, rfl⟩
  have HX := Lib.hid (numDiv_any (hx.keep HB0.out) (hy.keep HB0.out) hs ht)
  rw [← hq, ← hcc] at HX
  rw [← hq]
  clear hq hcc hx hy hs ht
  go_enter Tryz.func43, Tryz.ntmps43
  go_upto_region 1 with fail
  rw [← hwB]
  clear hwB
  go_wp2_with fail
  refine (HX.out).mono ?_
  rintro e w2 ⟨v2, rfl, hv2, b2⟩
  obtain ⟨B1, e1, B2, e2, rfl, -, -⟩ := hv2.opened
  have HK2 := Lib.hid (HK0.out.call b2)
  go_upto_region 2 with fail
  obtain ⟨w3, hw3⟩ : ∃ u, u = w2.alloc (.cells #[.bool (decide (q.num < 0)), .slice B1 (len q.num.natAbs) e1, .slice B2 (len (below q.den)) e2] 27) := ⟨_, rfl⟩
  have b3 : Below w2.heap.size w2 w3 := by rw [hw3]; exact (Below.refl _ _).alloc (Nat.le_refl _) _
  have g3 : w3.heap[w2.heap.size]? = some (.cells #[.bool (decide (q.num < 0)), .slice B1 (len q.num.natAbs) e1, .slice B2 (len (below q.den)) e2] 27 (0, 0)) := by rw [hw3]; exact heap_alloc_new w2 _
  have p0 : w3.cell? ⟨w2.heap.size, 0, none⟩ = some (.bool (decide (q.num < 0))) := cell_of_row _ _ _ _ _ _ g3
  have p1 : w3.cell? ⟨w2.heap.size, 1, none⟩ = some (.slice B1 (len q.num.natAbs) e1) := cell_of_row _ _ _ _ _ _ g3
  have p2 : w3.cell? ⟨w2.heap.size, 2, none⟩ = some (.slice B2 (len (below q.den)) e2) := cell_of_row _ _ _ _ _ _ g3
  have hk := (HK2.out.call b3).held (Stay.refl _)
  have hv3 := hv2.keep b3
  rw [← hw3]
  clear hw3 g3 b3 b2 HX
  obtain ⟨-, c0, c1', c2', f0, f1, f2, -⟩ := id hk
  have HD := hk.done (q := q) (b := decide (q.num < 0)) (A1 := B1) (n1 := len q.num.natAbs) (c1 := e1) (A2 := B2) (n2 := len (below q.den)) (c2 := e2) (hv3)
  obtain ⟨d1, d2, d3⟩ := HD
  have r0 := cell_of_row _ _ 0 _ _ _ d3
  have r1 := cell_of_row _ _ 1 _ _ _ d3
  have r2 := cell_of_row _ _ 2 _ _ _ d3
  simp only [List.getElem?_toArray, List.getElem?_cons_zero, List.getElem?_cons_succ] at r0 r1 r2
  have HD := Lib.hid (And.intro d1 d2)
  clear d1 d2 d3
  go_wp2_with fail
  refine bodyPost_ret (v := .agg #[.bool (decide (q.num < 0)), .slice (B1) (len q.num.natAbs) (e1), .slice (B2) (len (below q.den)) (e2)]) ?_ rfl ⟨_, rfl, HD.out.1, below_to HB0.out (by omega) HD.out.2⟩
  simp [results, Tryz.results43, go_sem, r0, r1, r2]
end Go.Proofs.YtlffafddmmhbmaaGreatDoor
