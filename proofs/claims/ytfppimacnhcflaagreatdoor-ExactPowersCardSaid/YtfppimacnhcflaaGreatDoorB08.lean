/-
  Contracts of the functions that the law calls, for every input (Add).
-/
import Derived.Test.YtfppimacnhcflaaGreatDoorB07
set_option linter.all false
namespace Go.Proofs.YtfppimacnhcflaaGreatDoor
open Go.RowKit
open Vx

/-- make and copy: a row of n words that holds the number -/
theorem mkCopy {w : World} {A : Option Addr} {c x : Nat} (n : Nat) (h : Nt w (.slice A (len x) c) x) (hn : len x ≤ n) :
    ∃ w2 cs, (∀ ty, (Builtin.copy_ #[23, 23] ty #[.slice (some ⟨w.heap.size, 0, none⟩) n n, .slice A (len x) c]).run Tryz.prog (mk w n) = .ok (goInt (len x)) w2) ∧
      Row w2 w.heap.size cs ∧ Hid (cs.length = n) ∧ Hid (seg cs 0 n = x) ∧ Below w.heap.size w w2 ∧ w.heap.size < w2.heap.size := by
  have hb := (IsNat.reads h).mono (mk_below w n) (Nat.le_refl _)
  obtain ⟨w2, hcp, hw2, cs, hr2, hl2, hd2⟩ := copyNat (c := n) (mk_row w n) (by simp) hb hn
  exact ⟨w2, cs, hcp, hr2, by rw [hl2]; exact List.length_replicate, seg_copied hd2 (Nat.le_refl _) hn, (mk_below w _).trans (hw2.below (by rw [mk_size]; omega) (Nat.le_refl _)), hr2.lt⟩

/-- what was written in place, trimmed -/
theorem NatKept.made {w w3 w4 : World} {g z x : Nat} {e : Ending} (h : NatKept w3 (g + 1) z e w4) (hb : Below w.heap.size w w3) (hg : g < w3.heap.size) (hz : z = x) : NatRet w x e w4 := by
  obtain ⟨v, rfl, hv, rfl⟩ := h
  subst hz
  exact ⟨v, rfl, hv.more hg, hb⟩
theorem carry_zero {z s b n k : Nat} (h : z + W ^ n * k = s + b) (hlt : s + b < W ^ n) : z = s + b := by
  rcases Nat.eq_zero_or_pos k with h0 | h0
  · subst h0; simpa using h
  · have : W ^ n * 1 ≤ W ^ n * k := Nat.mul_le_mul_left _ h0
    omega
theorem sum_lt {a b n : Nat} (ha : len a ≤ n) (hb : len b ≤ n) : a + b < W ^ (n + 1) :=
  Nat.lt_of_lt_of_le (lt_len _) (Nat.pow_le_pow_right W_pos (by have := len_add_le a b; omega))

set_option maxRecDepth 100000 in
set_option maxHeartbeats 1000000 in
theorem add_any {w : World} {a b : Nat} {va vb : Value} (ha : Nt w va a) (hb : Nt w vb b) (hs : len a ≤ 8796093022208) (ht : len b ≤ 8796093022208) :
    Calls Tryz.prog 114 #[va, vb] w (NatRet w (a + b)) := by
  obtain ⟨A, c, ea, _⟩ := id ha
  obtain ⟨A', c', eb, _⟩ := id hb
  subst ea
  subst eb
  by_cases h : len a < len b
  · obtain ⟨w2, cs, hcp, hr2, hl2, hseg, hb2, hlt2⟩ := mkCopy (len b + 1) hb (by omega)
    have hmk := mkNat (len b + 1) (len b + 1) rfl (by omega)
    go_enter Tryz.func114, Tryz.ntmps114
    go_wp2_with fail
    refine (addInto_any hr2 (by rw [hl2.out]; omega) (by rw [hl2.out]; omega) (IsNat.mono ha hb2 (Nat.le_refl _)) (Nat.le_refl _) (by omega)).mono ?_
    rintro e w3 ⟨cs3, k, rfl, hk, hw3, hr3, hl3, -, hz, hk1⟩
    rw [hseg.out] at hz
    have Hl := Lib.hid hl3; have Hz := Lib.hid hz; clear hl3 hz
    go_wp2_with fail
    refine (trim_any (hr3.reads (o := 0) (by rw [Hl.out, hl2.out]; omega) (Nat.le_refl _) (by omega))).mono ?_
    rintro e w4 ⟨v, rfl, hv, rfl⟩
    go_wp2_with fail
    go_ret
    refine NatKept.made ⟨v, rfl, hv, rfl⟩ (hb2.trans (hw3.below (by omega) (Nat.le_refl _))) hr3.lt ?_
    rw [Nat.add_comm a b]
    exact carry_zero Hz.out (sum_lt (Nat.le_refl _) (by omega))
  · obtain ⟨w2, cs, hcp, hr2, hl2, hseg, hb2, hlt2⟩ := mkCopy (len a + 1) ha (by omega)
    have hmk := mkNat (len a + 1) (len a + 1) rfl (by omega)
    go_enter Tryz.func114, Tryz.ntmps114
    go_wp2_with fail
    refine (addInto_any hr2 (by rw [hl2.out]; omega) (by rw [hl2.out]; omega) (IsNat.mono hb hb2 (Nat.le_refl _)) (Nat.le_refl _) (by omega)).mono ?_
    rintro e w3 ⟨cs3, k, rfl, hk, hw3, hr3, hl3, -, hz, hk1⟩
    rw [hseg.out] at hz
    have Hl := Lib.hid hl3; have Hz := Lib.hid hz; clear hl3 hz
    go_wp2_with fail
    refine (trim_any (hr3.reads (o := 0) (by rw [Hl.out, hl2.out]; omega) (Nat.le_refl _) (by omega))).mono ?_
    rintro e w4 ⟨v, rfl, hv, rfl⟩
    go_wp2_with fail
    go_ret
    refine NatKept.made ⟨v, rfl, hv, rfl⟩ (hb2.trans (hw3.below (by omega) (Nat.le_refl _))) hr3.lt ?_
    exact carry_zero Hz.out (sum_lt (Nat.le_refl _) (by omega))
end Go.Proofs.YtfppimacnhcflaaGreatDoor
