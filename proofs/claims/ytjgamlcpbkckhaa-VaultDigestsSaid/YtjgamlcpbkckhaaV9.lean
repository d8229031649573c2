import Derived.Test.YtjgamlcpbkckhaaV2
import Derived.Test.YtjgamlcpbkckhaaEvZh
set_option linter.all false
open Go Go.Ev Go.RowKit
namespace Go.Ev
set_option maxRecDepth 100000
set_option linter.all false
noncomputable def setB (id : Nat) (x : Blk) (s : St) : St := ⟨True, s.sl, s.hp.set id x, s.base, s.wr⟩
def kNext (k : Int) : Int := IntKind.u64.wrap (IntKind.u64.wrap (k * 6364136223846793005) + 1442695040888963407)
def kAt (s : Int) : Nat → Int
  | 0 => s
  | i + 1 => kNext (kAt s i)
def cipRaw (k b : Int) : Int := IntKind.u8.wrap (BitVec.ofInt 8 b ^^^ BitVec.ofInt 8 (IntKind.u8.wrap (k.fdiv (2 ^ 56)))).toNat
/-- the j-th byte of Cipher -/
def cipB (s : Int) (b : Nat → Int) (j : Nat) : Int := cipRaw (kAt s (j + 1)) (b j)
def cipV (s : Int) (b : Nat → Int) (i j : Nat) : Value := .int .u8 (bif Nat.ble (j + 1) i then cipB s b j else 0)
def cip0 (s : Int) (n : Nat) (b : Nat → Int) : St := startF af_7 [.val (.int .u64 s), rowB n b] [.dead]
def cipIx : List Nat := [6, 7, 14, 15, 16, 17, 18, 19, 20, 21, 22, 23, 24, 25, 26, 27, 28, 29]
noncomputable def cipSt (s : Int) (n : Nat) (b : Nat → Int) (i k : Int) (f : Nat → D) : St :=
  fgt cipIx (put1 13 (.val (.int .i64 i)) (put1 0 (.val (.int .u64 k)) (setB 1 (.arr n f) (at_ noC af_7.body 2 (at_ noC af_7.body 1 (at_ noC af_7.body 0 (cip0 s n b)))))))
theorem tabL_congr {n : Nat} {f g : Nat → D} (h : ∀ j, j < n → f j = g j) : tabL n f = tabL n g := by
  refine tabL_ext tabL_length fun j hj => ?_
  rw [← h j hj]
  exact tabL_get.2 ⟨hj, rfl⟩
theorem cip_step (s : Int) (b : Nat → Int) (i : Nat) : updF (fun j => .val (cipV s b i j)) i [.val (.int .u8 (cipRaw (kNext (kAt s i)) (b i)))] = fun j => .val (cipV s b (i + 1) j) := by
  funext j
  rw [updF_get]
  by_cases h : i ≤ j ∧ j < i + 1
  · have hj : j = i := by omega
    subst hj
    rw [dif_pos (by simp)]
    have : Nat.ble (j + 1) (j + 1) = true := Nat.ble_eq_true_of_le (Nat.le_refl _)
    simp [cipV, this, cipB, kAt]
  · rw [dif_neg (by simpa using h)]
    have : Nat.ble (j + 1) i = Nat.ble (j + 1) (i + 1) := by
      cases h1 : Nat.ble (j + 1) i with
      | true => exact (Nat.ble_eq_true_of_le (by have := Nat.le_of_ble_eq_true h1; omega)).symm
      | false =>
        cases h2 : Nat.ble (j + 1) (i + 1) with
        | false => rfl
        | true =>
          have := Nat.le_of_ble_eq_true h2
          rw [Nat.ble_eq_true_of_le (by omega)] at h1
          cases h1
    simp only [cipV, this]
theorem cip_aw (P : Program) (hm : P.follows .mixedOrders = true) (s : Int) (n : Nat) (b : Nat → Int) (K : Cust) (w : World) (hn : n ≤ 1000000) :
    AW noC (LoopA K P w [.fresh] [.dead]) af_7.body (startF af_7 [.val (.int .u64 s), rowB n b] [.dead]) (EndA false 0 af_7 fun o => o = ⟨none, .sl 0 0 n 1 none, [(0, .cells (tabL n fun j => .val (.int .u8 (cipB s b j))))], []⟩) := by
  refine aw_reg0 ?_
  refine aw_reg (True ∧ (0 ≤ (n : Int) ∧ (n : Int) ≤ n ∧ (n : Int) ≤ 1048576 ∧ 1 * (n : Int).toNat ≤ 16777216)) ⟨trivial, by omega, by omega, by omega, by omega⟩ ?_
  refine aw_assoc (aw_reg0 ?_)
  refine aw_loop (ι := { i : Nat // i ≤ n }) hm noC_ok cipIx (fun x => cipSt s n b x.1 (kAt s x.1) fun j => .val (cipV s b x.1 j)) (fun x => n - x.1) ⟨0, Nat.zero_le n⟩ (fun x => ?_) (by kernel_rfl)
  obtain ⟨i, hin⟩ := x
  refine aw_reg0 ?_
  refine aw_ifs (decide ((i : Int) < n)) (fun ht => ?_) (fun hf => ?_)
  · have ht : i < n := by simpa using ht
    refine aw_skips (aw_blocks (aw_reg (True ∧ (0 ≤ (i : Int) ∧ (i : Int) < n)) ⟨trivial, by omega, by omega⟩ ?_))
    refine aw_reg0 ?_
    refine aw_end ((True ∧ (0 ≤ (i : Int) ∧ (i : Int) < n)) ∧ i + 1 ≤ n) ⟨⟨trivial, by omega, by omega⟩, by omega⟩ (blk_normal (seq_normal ?_))
    refine aw_end (True ∧ inRange .i64 ((i : Int) + 1)) ⟨trivial, by simp only [inRange, IntKind.min, IntKind.max, IntKind.signed, IntKind.bits]; omega⟩ ?_
    refine round_end cipIx ⟨i + 1, ht⟩ (by show n - (i + 1) < n - i; omega) ?_
    show _ = cipSt s n b ((i + 1 : Nat) : Int) (kAt s (i + 1)) fun j => .val (cipV s b (i + 1) j)
    rw [← cip_step]
    kernel_rfl
  · have hf : i = n := by
      have : ¬ i < n := by simpa using hf
      omega
    refine aw_exits (round_exit (blk_exit (seq_normal (aw_reg0 (aw_ret ?_)))))
    subst hf
    refine end_arr (id := 1) (off := 0) (n := i) (k := 1) (m := i) (f := fun j => .val (cipV s b i j)) (t := 4) (fun j _ => ⟨_, rfl⟩) ?_ rfl rfl (by kernel_rfl) (by kernel_rfl) (by kernel_rfl) (by kernel_rfl)
    have : tabL i (fun j => .val (cipV s b i j)) = tabL i fun j => .val (.int .u8 (cipB s b j)) := tabL_congr fun j hj => by
      simp only [cipV, Nat.ble_eq_true_of_le (show j + 1 ≤ i by omega), cond_true]
    rw [this]
theorem cip_alone (P : Program) (hm : P.follows .mixedOrders = true) (hf : compF P 7 = some af_7) (s : Int) (n : Nat) (b : Nat → Int) (hn : n ≤ 1000000) : AloneA P 7 [.val (.int .u64 s), rowB n b] n 1 n fun j => .int .u8 (cipB s b j) :=
  AloneA.ofW (cl := noC) hm (fun K => noC_ok) hf fun K w => cip_aw P hm s n b K w hn
end Go.Ev
