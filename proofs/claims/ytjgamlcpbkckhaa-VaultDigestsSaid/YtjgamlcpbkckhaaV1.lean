import Derived.Test.YtjgamlcpbkckhaaEvAc
import Derived.Test.YtjgamlcpbkckhaaEvZe
import Derived.Laws.Bits64
set_option linter.all false
open Go Go.Ev Go.RowKit
namespace Go.Ev
set_option maxRecDepth 100000
set_option linter.all false
theorem noCl {K : Cust} {P : Program} : ClOK K P (fun _ _ _ _ => none) := fun _ _ _ _ _ h => by cases h
/-- the digest's modulus -/
def pr : Int := 2305843009213693951
def digS (h b : Int) : Int := (h * 257 + b + 1) % pr
def digN (s : Int) (bs : List Int) : Int := bs.foldl digS (s % pr)
/-- as the program reckons it -/
def digT (h : Int) : Int := IntKind.u64.wrap (IntKind.u64.wrap (BitVec.ofInt 64 (IntKind.u64.wrap (h * 2 ^ 8)) &&& BitVec.ofInt 64 2305843009213693951).toNat + h.fdiv (2 ^ 53))
def digPre (h b : Int) : Int := IntKind.u64.wrap (IntKind.u64.wrap (IntKind.u64.wrap (digT h + h) + IntKind.u64.wrap b) + 1)
def digRaw (h b : Int) : Int := digPre h b % 2305843009213693951
theorem wrap_nonneg (x : Int) : 0 ≤ IntKind.u64.wrap x := by rw [IntKind.wrap_u64]; omega
theorem and_mod {x : Int} (h0 : 0 ≤ x) (h1 : x < 18446744073709551616) : ((BitVec.ofInt 64 x &&& BitVec.ofInt 64 2305843009213693951).toNat : Int) = x % 2305843009213693952 := by
  obtain ⟨n, rfl⟩ := Int.eq_ofNat_of_zero_le h0
  have e1 : (BitVec.ofInt 64 (n : Int)).toNat = n := by
    rw [BitVec.toNat_ofInt]
    have : ((n : Int) % ((2 ^ 64 : Nat) : Int)) = (n : Int) := Int.emod_eq_of_lt (by omega) (by simpa using h1)
    rw [this]
    simp
  have e2 : (BitVec.ofInt 64 2305843009213693951).toNat = 2 ^ 61 - 1 := by decide
  rw [BitVec.toNat_and, e1, e2, Nat.and_two_pow_sub_one_eq_mod]
  simp
theorem digT_eq {h : Int} (h0 : 0 ≤ h) (h1 : h < pr) : digT h = 256 * (h % 9007199254740992) + h / 9007199254740992 := by
  unfold digT pr at *
  have e : IntKind.u64.wrap (h * 2 ^ 8) = (h * 256) % 18446744073709551616 := by rw [IntKind.wrap_u64]; rfl
  rw [e, and_mod (by omega) (by omega), Int.fdiv_eq_ediv_of_nonneg _ (by decide)]
  rw [show (2 : Int) ^ 53 = 9007199254740992 from rfl, IntWalk.u64_in (h * 256 % 18446744073709551616 % 2305843009213693952) ⟨by omega, by omega⟩]
  rw [IntWalk.u64_in _ ⟨by omega, by omega⟩]
  omega
theorem dig_eq {h b : Int} (h0 : 0 ≤ h) (h1 : h < pr) (b0 : 0 ≤ b) (b1 : b < 256) : digRaw h b = digS h b := by
  unfold digRaw digPre digS
  rw [digT_eq h0 h1]
  unfold pr at *
  have d1 : 0 ≤ h % 9007199254740992 ∧ h % 9007199254740992 < 9007199254740992 := ⟨by omega, by omega⟩
  have d2 : h = 9007199254740992 * (h / 9007199254740992) + h % 9007199254740992 := by omega
  generalize hq : h / 9007199254740992 = q at *
  generalize hr : h % 9007199254740992 = r at *
  have q0 : 0 ≤ q := by omega
  have q1 : q < 256 := by omega
  rw [IntWalk.u64_in b ⟨b0, by omega⟩, IntWalk.u64_in (256 * r + q + h) ⟨by omega, by omega⟩, IntWalk.u64_in (256 * r + q + h + b) ⟨by omega, by omega⟩, IntWalk.u64_in (256 * r + q + h + b + 1) ⟨by omega, by omega⟩]
  have e : h * 257 + b + 1 = (256 * r + q + h + b + 1) + 2305843009213693951 * q := by omega
  rw [e, Int.add_mul_emod_self_left]
theorem digS_range {h b : Int} : 0 ≤ digS h b ∧ digS h b < pr := by
  unfold digS pr
  omega
end Go.Ev
