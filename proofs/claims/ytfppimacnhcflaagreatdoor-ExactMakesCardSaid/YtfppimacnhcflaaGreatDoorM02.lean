/-
  Contracts of the functions that the law calls, for every input (Se).
-/
import Derived.Test.YtfppimacnhcflaaGreatDoorD00
import Derived.Test.YtfppimacnhcflaaGreatDoorD01
import Derived.Test.YtfppimacnhcflaaGreatDoorD02
import Derived.Test.YtfppimacnhcflaaGreatDoorD03
import Derived.Test.YtfppimacnhcflaaGreatDoorD04
import Derived.Test.YtfppimacnhcflaaGreatDoorD05
import Derived.Test.YtfppimacnhcflaaGreatDoorD06
import Derived.Test.YtfppimacnhcflaaGreatDoorD07
import Derived.Test.YtfppimacnhcflaaGreatDoorD08
import Derived.Test.YtfppimacnhcflaaGreatDoorD09
import Derived.Test.YtfppimacnhcflaaGreatDoorD10
import Derived.Test.YtfppimacnhcflaaGreatDoorD11
import Derived.Test.YtfppimacnhcflaaGreatDoorD12
import Derived.Test.YtfppimacnhcflaaGreatDoorD13
import Derived.Test.YtfppimacnhcflaaGreatDoorD14
import Derived.Test.YtfppimacnhcflaaGreatDoorD15
import Derived.Test.YtfppimacnhcflaaGreatDoorD16
import Derived.Test.YtfppimacnhcflaaGreatDoorD17
import Derived.Test.YtfppimacnhcflaaGreatDoorD18
import Derived.Test.YtfppimacnhcflaaGreatDoorD19
import Derived.Test.YtfppimacnhcflaaGreatDoorD20
import Derived.Test.YtfppimacnhcflaaGreatDoorD21
import Derived.Test.YtfppimacnhcflaaGreatDoorD22
import Derived.Test.YtfppimacnhcflaaGreatDoorD23
import Derived.Test.YtfppimacnhcflaaGreatDoorD24
import Derived.Test.YtfppimacnhcflaaGreatDoorD25
import Derived.Test.YtfppimacnhcflaaGreatDoorD26
import Derived.Test.YtfppimacnhcflaaGreatDoorD27
import Derived.Test.YtfppimacnhcflaaGreatDoorD28
import Derived.Test.YtfppimacnhcflaaGreatDoorD29
import Derived.Test.YtfppimacnhcflaaGreatDoorD30
import Derived.Test.YtfppimacnhcflaaGreatDoorD31
import Derived.Test.YtfppimacnhcflaaGreatDoorD32
import Derived.Test.YtfppimacnhcflaaGreatDoorD33
import Derived.Test.YtfppimacnhcflaaGreatDoorD34
import Derived.Test.YtfppimacnhcflaaGreatDoorD35
import Derived.Test.YtfppimacnhcflaaGreatDoorD38
import Derived.Test.YtfppimacnhcflaaGreatDoorD39
import Derived.Test.YtfppimacnhcflaaGreatDoorM01
set_option linter.all false
set_option maxRecDepth 100000
set_option maxHeartbeats 40000000
namespace Go.Proofs.YtfppimacnhcflaaGreatDoor.Rf
open Lib (hid)
open Go.RowKit
open Rx
theorem int_small {n : Int} {q : Rat} (hq : (n : Rat) = q) (h1 : -9223372036854775808 ≤ n) (h2 : n ≤ 9223372036854775807) : len q.num.natAbs ≤ 4 ∧ len q.den ≤ 4 := by
  rw [← hq, Rat.num_intCast, Rat.den_intCast]
  exact ⟨len_le (show _ < 18446744073709551616 by omega), len_le (show 1 < 18446744073709551616 by omega)⟩
theorem ratio_any {w : World} {a b : Int} {q : Rat} (hq : (a : Rat) / (b : Rat) = q) (hb : b ≠ 0) (h1 : -9223372036854775808 ≤ a) (h2 : a ≤ 9223372036854775807) (h3 : -9223372036854775808 ≤ b) (h4 : b ≤ 9223372036854775807) :
    Calls Tryz.prog 18 #[.int .i64 a, .int .i64 b] w (RatRet w q) := by
  obtain ⟨x, hx⟩ : ∃ x : Rat, (a : Rat) = x := ⟨_, rfl⟩
  obtain ⟨y, hy⟩ : ∃ x : Rat, (b : Rat) = x := ⟨_, rfl⟩
  have hy0 : y ≠ 0 := by
    rw [← hy]
    intro e
    exact hb (Rat.intCast_inj.1 (e.trans Rat.intCast_zero.symm))
  rw [hx, hy] at hq
  obtain ⟨s1, s2⟩ := int_small hx h1 h2
  obtain ⟨s3, s4⟩ := int_small hy h3 h4
  obtain ⟨wB, hwB⟩ : ∃ u, u = w.alloc (.cells #[.bool false, .slice none 0 0, .slice none 0 0] 33) := ⟨_, rfl⟩
  have hRB := RB.start w
  rw [← hwB] at hRB
  obtain ⟨R, hR⟩ : ∃ R, w.heap.size = R := ⟨_, rfl⟩
  rw [hR] at hRB
  have HI := hid (fun u : World => int_any (w := u) hx h1 h2)
  have HJ := hid (fun u : World => int_any (w := u) hy h3 h4)
  have HD := hid (fun (u : World) (v1 v2 : Value) (i1 : IsRat u v1 x) (i2 : IsRat u v2 y) => divR_any hy0 hq i1 i2 (Nat.le_trans s1 (by decide)) (Nat.le_trans s2 (by decide)) (Nat.le_trans s3 (by decide)) (Nat.le_trans s4 (by decide)))
  replace hRB := hid hRB
  clear hx hy hy0 hq s1 s2 s3 s4 hb h1 h2 h3 h4
  go_enter Tryz.func18, Tryz.ntmps18
  go_upto_region 1 with fail
  rw [← hwB]
  replace hR := hid hR
  clear hwB
  go_wp2_with fail
  refine (HI.out _).mono ?_
  rintro e w1 ⟨v1, rfl, hv1, b1⟩
  obtain ⟨A1, c1, A2, c2, rfl, -, -⟩ := id hv1.opened
  replace hv1 := hid hv1
  replace b1 := hid b1
  clear HI
  go_wp2_with fail
  refine (HJ.out _).mono ?_
  rintro e w2 ⟨v2, rfl, hv2, b2⟩
  obtain ⟨A3, c3, A4, c4, rfl, -, -⟩ := id hv2.opened
  replace hv2 := hid hv2
  replace b2 := hid b2
  clear HJ
  have HE := hid (HD.out _ _ _ (hv1.out.keep b2.out) hv2.out)
  clear HD
  go_wp2_with fail
  refine (HE.out).mono ?_
  rintro e w3 ⟨v3, rfl, hv3, b3⟩
  obtain ⟨B3, e3, B4, e4, rfl, g1, g2⟩ := hv3.opened
  replace g1 := hid g1
  replace g2 := hid g2
  have hB3 := hid (((hRB.out.call b1.out).call b2.out).call b3)
  clear HE hv1 hv2 hv3 b1 b2 b3
  obtain ⟨sb, hsb⟩ : ∃ b, decide (q.num < 0) = b := ⟨_, rfl⟩
  obtain ⟨m1, hm1⟩ : ∃ b, len q.num.natAbs = b := ⟨_, rfl⟩
  obtain ⟨m2, hm2⟩ : ∃ b, len q.den = b := ⟨_, rfl⟩
  rw [hm1] at g1 ⊢
  rw [hm2] at g2 ⊢
  rw [hsb]
  obtain ⟨hbF, ⟨r0, r1, r2⟩, hkF⟩ := (hB3.out).store (b := sb) (A := B3) (n := m1) (c := e3) (A' := B4) (n' := m2) (c' := e4) _ rfl
  obtain ⟨x0, x1, x2, ⟨l0, l1, l2⟩, f0, f1, f2⟩ := (hB3.out).cells
  have FIN := hid (show IsRat _ (.agg #[.bool sb, .slice B3 m1 e3, .slice B4 m2 e4]) q from ⟨_, _, by rw [hsb], hkF _ _ g1.out, hkF _ _ g2.out⟩)
  have FB := hid hbF
  replace hsb := hid hsb
  replace hm1 := hid hm1
  replace hm2 := hid hm2
  clear hkF hbF
  go_wp2_with fail
  refine bodyPost_ret (v := .agg #[.bool sb, .slice B3 m1 e3, .slice B4 m2 e4]) ?_ rfl ⟨_, rfl, FIN.out, by rw [hR.out]; exact FB.out⟩
  simp [results, Tryz.results18, go_sem, r0, r1, r2]
end Go.Proofs.YtfppimacnhcflaaGreatDoor.Rf
