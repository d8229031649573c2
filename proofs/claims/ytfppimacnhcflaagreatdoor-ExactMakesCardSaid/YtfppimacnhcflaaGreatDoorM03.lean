/-
  Contracts of the functions that the law calls, for every input (Ma Mb).
-/
import Derived.Test.YtfppimacnhcflaaGreatDoorD00
import Derived.Test.YtfppimacnhcflaaGreatDoorD01
import Derived.Test.YtfppimacnhcflaaGreatDoorD02
import Derived.Test.YtfppimacnhcflaaGreatDoorD03
import Derived.Test.YtfppimacnhcflaaGreatDoorD04
import Derived.Test.YtfppimacnhcflaaGreatDoorD05
import Derived.Test.YtfppimacnhcflaaGreatDoorD06
import Derived.Test.YtfppimacnhcflaaGreatDoorD07
import Derived.Test.YtfppimacnhcflaaGreatDoorD08
import Derived.Test.YtfppimacnhcflaaGreatDoorD09
import Derived.Test.YtfppimacnhcflaaGreatDoorD10
import Derived.Test.YtfppimacnhcflaaGreatDoorD11
import Derived.Test.YtfppimacnhcflaaGreatDoorD12
import Derived.Test.YtfppimacnhcflaaGreatDoorD13
import Derived.Test.YtfppimacnhcflaaGreatDoorD14
import Derived.Test.YtfppimacnhcflaaGreatDoorD15
import Derived.Test.YtfppimacnhcflaaGreatDoorD16
import Derived.Test.YtfppimacnhcflaaGreatDoorD17
import Derived.Test.YtfppimacnhcflaaGreatDoorD18
import Derived.Test.YtfppimacnhcflaaGreatDoorD19
import Derived.Test.YtfppimacnhcflaaGreatDoorD20
import Derived.Test.YtfppimacnhcflaaGreatDoorD21
import Derived.Test.YtfppimacnhcflaaGreatDoorD22
import Derived.Test.YtfppimacnhcflaaGreatDoorD23
import Derived.Test.YtfppimacnhcflaaGreatDoorD24
import Derived.Test.YtfppimacnhcflaaGreatDoorD25
import Derived.Test.YtfppimacnhcflaaGreatDoorD26
import Derived.Test.YtfppimacnhcflaaGreatDoorD27
import Derived.Test.YtfppimacnhcflaaGreatDoorD28
import Derived.Test.YtfppimacnhcflaaGreatDoorD29
import Derived.Test.YtfppimacnhcflaaGreatDoorD30
import Derived.Test.YtfppimacnhcflaaGreatDoorD31
import Derived.Test.YtfppimacnhcflaaGreatDoorD32
import Derived.Test.YtfppimacnhcflaaGreatDoorD33
import Derived.Test.YtfppimacnhcflaaGreatDoorD34
import Derived.Test.YtfppimacnhcflaaGreatDoorD35
import Derived.Test.YtfppimacnhcflaaGreatDoorD38
import Derived.Test.YtfppimacnhcflaaGreatDoorD39
import Derived.Test.YtfppimacnhcflaaGreatDoorM01
import Derived.Test.YtfppimacnhcflaaGreatDoorM02
set_option linter.all false
set_option maxRecDepth 100000
set_option maxHeartbeats 40000000
namespace Go.Proofs.YtfppimacnhcflaaGreatDoor.Rf
open Lib (hid)
open Go.RowKit
open Rx
open Vx (siz siz_num siz_den)
open List renaming getElem?_toArray → lg, getElem?_cons_zero → lz, getElem?_cons_succ → ls, setIfInBounds_toArray → lt, set_cons_zero → ly, set_cons_succ → lu
def i64Of (x : Rat) : Int × Bool := if x.den = 1 ∧ -9223372036854775808 ≤ x.num ∧ x.num ≤ 9223372036854775807 then (x.num, true) else (0, false)
def I64Ret (w : World) (n : Int) (b : Bool) (e : Ending) (w' : World) : Prop := e = .returned (.tuple #[.int .i64 n, .bool b]) ∧ Below w.heap.size w w'
theorem i64_no1 {x : Rat} {n : Int} {b : Bool} (h : i64Of x = (n, b)) (hd : x.den ≠ 1) : n = 0 ∧ b = false := by
  unfold i64Of at h
  rw [if_neg (fun k => hd k.1)] at h
  exact ⟨(Prod.mk.inj h).1.symm, (Prod.mk.inj h).2.symm⟩
theorem i64_no2 {x : Rat} {n : Int} {b : Bool} (h : i64Of x = (n, b)) (hd : ¬ (-9223372036854775808 ≤ x.num ∧ x.num ≤ 9223372036854775807)) : n = 0 ∧ b = false := by
  unfold i64Of at h
  rw [if_neg (fun k => hd k.2)] at h
  exact ⟨(Prod.mk.inj h).1.symm, (Prod.mk.inj h).2.symm⟩
theorem i64_yes {x : Rat} {n : Int} {b : Bool} (h : i64Of x = (n, b)) (h1 : x.den = 1) (h2 : -9223372036854775808 ≤ x.num) (h3 : x.num ≤ 9223372036854775807) : x.num = n ∧ b = true := by
  unfold i64Of at h
  rw [if_pos ⟨h1, h2, h3⟩] at h
  exact ⟨(Prod.mk.inj h).1, (Prod.mk.inj h).2.symm⟩
theorem Nt.one {w : World} {A : Option Addr} {l c N : Nat} (h : Nt w (.slice A l c) N) (h0 : 0 < N) (h1 : N < Vx.W) : ∃ g o, A = some ⟨g, o, none⟩ ∧ w.cell? ⟨g, o, none⟩ = some (.int .u64 (N : Nat)) := by
  obtain ⟨A', c', e, -, -, -, h5⟩ := h
  simp only [Value.slice.injEq] at e
  obtain ⟨rfl, -, rfl⟩ := e
  obtain ⟨g, o, h6, -, h8⟩ := h5 h0
  have := h8 0 (Vx.len_pos.2 h0)
  rw [Nat.add_zero] at this
  refine ⟨g, o, h6, this.trans ?_⟩
  have e : Vx.word N 0 = N := by unfold Vx.word; rw [Nat.pow_zero, Nat.div_one]; exact Nat.mod_eq_of_lt h1
  rw [e]
theorem i64_frac {w : World} {vx : Value} {p : Rat} {n : Int} {b : Bool} (h : i64Of p = (n, b)) (hd : p.den ≠ 1) (hx : IsNum w vx p) :
    Calls Tryz.prog 12 #[vx] w (I64Ret w n b) := by
  obtain ⟨rfl, rfl⟩ := i64_no1 h hd
  have hb : 0 < Vx.len (below p.den) := Vx.len_pos.2 (by unfold below; rw [if_neg hd]; exact p.den_pos)
  have d1 : decide (((Vx.len (below p.den) : Nat) : Int) > 0) = true := decide_eq_true (by omega)
  clear h hd
  obtain ⟨C1, j1, C2, j2, rfl, -, -⟩ := id hx.opened
  replace hx := hid hx
  obtain ⟨w1, hw1⟩ : ∃ u, u = (w.alloc (.cells #[.bool (decide (p.num < 0)), .slice C1 (Vx.len p.num.natAbs) j1, .slice C2 (Vx.len (below p.den)) j2] 25)) := ⟨_, rfl⟩
  have b1 := alloc_below w (.cells #[.bool (decide (p.num < 0)), .slice C1 (Vx.len p.num.natAbs) j1, .slice C2 (Vx.len (below p.den)) j2] 25)
  have g1 := heap_alloc_new w (.cells #[.bool (decide (p.num < 0)), .slice C1 (Vx.len p.num.natAbs) j1, .slice C2 (Vx.len (below p.den)) j2] 25)
  rw [← hw1] at b1 g1
  replace g1 := hid g1
  replace b1 := hid b1
  go_enter Tryz.func12, Tryz.ntmps12
  go_upto_region 1 with fail
  rw [← hw1]
  clear hw1
  have hg : w1.heap[w.heap.size]? = some (.cells #[.bool (decide (p.num < 0)), .slice C1 (Vx.len p.num.natAbs) j1, .slice C2 (Vx.len (below p.den)) j2] 25 (0, 0)) := ((Below.refl _ w1).block _ (Array.getElem?_eq_some_iff.1 g1.out).1).trans g1.out
  obtain ⟨z_x_0, z_x_1, z_x_2⟩ := cells3 hg
  clear hg
  have HE := hid b1.out
  go_wp2_with fail
  go_ret2
  exact ⟨rfl, HE.out⟩
theorem i64_great {w : World} {vx : Value} {p : Rat} {n : Int} {b : Bool} (h : i64Of p = (n, b)) (hd : p.den = 1) (hl : 1 < Vx.len p.num.natAbs) (hx : IsNum w vx p) :
    Calls Tryz.prog 12 #[vx] w (I64Ret w n b) := by
  obtain ⟨rfl, rfl⟩ := i64_no2 h (by
    intro k
    have := Vx.len_lb hl
    rw [Nat.pow_one] at this
    have e : Vx.W = 18446744073709551616 := rfl
    omega)
  have hb : Vx.len (below p.den) = 0 := by rw [hd]; rfl
  have d1 : decide (((Vx.len (below p.den) : Nat) : Int) > 0) = false := decide_eq_false (by omega)
  have d2 : decide (((Vx.len p.num.natAbs : Nat) : Int) > 1) = true := decide_eq_true (by omega)
  have d3 : decide (1 < Vx.len p.num.natAbs) = true := decide_eq_true hl
  have d4 : decide (0 < Vx.len (below p.den)) = false := decide_eq_false (by omega)
  replace hb := hid hb
  clear h hd hl
  obtain ⟨C1, j1, C2, j2, rfl, -, -⟩ := id hx.opened
  replace hx := hid hx
  obtain ⟨w1, hw1⟩ : ∃ u, u = (w.alloc (.cells #[.bool (decide (p.num < 0)), .slice C1 (Vx.len p.num.natAbs) j1, .slice C2 (Vx.len (below p.den)) j2] 25)) := ⟨_, rfl⟩
  have b1 := alloc_below w (.cells #[.bool (decide (p.num < 0)), .slice C1 (Vx.len p.num.natAbs) j1, .slice C2 (Vx.len (below p.den)) j2] 25)
  have g1 := heap_alloc_new w (.cells #[.bool (decide (p.num < 0)), .slice C1 (Vx.len p.num.natAbs) j1, .slice C2 (Vx.len (below p.den)) j2] 25)
  rw [← hw1] at b1 g1
  replace g1 := hid g1
  replace b1 := hid b1
  go_enter Tryz.func12, Tryz.ntmps12
  go_upto_region 1 with fail
  rw [← hw1]
  clear hw1
  have hg : w1.heap[w.heap.size]? = some (.cells #[.bool (decide (p.num < 0)), .slice C1 (Vx.len p.num.natAbs) j1, .slice C2 (Vx.len (below p.den)) j2] 25 (0, 0)) := ((Below.refl _ w1).block _ (Array.getElem?_eq_some_iff.1 g1.out).1).trans g1.out
  obtain ⟨z_x_0, z_x_1, z_x_2⟩ := cells3 hg
  clear hg
  have HE := hid b1.out
  go_wp2_with fail
  go_ret2
  exact ⟨rfl, HE.out⟩
theorem i64_zero {w : World} {vx : Value} {p : Rat} {n : Int} {b : Bool} (h : i64Of p = (n, b)) (hd : p.den = 1) (h0 : p.num = 0) (hx : IsNum w vx p) :
    Calls Tryz.prog 12 #[vx] w (I64Ret w n b) := by
  obtain ⟨e, rfl⟩ := i64_yes h hd (by rw [h0]; decide) (by rw [h0]; decide)
  obtain rfl : 0 = n := h0.symm.trans e
  have hb : Vx.len (below p.den) = 0 := by rw [hd]; rfl
  have hl : Vx.len p.num.natAbs = 0 := by rw [h0]; rfl
  have d1 : decide (((Vx.len (below p.den) : Nat) : Int) > 0) = false := decide_eq_false (by omega)
  have d2 : decide (((Vx.len p.num.natAbs : Nat) : Int) > 1) = false := decide_eq_false (by omega)
  have d3 : decide (1 < Vx.len p.num.natAbs) = false := decide_eq_false (by omega)
  have d4 : decide (0 < Vx.len (below p.den)) = false := decide_eq_false (by omega)
  have d5 : (((Vx.len p.num.natAbs : Nat) : Int) == 0) = true := by rw [hl]; rfl
  replace hb := hid hb
  replace hl := hid hl
  clear h hd h0 e
  obtain ⟨C1, j1, C2, j2, rfl, -, -⟩ := id hx.opened
  replace hx := hid hx
  obtain ⟨w1, hw1⟩ : ∃ u, u = (w.alloc (.cells #[.bool (decide (p.num < 0)), .slice C1 (Vx.len p.num.natAbs) j1, .slice C2 (Vx.len (below p.den)) j2] 25)) := ⟨_, rfl⟩
  have b1 := alloc_below w (.cells #[.bool (decide (p.num < 0)), .slice C1 (Vx.len p.num.natAbs) j1, .slice C2 (Vx.len (below p.den)) j2] 25)
  have g1 := heap_alloc_new w (.cells #[.bool (decide (p.num < 0)), .slice C1 (Vx.len p.num.natAbs) j1, .slice C2 (Vx.len (below p.den)) j2] 25)
  rw [← hw1] at b1 g1
  replace g1 := hid g1
  replace b1 := hid b1
  go_enter Tryz.func12, Tryz.ntmps12
  go_upto_region 1 with fail
  rw [← hw1]
  clear hw1
  have hg : w1.heap[w.heap.size]? = some (.cells #[.bool (decide (p.num < 0)), .slice C1 (Vx.len p.num.natAbs) j1, .slice C2 (Vx.len (below p.den)) j2] 25 (0, 0)) := ((Below.refl _ w1).block _ (Array.getElem?_eq_some_iff.1 g1.out).1).trans g1.out
  obtain ⟨z_x_0, z_x_1, z_x_2⟩ := cells3 hg
  clear hg
  have HE := hid b1.out
  go_wp2_with fail
  go_ret2
  exact ⟨rfl, HE.out⟩
theorem i64_neg {w : World} {vx : Value} {p : Rat} {n : Int} {b : Bool} (h : i64Of p = (n, b)) (hd : p.den = 1) (h0 : p.num ≠ 0) (hl : p.num.natAbs < Vx.W) (hs0 : p.num < 0) (hr : -9223372036854775808 ≤ p.num) (hx : IsNum w vx p) :
    Calls Tryz.prog 12 #[vx] w (I64Ret w n b) := by
  have e : Vx.W = 18446744073709551616 := rfl
  obtain ⟨en, rfl⟩ := i64_yes h hd hr (by omega)
  have hs : decide (p.num < 0) = true := decide_eq_true hs0
  have d5 : decide (((p.num.natAbs : Nat) : Int) ≤ 9223372036854775808) = true := decide_eq_true (by omega)
  obtain ⟨m, hm⟩ : ∃ m : Int, IntKind.i64.wrap ((p.num.natAbs : Nat) : Int) = m := ⟨_, rfl⟩
  have v2 : IntKind.i64.wrap (-m) = n := by rw [← hm, ← en]; simp only [IntKind.wrap_i64]; omega
  have v1 := hm
  have hb : Vx.len (below p.den) = 0 := by rw [hd]; rfl
  have hn : Vx.len p.num.natAbs = 1 := Vx.len_of_lt (by omega) hl
  obtain ⟨v1, v2, rfl, hN, hD⟩ := hx
  obtain ⟨A1, c1, rfl, -⟩ := id hN
  obtain ⟨A2, c2, rfl, -⟩ := id hD
  obtain ⟨g, o, rfl, hc⟩ := Nt.one hN (by omega) hl
  rw [hb, hn, hs]
  obtain ⟨N, hNN⟩ : ∃ z, p.num.natAbs = z := ⟨_, rfl⟩
  rw [hNN] at hc d5
  try rw [hNN] at v1
  replace hNN := hid hNN
  obtain ⟨w1, hw1⟩ : ∃ u, u = w.alloc (.cells #[.bool true, .slice (some ⟨g, o, none⟩) 1 c1, .slice A2 0 c2] 25) := ⟨_, rfl⟩
  have b1 := alloc_below w (.cells #[.bool true, .slice (some ⟨g, o, none⟩) 1 c1, .slice A2 0 c2] 25)
  have g1 := heap_alloc_new w (.cells #[.bool true, .slice (some ⟨g, o, none⟩) 1 c1, .slice A2 0 c2] 25)
  rw [← hw1] at b1 g1
  have hc1 := (b1.cell (p := ⟨g, o, none⟩) (World.block_lt_of_cell? w _ hc)).trans hc
  obtain ⟨z0, z1, z2⟩ := cells3 g1
  replace b1 := hid b1
  clear g1 hc hN hD hb hn hd h0 hl h e hs hs0 hr
  try replace hm := hid hm
  try replace en := hid en
  go_enter Tryz.func12, Tryz.ntmps12
  go_upto_region 1 with fail
  rw [← hw1]
  clear hw1
  go_wp2_with fail
  go_ret2
  exact ⟨rfl, b1.out⟩
theorem i64_low {w : World} {vx : Value} {p : Rat} {n : Int} {b : Bool} (h : i64Of p = (n, b)) (hd : p.den = 1) (h0 : p.num ≠ 0) (hl : p.num.natAbs < Vx.W) (hs0 : p.num < 0) (hr : ¬ -9223372036854775808 ≤ p.num) (hx : IsNum w vx p) :
    Calls Tryz.prog 12 #[vx] w (I64Ret w n b) := by
  have e : Vx.W = 18446744073709551616 := rfl
  obtain ⟨rfl, rfl⟩ := i64_no2 h (fun k => hr k.1)
  have hs : decide (p.num < 0) = true := decide_eq_true hs0
  have d5 : decide (((p.num.natAbs : Nat) : Int) ≤ 9223372036854775808) = false := decide_eq_false (by omega)
  have hb : Vx.len (below p.den) = 0 := by rw [hd]; rfl
  have hn : Vx.len p.num.natAbs = 1 := Vx.len_of_lt (by omega) hl
  obtain ⟨v1, v2, rfl, hN, hD⟩ := hx
  obtain ⟨A1, c1, rfl, -⟩ := id hN
  obtain ⟨A2, c2, rfl, -⟩ := id hD
  obtain ⟨g, o, rfl, hc⟩ := Nt.one hN (by omega) hl
  rw [hb, hn, hs]
  obtain ⟨N, hNN⟩ : ∃ z, p.num.natAbs = z := ⟨_, rfl⟩
  rw [hNN] at hc d5
  try rw [hNN] at v1
  replace hNN := hid hNN
  obtain ⟨w1, hw1⟩ : ∃ u, u = w.alloc (.cells #[.bool true, .slice (some ⟨g, o, none⟩) 1 c1, .slice A2 0 c2] 25) := ⟨_, rfl⟩
  have b1 := alloc_below w (.cells #[.bool true, .slice (some ⟨g, o, none⟩) 1 c1, .slice A2 0 c2] 25)
  have g1 := heap_alloc_new w (.cells #[.bool true, .slice (some ⟨g, o, none⟩) 1 c1, .slice A2 0 c2] 25)
  rw [← hw1] at b1 g1
  have hc1 := (b1.cell (p := ⟨g, o, none⟩) (World.block_lt_of_cell? w _ hc)).trans hc
  obtain ⟨z0, z1, z2⟩ := cells3 g1
  replace b1 := hid b1
  clear g1 hc hN hD hb hn hd h0 hl h e hs hs0 hr
  try replace hm := hid hm
  try replace en := hid en
  go_enter Tryz.func12, Tryz.ntmps12
  go_upto_region 1 with fail
  rw [← hw1]
  clear hw1
  go_wp2_with fail
  go_ret2
  exact ⟨rfl, b1.out⟩
theorem i64_pos {w : World} {vx : Value} {p : Rat} {n : Int} {b : Bool} (h : i64Of p = (n, b)) (hd : p.den = 1) (h0 : p.num ≠ 0) (hl : p.num.natAbs < Vx.W) (hs0 : ¬ p.num < 0) (hr : p.num ≤ 9223372036854775807) (hx : IsNum w vx p) :
    Calls Tryz.prog 12 #[vx] w (I64Ret w n b) := by
  have e : Vx.W = 18446744073709551616 := rfl
  obtain ⟨en, rfl⟩ := i64_yes h hd (by omega) hr
  have hs : decide (p.num < 0) = false := decide_eq_false hs0
  have d5 : decide (((p.num.natAbs : Nat) : Int) < 9223372036854775808) = true := decide_eq_true (by omega)
  have v1 : IntKind.i64.wrap ((p.num.natAbs : Nat) : Int) = n := by rw [← en]; simp only [IntKind.wrap_i64]; omega
  have hb : Vx.len (below p.den) = 0 := by rw [hd]; rfl
  have hn : Vx.len p.num.natAbs = 1 := Vx.len_of_lt (by omega) hl
  obtain ⟨v1, v2, rfl, hN, hD⟩ := hx
  obtain ⟨A1, c1, rfl, -⟩ := id hN
  obtain ⟨A2, c2, rfl, -⟩ := id hD
  obtain ⟨g, o, rfl, hc⟩ := Nt.one hN (by omega) hl
  rw [hb, hn, hs]
  obtain ⟨N, hNN⟩ : ∃ z, p.num.natAbs = z := ⟨_, rfl⟩
  rw [hNN] at hc d5
  try rw [hNN] at v1
  replace hNN := hid hNN
  obtain ⟨w1, hw1⟩ : ∃ u, u = w.alloc (.cells #[.bool false, .slice (some ⟨g, o, none⟩) 1 c1, .slice A2 0 c2] 25) := ⟨_, rfl⟩
  have b1 := alloc_below w (.cells #[.bool false, .slice (some ⟨g, o, none⟩) 1 c1, .slice A2 0 c2] 25)
  have g1 := heap_alloc_new w (.cells #[.bool false, .slice (some ⟨g, o, none⟩) 1 c1, .slice A2 0 c2] 25)
  rw [← hw1] at b1 g1
  have hc1 := (b1.cell (p := ⟨g, o, none⟩) (World.block_lt_of_cell? w _ hc)).trans hc
  obtain ⟨z0, z1, z2⟩ := cells3 g1
  replace b1 := hid b1
  clear g1 hc hN hD hb hn hd h0 hl h e hs hs0 hr
  try replace hm := hid hm
  try replace en := hid en
  go_enter Tryz.func12, Tryz.ntmps12
  go_upto_region 1 with fail
  rw [← hw1]
  clear hw1
  go_wp2_with fail
  go_ret2
  exact ⟨rfl, b1.out⟩
theorem i64_high {w : World} {vx : Value} {p : Rat} {n : Int} {b : Bool} (h : i64Of p = (n, b)) (hd : p.den = 1) (h0 : p.num ≠ 0) (hl : p.num.natAbs < Vx.W) (hs0 : ¬ p.num < 0) (hr : ¬ p.num ≤ 9223372036854775807) (hx : IsNum w vx p) :
    Calls Tryz.prog 12 #[vx] w (I64Ret w n b) := by
  have e : Vx.W = 18446744073709551616 := rfl
  obtain ⟨rfl, rfl⟩ := i64_no2 h (fun k => hr k.2)
  have hs : decide (p.num < 0) = false := decide_eq_false hs0
  have d5 : decide (((p.num.natAbs : Nat) : Int) < 9223372036854775808) = false := decide_eq_false (by omega)
  have hb : Vx.len (below p.den) = 0 := by rw [hd]; rfl
  have hn : Vx.len p.num.natAbs = 1 := Vx.len_of_lt (by omega) hl
  obtain ⟨v1, v2, rfl, hN, hD⟩ := hx
  obtain ⟨A1, c1, rfl, -⟩ := id hN
  obtain ⟨A2, c2, rfl, -⟩ := id hD
  obtain ⟨g, o, rfl, hc⟩ := Nt.one hN (by omega) hl
  rw [hb, hn, hs]
  obtain ⟨N, hNN⟩ : ∃ z, p.num.natAbs = z := ⟨_, rfl⟩
  rw [hNN] at hc d5
  try rw [hNN] at v1
  replace hNN := hid hNN
  obtain ⟨w1, hw1⟩ : ∃ u, u = w.alloc (.cells #[.bool false, .slice (some ⟨g, o, none⟩) 1 c1, .slice A2 0 c2] 25) := ⟨_, rfl⟩
  have b1 := alloc_below w (.cells #[.bool false, .slice (some ⟨g, o, none⟩) 1 c1, .slice A2 0 c2] 25)
  have g1 := heap_alloc_new w (.cells #[.bool false, .slice (some ⟨g, o, none⟩) 1 c1, .slice A2 0 c2] 25)
  rw [← hw1] at b1 g1
  have hc1 := (b1.cell (p := ⟨g, o, none⟩) (World.block_lt_of_cell? w _ hc)).trans hc
  obtain ⟨z0, z1, z2⟩ := cells3 g1
  replace b1 := hid b1
  clear g1 hc hN hD hb hn hd h0 hl h e hs hs0 hr
  try replace hm := hid hm
  try replace en := hid en
  go_enter Tryz.func12, Tryz.ntmps12
  go_upto_region 1 with fail
  rw [← hw1]
  clear hw1
  go_wp2_with fail
  go_ret2
  exact ⟨rfl, b1.out⟩
theorem numI64_any {w : World} {vx : Value} {p : Rat} {n : Int} {b : Bool} (h : i64Of p = (n, b)) (hx : IsNum w vx p) : Calls Tryz.prog 12 #[vx] w (I64Ret w n b) := by
  rcases Decidable.em (p.den = 1) with hd | hd
  · rcases Nat.lt_or_ge 1 (Vx.len p.num.natAbs) with hl | hl
    · exact i64_great h hd hl hx
    · have hw : p.num.natAbs < Vx.W := by
        have := Vx.lt_len p.num.natAbs
        exact Nat.lt_of_lt_of_le this (by rw [← Nat.pow_one Vx.W]; exact Nat.le_trans (Nat.pow_le_pow_right (by decide) hl) (by rw [Nat.pow_one]; exact Nat.le_refl _))
      rcases Decidable.em (p.num = 0) with h0 | h0
      · exact i64_zero h hd h0 hx
      · rcases Decidable.em (p.num < 0) with hs | hs
        · rcases Decidable.em (-9223372036854775808 ≤ p.num) with hr | hr
          · exact i64_neg h hd h0 hw hs hr hx
          · exact i64_low h hd h0 hw hs hr hx
        · rcases Decidable.em (p.num ≤ 9223372036854775807) with hr | hr
          · exact i64_pos h hd h0 hw hs hr hx
          · exact i64_high h hd h0 hw hs hr hx
  · exact i64_frac h hd hx
end Go.Proofs.YtfppimacnhcflaaGreatDoor.Rf
namespace Go.Proofs.YtfppimacnhcflaaGreatDoor.Rf
open Lib (hid)
open Go.RowKit
open Rx
open Vx (siz siz_num siz_den)
open List renaming getElem?_toArray → lg, getElem?_cons_zero → lz, getElem?_cons_succ → ls, setIfInBounds_toArray → lt, set_cons_zero → ly, set_cons_succ → lu
theorem compareR_val {w : World} {vx vy : Value} {x y : Nat} {n : Int} (hn : cmpN x y = n) (hx : IsBig w vx x) (hy : IsBig w vy y) (sx : len x ≤ 1073741824) (sy : len y ≤ 1073741824) :
    Calls Tryz.prog 97 #[vx, vy] w (IntGo w n) := by
  rw [← hn]
  exact (compare_any hx hy (by omega) (by omega)).mono fun e w' h => ⟨h.1, h.2 ▸ Below.refl _ _⟩
theorem IsRat.bottom {w : World} {b : Bool} {A1 A2 : Option Addr} {n1 c1 n2 c2 : Nat} {p : Rat} (h : IsRat w (.agg #[.bool b, .slice A1 n1 c1, .slice A2 n2 c2]) p) : IsBig w (.slice A2 n2 c2) p.den := by
  obtain ⟨v1, v2, e, h1, h2⟩ := h
  simp only [Value.agg.injEq, Array.mk.injEq, List.cons.injEq, Value.bool.injEq, and_true] at e
  obtain ⟨-, -, rfl⟩ := e
  exact h2
theorem IsRat.top {w : World} {b : Bool} {A1 A2 : Option Addr} {n1 c1 n2 c2 : Nat} {p : Rat} (h : IsRat w (.agg #[.bool b, .slice A1 n1 c1, .slice A2 n2 c2]) p) : IsBig w (.slice A1 n1 c1) p.num.natAbs := by
  obtain ⟨v1, v2, e, h1, h2⟩ := h
  simp only [Value.agg.injEq, Array.mk.injEq, List.cons.injEq, Value.bool.injEq, and_true] at e
  obtain ⟨-, rfl, -⟩ := e
  exact h1
theorem whole_rat {p : Rat} (h : p.den = 1) : ((p.num : Int) : Rat) = p := by
  have := Rat.mkRat_self p
  rw [h, Rat.mkRat_one] at this
  exact this
theorem low_cmp {p : Rat} (h : p.den = 1) : cmpQ p ((-9223372036854775808 : Int) : Rat) < 0 ↔ p.num < -9223372036854775808 := by
  rw [cmpQ_lt0]
  conv => lhs; rw [← whole_rat h]
  exact Rat.intCast_lt_intCast
theorem high_cmp {p : Rat} (h : p.den = 1) : cmpQ p ((9223372036854775807 : Int) : Rat) > 0 ↔ 9223372036854775807 < p.num := by
  rw [cmpQ_gt0]
  conv => lhs; rw [← whole_rat h]
  exact Rat.intCast_lt_intCast
theorem r64_frac {w : World} {vx : Value} {p : Rat} {n : Int} {b : Bool} (h : i64Of p = (n, b)) (hd : p.den ≠ 1) (hx : IsRat w vx p) (sp : siz p ≤ 268435456) :
    Calls Tryz.prog 19 #[vx] w (I64Ret w n b) := by
  have sn := hid (big_len sp).1
  have sd := hid (big_len sp).2
  clear sp
  obtain ⟨rfl, rfl⟩ := i64_no1 h hd
  have ec := hid (show cmpN p.den 1 = 1 from cmpN_gt (by have := p.den_pos; omega))
  clear h hd
  obtain ⟨C1, j1, C2, j2, rfl, -, -⟩ := id hx.opened
  replace hx := hid hx
  obtain ⟨w1, hw1⟩ : ∃ u, u = (w.alloc (.cells #[.bool (decide (p.num < 0)), .slice C1 (len p.num.natAbs) j1, .slice C2 (len p.den) j2] 33)) := ⟨_, rfl⟩
  have b1 := alloc_below w (.cells #[.bool (decide (p.num < 0)), .slice C1 (len p.num.natAbs) j1, .slice C2 (len p.den) j2] 33)
  have g1 := heap_alloc_new w (.cells #[.bool (decide (p.num < 0)), .slice C1 (len p.num.natAbs) j1, .slice C2 (len p.den) j2] 33)
  rw [← hw1] at b1 g1
  replace g1 := hid g1
  replace b1 := hid b1
  go_enter Tryz.func19, Tryz.ntmps19
  go_upto_region 1 with fail
  rw [← hw1]
  clear hw1
  go_wp2_with fail
  have HSZa : Hid ((w.heap.size + 1) ≤ w1.heap.size) := hid (by have := at_lt (at_keep g1.out (Below.refl _ w1)); omega)
  have hg : w1.heap[w.heap.size]? = some (.cells #[.bool (decide (p.num < 0)), .slice C1 (len p.num.natAbs) j1, .slice C2 (len p.den) j2] 33 (0, 0)) := ((Below.refl _ w1).block _ (Array.getElem?_eq_some_iff.1 g1.out).1).trans g1.out
  obtain ⟨z_x_0, z_x_1, z_x_2⟩ := cells3 hg
  clear hg
  have hlta_x : w.heap.size < (w.heap.size + 1) := by omega
  have H0 := Held0.start w1 (w.heap.size + 1)
  have H0' := H0
  unfold Held0 at H0'
  refine wp_region_held_drew (S := (fun w' => (∀ b o, b < (w.heap.size + 1) → w'.cell? ⟨b, o, none⟩ = w1.cell? ⟨b, o, none⟩) ∧ Below ((w.heap.size + 1)) w1 w' ∧ Stay w1 w')) (by kernel_rfl) ?_ (fun hHeld => ?_)
  · (try dsimp only)
    exact H0'
  obtain ⟨w2, hw2⟩ : ∃ u, u = w1.drew := ⟨_, rfl⟩
  have b2 : Hid (Below w1.heap.size w1 w2) := by rw [hw2]; exact ⟨rfl, rfl, rfl, Nat.le_refl _, fun _ _ => rfl⟩
  rw [← hw2] at hHeld H0 ⊢
  clear hw2 H0'
  refine tk (i := 0) (h := ?_)
  try simp only [Act.put, lt, ly, lu]
  refine tk (i := 1) (h := ?_)
  try simp only [Act.put, lt, ly, lu]
  refine wpAnyH_ready (rs := [2]) (by kernel_rfl) (by simp) (AllReadyH.cons (o := ?oq3) ?eq3 ?kq3 AllReadyH.nil)
  case eq3 => simp only [lg, lz, ls]; rfl
  intro K hK; go_simp
  obtain ⟨w3, hw3⟩ : ∃ u, u = w2.alloc (.cells #[.int .i64 1] 3) := ⟨_, rfl⟩
  have b3 : Below w2.heap.size w2 w3 := by rw [hw3]; exact alloc_below _ _
  have hone3 := hid (show IsBig w3 (.slice (some ⟨w2.heap.size, 0, none⟩) 1 1) 1 by rw [hw3]; exact big_one w2)
  rw [← hw3]
  clear hw3
  have hk3 := hcall_le H0 HSZa b3; replace b3 := hid b3; have hk3' := hk3; unfold Held0 at hk3'; clear hHeld H0
  refine hK.out _ _ ?_ (fun hHeld => ?_)
  · (try dsimp only); with_reducible exact hk3'
  clear hK K hk3'; try simp only [Act.put, lt, ly, lu]
  refine wpAnyH_ready (rs := [3]) (by kernel_rfl) (by simp) (AllReadyH.cons (o := ?oq4) ?eq4 ?kq4 AllReadyH.nil)
  case eq4 => simp only [lg, lz, ls]; rfl
  intro K hK; go_simp; go_at_call 97
  refine (compareR_val ec.out (IsRat.bottom (hx.out.keep (Below.step (Below.step b1.out b2.out) b3.out))) hone3.out sd.out (by rw [len_one]; decide)).mono ?_
  rintro e w4 ⟨rfl, b4⟩
  replace b4 := hid b4
  have hk4 := hcall_le hk3 HSZa b4.out; have hk4' := hk4; unfold Held0 at hk4'; clear hHeld hk3
  refine hK.out _ _ ?_ (fun hHeld => ?_)
  · (try dsimp only); with_reducible exact hk4'
  clear hK K hk4'; try simp only [Act.put, lt, ly, lu]
  refine tk (i := 4) (h := ?_)
  try simp only [Act.put, lt, ly, lu]
  refine tk (i := 5) (h := ?_)
  try simp only [Act.put, lt, ly, lu]
  refine tk (i := 6) (v := undef) (hy := by exact Or.inr ⟨by rfl, rfl⟩) (h := ?_)
  try simp only [Act.put, lt, ly, lu]
  refine wpAnyH_ready (rs := [7]) (by kernel_rfl) (by simp) (AllReadyH.cons (o := ?oq8) ?eq8 ?kq8 AllReadyH.nil)
  case eq8 => simp only [lg, lz, ls]; rfl
  intro K hK; go_simp
  refine hK.out _ _ ?_ (fun hHeld2 => ?_)
  · (try dsimp only); exact hHeld
  clear hK K hHeld
  try simp only [Act.put, lt, ly, lu]
  have hHeld := hHeld2
  clear hHeld2
  refine wpAnyH_ready (rs := [8]) (by kernel_rfl) (by simp) (AllReadyH.cons (o := ?oq9) ?eq9 ?kq9 AllReadyH.nil)
  case eq9 => simp only [lg, lz, ls]; rfl
  intro K hK; go_simp
  refine hK.out _ _ ?_ (fun hHeld2 => ?_)
  · (try dsimp only); exact hHeld
  clear hK K hHeld
  try simp only [Act.put, lt, ly, lu]
  have hHeld := hHeld2
  clear hHeld2
  refine tk (i := 9) (v := undef) (hy := by exact Or.inr ⟨by rfl, rfl⟩) (h := ?_)
  try simp only [Act.put, lt, ly, lu]
  refine tk (i := 10) (h := ?_)
  try simp only [Act.put, lt, ly, lu]
  refine tk (i := 11) (h := ?_)
  try simp only [Act.put, lt, ly, lu]
  refine tk (i := 12) (v := undef) (hy := by exact Or.inr ⟨by rfl, rfl⟩) (h := ?_)
  try simp only [Act.put, lt, ly, lu]
  refine wpAnyH_ready (rs := [13]) (by kernel_rfl) (by simp) (AllReadyH.cons (o := ?oq14) ?eq14 ?kq14 AllReadyH.nil)
  case eq14 => simp only [lg, lz, ls]; rfl
  intro K hK; go_simp
  refine hK.out _ _ ?_ (fun hHeld2 => ?_)
  · (try dsimp only); exact hHeld
  clear hK K hHeld
  try simp only [Act.put, lt, ly, lu]
  have hHeld := hHeld2
  clear hHeld2
  refine wpAnyH_ready (rs := [14]) (by kernel_rfl) (by simp) (AllReadyH.cons (o := ?oq15) ?eq15 ?kq15 AllReadyH.nil)
  case eq15 => simp only [lg, lz, ls]; rfl
  intro K hK; go_simp
  refine hK.out _ _ ?_ (fun hHeld2 => ?_)
  · (try dsimp only); exact hHeld
  clear hK K hHeld
  try simp only [Act.put, lt, ly, lu]
  have hHeld := hHeld2
  clear hHeld2
  refine tk (i := 15) (v := undef) (hy := by exact Or.inr ⟨by rfl, rfl⟩) (h := ?_)
  try simp only [Act.put, lt, ly, lu]
  refine tk (i := 16) (h := ?_)
  try simp only [Act.put, lt, ly, lu]
  refine wpAnyH_done (by kernel_rfl) ?_ _
  clear hHeld
  clear z_x_0 z_x_1 z_x_2 hlta_x
  clear hk4 HSZa
  have HE := hid (Below.step (Below.step (Below.step b1.out b2.out) b3.out) b4.out)
  go_wp2_with fail
  go_ret2
  exact ⟨rfl, HE.out⟩
theorem r64_low {w : World} {vx : Value} {p : Rat} {n : Int} {b : Bool} (h : i64Of p = (n, b)) (hd : p.den = 1) (hr : p.num < -9223372036854775808) (hx : IsRat w vx p) (sp : siz p ≤ 268435456) :
    Calls Tryz.prog 19 #[vx] w (I64Ret w n b) := by
  have sn := hid (big_len sp).1
  have sd := hid (big_len sp).2
  clear sp
  obtain ⟨rfl, rfl⟩ := i64_no2 h (fun k => absurd k.1 (by omega))
  have ec := hid (show cmpN p.den 1 = 0 by rw [hd]; exact cmpN_eq 1)
  obtain ⟨lo, elo⟩ : ∃ z : Rat, ((-9223372036854775808 : Int) : Rat) = z := ⟨_, rfl⟩
  obtain ⟨tl1, tl2⟩ := int_small elo (by omega) (by omega)
  have tl1 := hid (show len lo.num.natAbs ≤ 1073741824 by omega)
  have tl2 := hid (show len lo.den ≤ 1073741824 by omega)
  obtain ⟨c1, e1⟩ : ∃ z : Int, cmpQ p lo = z := ⟨_, rfl⟩
  have d1 : decide (c1 < 0) = true := decide_eq_true (by rw [← e1, ← elo]; exact (low_cmp hd).2 hr)
  replace e1 := hid e1
  replace elo := hid elo
  clear h hd hr
  obtain ⟨C1, j1, C2, j2, rfl, -, -⟩ := id hx.opened
  replace hx := hid hx
  obtain ⟨w1, hw1⟩ : ∃ u, u = (w.alloc (.cells #[.bool (decide (p.num < 0)), .slice C1 (len p.num.natAbs) j1, .slice C2 (len p.den) j2] 33)) := ⟨_, rfl⟩
  have b1 := alloc_below w (.cells #[.bool (decide (p.num < 0)), .slice C1 (len p.num.natAbs) j1, .slice C2 (len p.den) j2] 33)
  have g1 := heap_alloc_new w (.cells #[.bool (decide (p.num < 0)), .slice C1 (len p.num.natAbs) j1, .slice C2 (len p.den) j2] 33)
  rw [← hw1] at b1 g1
  replace g1 := hid g1
  replace b1 := hid b1
  go_enter Tryz.func19, Tryz.ntmps19
  go_upto_region 1 with fail
  rw [← hw1]
  clear hw1
  go_wp2_with fail
  have HSZa : Hid ((w.heap.size + 1) ≤ w1.heap.size) := hid (by have := at_lt (at_keep g1.out (Below.refl _ w1)); omega)
  have hg : w1.heap[w.heap.size]? = some (.cells #[.bool (decide (p.num < 0)), .slice C1 (len p.num.natAbs) j1, .slice C2 (len p.den) j2] 33 (0, 0)) := ((Below.refl _ w1).block _ (Array.getElem?_eq_some_iff.1 g1.out).1).trans g1.out
  obtain ⟨z_x_0, z_x_1, z_x_2⟩ := cells3 hg
  clear hg
  have hlta_x : w.heap.size < (w.heap.size + 1) := by omega
  have H0 := Held0.start w1 (w.heap.size + 1)
  have H0' := H0
  unfold Held0 at H0'
  refine wp_region_held_drew (S := (fun w' => (∀ b o, b < (w.heap.size + 1) → w'.cell? ⟨b, o, none⟩ = w1.cell? ⟨b, o, none⟩) ∧ Below ((w.heap.size + 1)) w1 w' ∧ Stay w1 w')) (by kernel_rfl) ?_ (fun hHeld => ?_)
  · (try dsimp only)
    exact H0'
  obtain ⟨w2, hw2⟩ : ∃ u, u = w1.drew := ⟨_, rfl⟩
  have b2 : Hid (Below w1.heap.size w1 w2) := by rw [hw2]; exact ⟨rfl, rfl, rfl, Nat.le_refl _, fun _ _ => rfl⟩
  rw [← hw2] at hHeld H0 ⊢
  clear hw2 H0'
  refine tk (i := 0) (h := ?_)
  try simp only [Act.put, lt, ly, lu]
  refine tk (i := 1) (h := ?_)
  try simp only [Act.put, lt, ly, lu]
  refine wpAnyH_ready (rs := [2]) (by kernel_rfl) (by simp) (AllReadyH.cons (o := ?oq20) ?eq20 ?kq20 AllReadyH.nil)
  case eq20 => simp only [lg, lz, ls]; rfl
  intro K hK; go_simp
  obtain ⟨w3, hw3⟩ : ∃ u, u = w2.alloc (.cells #[.int .i64 1] 3) := ⟨_, rfl⟩
  have b3 : Below w2.heap.size w2 w3 := by rw [hw3]; exact alloc_below _ _
  have hone3 := hid (show IsBig w3 (.slice (some ⟨w2.heap.size, 0, none⟩) 1 1) 1 by rw [hw3]; exact big_one w2)
  rw [← hw3]
  clear hw3
  have hk3 := hcall_le H0 HSZa b3; replace b3 := hid b3; have hk3' := hk3; unfold Held0 at hk3'; clear hHeld H0
  refine hK.out _ _ ?_ (fun hHeld => ?_)
  · (try dsimp only); with_reducible exact hk3'
  clear hK K hk3'; try simp only [Act.put, lt, ly, lu]
  refine wpAnyH_ready (rs := [3]) (by kernel_rfl) (by simp) (AllReadyH.cons (o := ?oq21) ?eq21 ?kq21 AllReadyH.nil)
  case eq21 => simp only [lg, lz, ls]; rfl
  intro K hK; go_simp; go_at_call 97
  refine (compareR_val ec.out (IsRat.bottom (hx.out.keep (Below.step (Below.step b1.out b2.out) b3.out))) hone3.out sd.out (by rw [len_one]; decide)).mono ?_
  rintro e w4 ⟨rfl, b4⟩
  replace b4 := hid b4
  have hk4 := hcall_le hk3 HSZa b4.out; have hk4' := hk4; unfold Held0 at hk4'; clear hHeld hk3
  refine hK.out _ _ ?_ (fun hHeld => ?_)
  · (try dsimp only); with_reducible exact hk4'
  clear hK K hk4'; try simp only [Act.put, lt, ly, lu]
  refine tk (i := 4) (h := ?_)
  try simp only [Act.put, lt, ly, lu]
  refine tk (i := 5) (h := ?_)
  try simp only [Act.put, lt, ly, lu]
  refine tk (i := 6) (h := ?_)
  try simp only [Act.put, lt, ly, lu]
  refine wpAnyH_ready (rs := [7]) (by kernel_rfl) (by simp) (AllReadyH.cons (o := ?oq25) ?eq25 ?kq25 AllReadyH.nil)
  case eq25 => simp only [lg, lz, ls]; rfl
  intro K hK; go_simp; go_at_call 14
  refine (int_any elo.out (by omega) (by omega)).mono ?_
  rintro e w5 ⟨v5, rfl, hv5, b5⟩
  obtain ⟨C3, j3, C4, j4, rfl, -, -⟩ := id hv5.opened
  replace hv5 := hid hv5
  replace b5 := hid b5
  have hk5 := hcall_le hk4 HSZa b5.out; have hk5' := hk5; unfold Held0 at hk5'; clear hHeld hk4
  refine hK.out _ _ ?_ (fun hHeld => ?_)
  · (try dsimp only); with_reducible exact hk5'
  clear hK K hk5'; try simp only [Act.put, lt, ly, lu]
  refine wpAnyH_ready (rs := [8]) (by kernel_rfl) (by simp) (AllReadyH.cons (o := ?oq26) ?eq26 ?kq26 AllReadyH.nil)
  case eq26 => simp only [lg, lz, ls]; rfl
  intro K hK; go_simp; go_at_call 30
  refine (cmpR_any e1.out (hx.out.keep (Below.step (Below.step (Below.step (Below.step b1.out b2.out) b3.out) b4.out) b5.out)) hv5.out sn.out sd.out tl1.out tl2.out).mono ?_
  rintro e w6 ⟨rfl, b6⟩
  replace b6 := hid b6
  have hk6 := hcall_le hk5 HSZa b6.out; have hk6' := hk6; unfold Held0 at hk6'; clear hHeld hk5
  refine hK.out _ _ ?_ (fun hHeld => ?_)
  · (try dsimp only); with_reducible exact hk6'
  clear hK K hk6'; try simp only [Act.put, lt, ly, lu]
  refine tk (i := 9) (h := ?_)
  try simp only [Act.put, lt, ly, lu]
  refine tk (i := 10) (h := ?_)
  try simp only [Act.put, lt, ly, lu]
  refine tk (i := 11) (h := ?_)
  try simp only [Act.put, lt, ly, lu]
  refine tk (i := 12) (v := undef) (hy := by exact Or.inr ⟨by rfl, rfl⟩) (h := ?_)
  try simp only [Act.put, lt, ly, lu]
  refine wpAnyH_ready (rs := [13]) (by kernel_rfl) (by simp) (AllReadyH.cons (o := ?oq31) ?eq31 ?kq31 AllReadyH.nil)
  case eq31 => simp only [lg, lz, ls]; rfl
  intro K hK; go_simp
  refine hK.out _ _ ?_ (fun hHeld2 => ?_)
  · (try dsimp only); exact hHeld
  clear hK K hHeld
  try simp only [Act.put, lt, ly, lu]
  have hHeld := hHeld2
  clear hHeld2
  refine wpAnyH_ready (rs := [14]) (by kernel_rfl) (by simp) (AllReadyH.cons (o := ?oq32) ?eq32 ?kq32 AllReadyH.nil)
  case eq32 => simp only [lg, lz, ls]; rfl
  intro K hK; go_simp
  refine hK.out _ _ ?_ (fun hHeld2 => ?_)
  · (try dsimp only); exact hHeld
  clear hK K hHeld
  try simp only [Act.put, lt, ly, lu]
  have hHeld := hHeld2
  clear hHeld2
  refine tk (i := 15) (v := undef) (hy := by exact Or.inr ⟨by rfl, rfl⟩) (h := ?_)
  try simp only [Act.put, lt, ly, lu]
  refine tk (i := 16) (h := ?_)
  try simp only [Act.put, lt, ly, lu]
  refine wpAnyH_done (by kernel_rfl) ?_ _
  clear hHeld
  clear z_x_0 z_x_1 z_x_2 hlta_x
  clear hk6 HSZa
  have HE := hid (Below.step (Below.step (Below.step (Below.step (Below.step b1.out b2.out) b3.out) b4.out) b5.out) b6.out)
  go_wp2_with fail
  go_ret2
  exact ⟨rfl, HE.out⟩
theorem r64_high {w : World} {vx : Value} {p : Rat} {n : Int} {b : Bool} (h : i64Of p = (n, b)) (hd : p.den = 1) (hr : 9223372036854775807 < p.num) (hx : IsRat w vx p) (sp : siz p ≤ 268435456) :
    Calls Tryz.prog 19 #[vx] w (I64Ret w n b) := by
  have sn := hid (big_len sp).1
  have sd := hid (big_len sp).2
  clear sp
  obtain ⟨rfl, rfl⟩ := i64_no2 h (fun k => absurd k.2 (by omega))
  have ec := hid (show cmpN p.den 1 = 0 by rw [hd]; exact cmpN_eq 1)
  obtain ⟨lo, elo⟩ : ∃ z : Rat, ((-9223372036854775808 : Int) : Rat) = z := ⟨_, rfl⟩
  obtain ⟨tl1, tl2⟩ := int_small elo (by omega) (by omega)
  have tl1 := hid (show len lo.num.natAbs ≤ 1073741824 by omega)
  have tl2 := hid (show len lo.den ≤ 1073741824 by omega)
  obtain ⟨c1, e1⟩ : ∃ z : Int, cmpQ p lo = z := ⟨_, rfl⟩
  obtain ⟨hi, ehi⟩ : ∃ z : Rat, ((9223372036854775807 : Int) : Rat) = z := ⟨_, rfl⟩
  obtain ⟨th1, th2⟩ := int_small ehi (by omega) (by omega)
  have th1 := hid (show len hi.num.natAbs ≤ 1073741824 by omega)
  have th2 := hid (show len hi.den ≤ 1073741824 by omega)
  obtain ⟨c2, e2⟩ : ∃ z : Int, cmpQ p hi = z := ⟨_, rfl⟩
  have d1 : decide (c1 < 0) = false := decide_eq_false (by rw [← e1, ← elo]; exact fun k => absurd ((low_cmp hd).1 k) (by omega))
  have d2 : decide (c2 > 0) = true := decide_eq_true (by rw [← e2, ← ehi]; exact (high_cmp hd).2 hr)
  replace e1 := hid e1
  replace elo := hid elo
  replace e2 := hid e2
  replace ehi := hid ehi
  clear h hd hr
  obtain ⟨C1, j1, C2, j2, rfl, -, -⟩ := id hx.opened
  replace hx := hid hx
  obtain ⟨w1, hw1⟩ : ∃ u, u = (w.alloc (.cells #[.bool (decide (p.num < 0)), .slice C1 (len p.num.natAbs) j1, .slice C2 (len p.den) j2] 33)) := ⟨_, rfl⟩
  have b1 := alloc_below w (.cells #[.bool (decide (p.num < 0)), .slice C1 (len p.num.natAbs) j1, .slice C2 (len p.den) j2] 33)
  have g1 := heap_alloc_new w (.cells #[.bool (decide (p.num < 0)), .slice C1 (len p.num.natAbs) j1, .slice C2 (len p.den) j2] 33)
  rw [← hw1] at b1 g1
  replace g1 := hid g1
  replace b1 := hid b1
  go_enter Tryz.func19, Tryz.ntmps19
  go_upto_region 1 with fail
  rw [← hw1]
  clear hw1
  go_wp2_with fail
  have HSZa : Hid ((w.heap.size + 1) ≤ w1.heap.size) := hid (by have := at_lt (at_keep g1.out (Below.refl _ w1)); omega)
  have hg : w1.heap[w.heap.size]? = some (.cells #[.bool (decide (p.num < 0)), .slice C1 (len p.num.natAbs) j1, .slice C2 (len p.den) j2] 33 (0, 0)) := ((Below.refl _ w1).block _ (Array.getElem?_eq_some_iff.1 g1.out).1).trans g1.out
  obtain ⟨z_x_0, z_x_1, z_x_2⟩ := cells3 hg
  clear hg
  have hlta_x : w.heap.size < (w.heap.size + 1) := by omega
  have H0 := Held0.start w1 (w.heap.size + 1)
  have H0' := H0
  unfold Held0 at H0'
  refine wp_region_held_drew (S := (fun w' => (∀ b o, b < (w.heap.size + 1) → w'.cell? ⟨b, o, none⟩ = w1.cell? ⟨b, o, none⟩) ∧ Below ((w.heap.size + 1)) w1 w' ∧ Stay w1 w')) (by kernel_rfl) ?_ (fun hHeld => ?_)
  · (try dsimp only)
    exact H0'
  obtain ⟨w2, hw2⟩ : ∃ u, u = w1.drew := ⟨_, rfl⟩
  have b2 : Hid (Below w1.heap.size w1 w2) := by rw [hw2]; exact ⟨rfl, rfl, rfl, Nat.le_refl _, fun _ _ => rfl⟩
  rw [← hw2] at hHeld H0 ⊢
  clear hw2 H0'
  refine tk (i := 0) (h := ?_)
  try simp only [Act.put, lt, ly, lu]
  refine tk (i := 1) (h := ?_)
  try simp only [Act.put, lt, ly, lu]
  refine wpAnyH_ready (rs := [2]) (by kernel_rfl) (by simp) (AllReadyH.cons (o := ?oq37) ?eq37 ?kq37 AllReadyH.nil)
  case eq37 => simp only [lg, lz, ls]; rfl
  intro K hK; go_simp
  obtain ⟨w3, hw3⟩ : ∃ u, u = w2.alloc (.cells #[.int .i64 1] 3) := ⟨_, rfl⟩
  have b3 : Below w2.heap.size w2 w3 := by rw [hw3]; exact alloc_below _ _
  have hone3 := hid (show IsBig w3 (.slice (some ⟨w2.heap.size, 0, none⟩) 1 1) 1 by rw [hw3]; exact big_one w2)
  rw [← hw3]
  clear hw3
  have hk3 := hcall_le H0 HSZa b3; replace b3 := hid b3; have hk3' := hk3; unfold Held0 at hk3'; clear hHeld H0
  refine hK.out _ _ ?_ (fun hHeld => ?_)
  · (try dsimp only); with_reducible exact hk3'
  clear hK K hk3'; try simp only [Act.put, lt, ly, lu]
  refine wpAnyH_ready (rs := [3]) (by kernel_rfl) (by simp) (AllReadyH.cons (o := ?oq38) ?eq38 ?kq38 AllReadyH.nil)
  case eq38 => simp only [lg, lz, ls]; rfl
  intro K hK; go_simp; go_at_call 97
  refine (compareR_val ec.out (IsRat.bottom (hx.out.keep (Below.step (Below.step b1.out b2.out) b3.out))) hone3.out sd.out (by rw [len_one]; decide)).mono ?_
  rintro e w4 ⟨rfl, b4⟩
  replace b4 := hid b4
  have hk4 := hcall_le hk3 HSZa b4.out; have hk4' := hk4; unfold Held0 at hk4'; clear hHeld hk3
  refine hK.out _ _ ?_ (fun hHeld => ?_)
  · (try dsimp only); with_reducible exact hk4'
  clear hK K hk4'; try simp only [Act.put, lt, ly, lu]
  refine tk (i := 4) (h := ?_)
  try simp only [Act.put, lt, ly, lu]
  refine tk (i := 5) (h := ?_)
  try simp only [Act.put, lt, ly, lu]
  refine tk (i := 6) (h := ?_)
  try simp only [Act.put, lt, ly, lu]
  refine wpAnyH_ready (rs := [7]) (by kernel_rfl) (by simp) (AllReadyH.cons (o := ?oq42) ?eq42 ?kq42 AllReadyH.nil)
  case eq42 => simp only [lg, lz, ls]; rfl
  intro K hK; go_simp; go_at_call 14
  refine (int_any elo.out (by omega) (by omega)).mono ?_
  rintro e w5 ⟨v5, rfl, hv5, b5⟩
  obtain ⟨C3, j3, C4, j4, rfl, -, -⟩ := id hv5.opened
  replace hv5 := hid hv5
  replace b5 := hid b5
  have hk5 := hcall_le hk4 HSZa b5.out; have hk5' := hk5; unfold Held0 at hk5'; clear hHeld hk4
  refine hK.out _ _ ?_ (fun hHeld => ?_)
  · (try dsimp only); with_reducible exact hk5'
  clear hK K hk5'; try simp only [Act.put, lt, ly, lu]
  refine wpAnyH_ready (rs := [8]) (by kernel_rfl) (by simp) (AllReadyH.cons (o := ?oq43) ?eq43 ?kq43 AllReadyH.nil)
  case eq43 => simp only [lg, lz, ls]; rfl
  intro K hK; go_simp; go_at_call 30
  refine (cmpR_any e1.out (hx.out.keep (Below.step (Below.step (Below.step (Below.step b1.out b2.out) b3.out) b4.out) b5.out)) hv5.out sn.out sd.out tl1.out tl2.out).mono ?_
  rintro e w6 ⟨rfl, b6⟩
  replace b6 := hid b6
  have hk6 := hcall_le hk5 HSZa b6.out; have hk6' := hk6; unfold Held0 at hk6'; clear hHeld hk5
  refine hK.out _ _ ?_ (fun hHeld => ?_)
  · (try dsimp only); with_reducible exact hk6'
  clear hK K hk6'; try simp only [Act.put, lt, ly, lu]
  refine tk (i := 9) (h := ?_)
  try simp only [Act.put, lt, ly, lu]
  refine tk (i := 10) (h := ?_)
  try simp only [Act.put, lt, ly, lu]
  refine tk (i := 11) (h := ?_)
  try simp only [Act.put, lt, ly, lu]
  refine tk (i := 12) (h := ?_)
  try simp only [Act.put, lt, ly, lu]
  refine wpAnyH_ready (rs := [13]) (by kernel_rfl) (by simp) (AllReadyH.cons (o := ?oq48) ?eq48 ?kq48 AllReadyH.nil)
  case eq48 => simp only [lg, lz, ls]; rfl
  intro K hK; go_simp; go_at_call 14
  refine (int_any ehi.out (by omega) (by omega)).mono ?_
  rintro e w7 ⟨v7, rfl, hv7, b7⟩
  obtain ⟨C5, j5, C6, j6, rfl, -, -⟩ := id hv7.opened
  replace hv7 := hid hv7
  replace b7 := hid b7
  have hk7 := hcall_le hk6 HSZa b7.out; have hk7' := hk7; unfold Held0 at hk7'; clear hHeld hk6
  refine hK.out _ _ ?_ (fun hHeld => ?_)
  · (try dsimp only); with_reducible exact hk7'
  clear hK K hk7'; try simp only [Act.put, lt, ly, lu]
  refine wpAnyH_ready (rs := [14]) (by kernel_rfl) (by simp) (AllReadyH.cons (o := ?oq49) ?eq49 ?kq49 AllReadyH.nil)
  case eq49 => simp only [lg, lz, ls]; rfl
  intro K hK; go_simp; go_at_call 30
  refine (cmpR_any e2.out (hx.out.keep (Below.step (Below.step (Below.step (Below.step (Below.step (Below.step b1.out b2.out) b3.out) b4.out) b5.out) b6.out) b7.out)) hv7.out sn.out sd.out th1.out th2.out).mono ?_
  rintro e w8 ⟨rfl, b8⟩
  replace b8 := hid b8
  have hk8 := hcall_le hk7 HSZa b8.out; have hk8' := hk8; unfold Held0 at hk8'; clear hHeld hk7
  refine hK.out _ _ ?_ (fun hHeld => ?_)
  · (try dsimp only); with_reducible exact hk8'
  clear hK K hk8'; try simp only [Act.put, lt, ly, lu]
  refine tk (i := 15) (h := ?_)
  try simp only [Act.put, lt, ly, lu]
  refine tk (i := 16) (h := ?_)
  try simp only [Act.put, lt, ly, lu]
  refine wpAnyH_done (by kernel_rfl) ?_ _
  clear hHeld
  clear z_x_0 z_x_1 z_x_2 hlta_x
  clear hk8 HSZa
  have HE := hid (Below.step (Below.step (Below.step (Below.step (Below.step (Below.step (Below.step b1.out b2.out) b3.out) b4.out) b5.out) b6.out) b7.out) b8.out)
  go_wp2_with fail
  go_ret2
  exact ⟨rfl, HE.out⟩
def sgnI (m : Bool) (x : Nat) : Int := if m then -((x : Nat) : Int) else ((x : Nat) : Int)
theorem i64_step {m : Bool} {N k : Nat} {i : Int} (hN : sgnI m N = i) (h1 : -9223372036854775808 ≤ i) (h2 : i ≤ 9223372036854775807) : ∀ a d z : Nat, N / V ^ (k + 1) = a → word N k = d → N / V ^ k = z →
    IntKind.i64.wrap (sgnI m a * 65536) = sgnI m (a * 65536) ∧ (m = true → IntKind.i64.wrap (sgnI m (a * 65536) - (d : Nat)) = sgnI m z) ∧ (m = false → IntKind.i64.wrap (sgnI m (a * 65536) + (d : Nat)) = sgnI m z) := by
  intro a d z ha hd hz
  have e1 : z = a * 65536 + d := by
    rw [← ha, ← hd, ← hz]
    have h3 : N / V ^ (k + 1) = N / V ^ k / V := by rw [Nat.pow_succ, Nat.div_div_eq_div_mul]
    have h4 : word N k = N / V ^ k % V := rfl
    have h5 : V = 65536 := rfl
    rw [h3, h4, h5]
    omega
  have e2 : z ≤ N := by rw [← hz]; exact Nat.div_le_self _ _
  subst hN
  cases m
  · simp only [sgnI, Bool.false_eq_true, if_false] at *
    simp only [IntKind.wrap_i64]
    refine ⟨by omega, ?_, ?_⟩ <;> intro k <;> first | exact absurd k (by decide) | exact k.elim | omega
  · simp only [sgnI, if_true] at *
    simp only [IntKind.wrap_i64]
    refine ⟨by omega, ?_, ?_⟩ <;> intro k <;> first | exact absurd k (by decide) | exact k.elim | omega
theorem sgnI_zero (m : Bool) : sgnI m 0 = 0 := by cases m <;> rfl
theorem num_sgnI (p : Rat) : sgnI (decide (p.num < 0)) p.num.natAbs = p.num := by
  unfold sgnI
  split
  · rename_i h; have := of_decide_eq_true h; omega
  · rename_i h; have : ¬ p.num < 0 := fun k => h (decide_eq_true k); omega
theorem r64_in {w : World} {vx : Value} {p : Rat} {n : Int} {b : Bool} (h : i64Of p = (n, b)) (hd : p.den = 1) (h1 : -9223372036854775808 ≤ p.num) (h2 : p.num ≤ 9223372036854775807) (hx : IsRat w vx p) (sp : siz p ≤ 268435456) :
    Calls Tryz.prog 19 #[vx] w (I64Ret w n b) := by
  have sn := hid (big_len sp).1
  have sd := hid (big_len sp).2
  clear sp
  obtain ⟨en, rfl⟩ := i64_yes h hd h1 h2
  have ec := hid (show cmpN p.den 1 = 0 by rw [hd]; exact cmpN_eq 1)
  obtain ⟨lo, elo⟩ : ∃ z : Rat, ((-9223372036854775808 : Int) : Rat) = z := ⟨_, rfl⟩
  obtain ⟨tl1, tl2⟩ := int_small elo (by omega) (by omega)
  have tl1 := hid (show len lo.num.natAbs ≤ 1073741824 by omega)
  have tl2 := hid (show len lo.den ≤ 1073741824 by omega)
  obtain ⟨c1, e1⟩ : ∃ z : Int, cmpQ p lo = z := ⟨_, rfl⟩
  obtain ⟨hi, ehi⟩ : ∃ z : Rat, ((9223372036854775807 : Int) : Rat) = z := ⟨_, rfl⟩
  obtain ⟨th1, th2⟩ := int_small ehi (by omega) (by omega)
  have th1 := hid (show len hi.num.natAbs ≤ 1073741824 by omega)
  have th2 := hid (show len hi.den ≤ 1073741824 by omega)
  obtain ⟨c2, e2⟩ : ∃ z : Int, cmpQ p hi = z := ⟨_, rfl⟩
  have d1 : decide (c1 < 0) = false := decide_eq_false (by rw [← e1, ← elo]; exact fun k => absurd ((low_cmp hd).1 k) (by omega))
  have d2 : decide (c2 > 0) = false := decide_eq_false (by rw [← e2, ← ehi]; exact fun k => absurd ((high_cmp hd).1 k) (by omega))
  replace e1 := hid e1
  replace elo := hid elo
  replace e2 := hid e2
  replace ehi := hid ehi
  have HST := hid (fun k => i64_step (k := k) (num_sgnI p) h1 h2)
  have HN := hid ((num_sgnI p).trans en)
  replace en := hid en
  clear h hd h1 h2
  obtain ⟨C1, j1, C2, j2, rfl, -, -⟩ := id hx.opened
  replace hx := hid hx
  obtain ⟨w1, hw1⟩ : ∃ u, u = (w.alloc (.cells #[.bool (decide (p.num < 0)), .slice C1 (len p.num.natAbs) j1, .slice C2 (len p.den) j2] 33)) := ⟨_, rfl⟩
  have b1 := alloc_below w (.cells #[.bool (decide (p.num < 0)), .slice C1 (len p.num.natAbs) j1, .slice C2 (len p.den) j2] 33)
  have g1 := heap_alloc_new w (.cells #[.bool (decide (p.num < 0)), .slice C1 (len p.num.natAbs) j1, .slice C2 (len p.den) j2] 33)
  rw [← hw1] at b1 g1
  replace g1 := hid g1
  replace b1 := hid b1
  go_enter Tryz.func19, Tryz.ntmps19
  go_upto_region 1 with fail
  rw [← hw1]
  clear hw1
  go_wp2_with fail
  have HSZa : Hid ((w.heap.size + 1) ≤ w1.heap.size) := hid (by have := at_lt (at_keep g1.out (Below.refl _ w1)); omega)
  have hg : w1.heap[w.heap.size]? = some (.cells #[.bool (decide (p.num < 0)), .slice C1 (len p.num.natAbs) j1, .slice C2 (len p.den) j2] 33 (0, 0)) := ((Below.refl _ w1).block _ (Array.getElem?_eq_some_iff.1 g1.out).1).trans g1.out
  obtain ⟨z_x_0, z_x_1, z_x_2⟩ := cells3 hg
  clear hg
  have hlta_x : w.heap.size < (w.heap.size + 1) := by omega
  have H0 := Held0.start w1 (w.heap.size + 1)
  have H0' := H0
  unfold Held0 at H0'
  refine wp_region_held_drew (S := (fun w' => (∀ b o, b < (w.heap.size + 1) → w'.cell? ⟨b, o, none⟩ = w1.cell? ⟨b, o, none⟩) ∧ Below ((w.heap.size + 1)) w1 w' ∧ Stay w1 w')) (by kernel_rfl) ?_ (fun hHeld => ?_)
  · (try dsimp only)
    exact H0'
  obtain ⟨w2, hw2⟩ : ∃ u, u = w1.drew := ⟨_, rfl⟩
  have b2 : Hid (Below w1.heap.size w1 w2) := by rw [hw2]; exact ⟨rfl, rfl, rfl, Nat.le_refl _, fun _ _ => rfl⟩
  rw [← hw2] at hHeld H0 ⊢
  clear hw2 H0'
  refine tk (i := 0) (h := ?_)
  try simp only [Act.put, lt, ly, lu]
  refine tk (i := 1) (h := ?_)
  try simp only [Act.put, lt, ly, lu]
  refine wpAnyH_ready (rs := [2]) (by kernel_rfl) (by simp) (AllReadyH.cons (o := ?oq54) ?eq54 ?kq54 AllReadyH.nil)
  case eq54 => simp only [lg, lz, ls]; rfl
  intro K hK; go_simp
  obtain ⟨w3, hw3⟩ : ∃ u, u = w2.alloc (.cells #[.int .i64 1] 3) := ⟨_, rfl⟩
  have b3 : Below w2.heap.size w2 w3 := by rw [hw3]; exact alloc_below _ _
  have hone3 := hid (show IsBig w3 (.slice (some ⟨w2.heap.size, 0, none⟩) 1 1) 1 by rw [hw3]; exact big_one w2)
  rw [← hw3]
  clear hw3
  have hk3 := hcall_le H0 HSZa b3; replace b3 := hid b3; have hk3' := hk3; unfold Held0 at hk3'; clear hHeld H0
  refine hK.out _ _ ?_ (fun hHeld => ?_)
  · (try dsimp only); with_reducible exact hk3'
  clear hK K hk3'; try simp only [Act.put, lt, ly, lu]
  refine wpAnyH_ready (rs := [3]) (by kernel_rfl) (by simp) (AllReadyH.cons (o := ?oq55) ?eq55 ?kq55 AllReadyH.nil)
  case eq55 => simp only [lg, lz, ls]; rfl
  intro K hK; go_simp; go_at_call 97
  refine (compareR_val ec.out (IsRat.bottom (hx.out.keep (Below.step (Below.step b1.out b2.out) b3.out))) hone3.out sd.out (by rw [len_one]; decide)).mono ?_
  rintro e w4 ⟨rfl, b4⟩
  replace b4 := hid b4
  have hk4 := hcall_le hk3 HSZa b4.out; have hk4' := hk4; unfold Held0 at hk4'; clear hHeld hk3
  refine hK.out _ _ ?_ (fun hHeld => ?_)
  · (try dsimp only); with_reducible exact hk4'
  clear hK K hk4'; try simp only [Act.put, lt, ly, lu]
  refine tk (i := 4) (h := ?_)
  try simp only [Act.put, lt, ly, lu]
  refine tk (i := 5) (h := ?_)
  try simp only [Act.put, lt, ly, lu]
  refine tk (i := 6) (h := ?_)
  try simp only [Act.put, lt, ly, lu]
  refine wpAnyH_ready (rs := [7]) (by kernel_rfl) (by simp) (AllReadyH.cons (o := ?oq59) ?eq59 ?kq59 AllReadyH.nil)
  case eq59 => simp only [lg, lz, ls]; rfl
  intro K hK; go_simp; go_at_call 14
  refine (int_any elo.out (by omega) (by omega)).mono ?_
  rintro e w5 ⟨v5, rfl, hv5, b5⟩
  obtain ⟨C3, j3, C4, j4, rfl, -, -⟩ := id hv5.opened
  replace hv5 := hid hv5
  replace b5 := hid b5
  have hk5 := hcall_le hk4 HSZa b5.out; have hk5' := hk5; unfold Held0 at hk5'; clear hHeld hk4
  refine hK.out _ _ ?_ (fun hHeld => ?_)
  · (try dsimp only); with_reducible exact hk5'
  clear hK K hk5'; try simp only [Act.put, lt, ly, lu]
  refine wpAnyH_ready (rs := [8]) (by kernel_rfl) (by simp) (AllReadyH.cons (o := ?oq60) ?eq60 ?kq60 AllReadyH.nil)
  case eq60 => simp only [lg, lz, ls]; rfl
  intro K hK; go_simp; go_at_call 30
  refine (cmpR_any e1.out (hx.out.keep (Below.step (Below.step (Below.step (Below.step b1.out b2.out) b3.out) b4.out) b5.out)) hv5.out sn.out sd.out tl1.out tl2.out).mono ?_
  rintro e w6 ⟨rfl, b6⟩
  replace b6 := hid b6
  have hk6 := hcall_le hk5 HSZa b6.out; have hk6' := hk6; unfold Held0 at hk6'; clear hHeld hk5
  refine hK.out _ _ ?_ (fun hHeld => ?_)
  · (try dsimp only); with_reducible exact hk6'
  clear hK K hk6'; try simp only [Act.put, lt, ly, lu]
  refine tk (i := 9) (h := ?_)
  try simp only [Act.put, lt, ly, lu]
  refine tk (i := 10) (h := ?_)
  try simp only [Act.put, lt, ly, lu]
  refine tk (i := 11) (h := ?_)
  try simp only [Act.put, lt, ly, lu]
  refine tk (i := 12) (h := ?_)
  try simp only [Act.put, lt, ly, lu]
  refine wpAnyH_ready (rs := [13]) (by kernel_rfl) (by simp) (AllReadyH.cons (o := ?oq65) ?eq65 ?kq65 AllReadyH.nil)
  case eq65 => simp only [lg, lz, ls]; rfl
  intro K hK; go_simp; go_at_call 14
  refine (int_any ehi.out (by omega) (by omega)).mono ?_
  rintro e w7 ⟨v7, rfl, hv7, b7⟩
  obtain ⟨C5, j5, C6, j6, rfl, -, -⟩ := id hv7.opened
  replace hv7 := hid hv7
  replace b7 := hid b7
  have hk7 := hcall_le hk6 HSZa b7.out; have hk7' := hk7; unfold Held0 at hk7'; clear hHeld hk6
  refine hK.out _ _ ?_ (fun hHeld => ?_)
  · (try dsimp only); with_reducible exact hk7'
  clear hK K hk7'; try simp only [Act.put, lt, ly, lu]
  refine wpAnyH_ready (rs := [14]) (by kernel_rfl) (by simp) (AllReadyH.cons (o := ?oq66) ?eq66 ?kq66 AllReadyH.nil)
  case eq66 => simp only [lg, lz, ls]; rfl
  intro K hK; go_simp; go_at_call 30
  refine (cmpR_any e2.out (hx.out.keep (Below.step (Below.step (Below.step (Below.step (Below.step (Below.step b1.out b2.out) b3.out) b4.out) b5.out) b6.out) b7.out)) hv7.out sn.out sd.out th1.out th2.out).mono ?_
  rintro e w8 ⟨rfl, b8⟩
  replace b8 := hid b8
  have hk8 := hcall_le hk7 HSZa b8.out; have hk8' := hk8; unfold Held0 at hk8'; clear hHeld hk7
  refine hK.out _ _ ?_ (fun hHeld => ?_)
  · (try dsimp only); with_reducible exact hk8'
  clear hK K hk8'; try simp only [Act.put, lt, ly, lu]
  refine tk (i := 15) (h := ?_)
  try simp only [Act.put, lt, ly, lu]
  refine tk (i := 16) (h := ?_)
  try simp only [Act.put, lt, ly, lu]
  refine wpAnyH_done (by kernel_rfl) ?_ _
  clear hHeld
  clear z_x_0 z_x_1 z_x_2 hlta_x
  clear hk8 HSZa ec elo ehi e1 e2 tl1 tl2 th1 th2 sd d1 d2
  have hg : w8.heap[w.heap.size]? = some (.cells #[.bool (decide (p.num < 0)), .slice C1 (len p.num.natAbs) j1, .slice C2 (len p.den) j2] 33 (0, 0)) := ((Below.step (Below.step (Below.step (Below.step (Below.step (Below.step b2.out b3.out) b4.out) b5.out) b6.out) b7.out) b8.out).block _ (Array.getElem?_eq_some_iff.1 g1.out).1).trans g1.out
  obtain ⟨z_x_0, z_x_1, z_x_2⟩ := cells3 hg
  clear hg
  have hT := IsRat.top (hx.out.keep (Below.step (Below.step (Below.step (Below.step (Below.step (Below.step (Below.step b1.out b2.out) b3.out) b4.out) b5.out) b6.out) b7.out) b8.out))
  have HE := hid (Below.step (Below.step (Below.step (Below.step (Below.step (Below.step (Below.step b1.out b2.out) b3.out) b4.out) b5.out) b6.out) b7.out) b8.out)
  obtain ⟨N, hNN⟩ : ∃ z, p.num.natAbs = z := ⟨_, rfl⟩
  obtain ⟨m, hm⟩ : ∃ z, decide (p.num < 0) = z := ⟨_, rfl⟩
  rw [hNN, hm] at HST HN
  rw [hNN] at hT sn
  rw [hNN] at z_x_1
  rw [hm] at z_x_0
  have hT0 := hT
  obtain ⟨l, hl⟩ : ∃ z, len N = z := ⟨_, rfl⟩
  unfold IsBig at hT
  rw [hl] at hT hT0 sn z_x_1
  have hbig : N / V ^ l = 0 := Nat.div_eq_of_lt (by rw [← hl]; exact lt_len N)
  have hl4 := sn.out
  try simp only [hNN, hm, hl]
  replace hT := hid hT
  replace hbig := hid hbig
  clear hT0
  replace hNN := hid hNN
  replace hm := hid hm
  replace hl := hid hl
  skip
  go_upto_region 4 with fail
  have v0 : IntKind.i64.wrap (((l : Nat) : Int) - 1) = downI l := by rw [downI_eq]; simp only [IntKind.wrap_i64]; omega
  go_wp2_with fail
  clear v0
  go_loop [4, 5] (fun nv iv => ∃ k : Nat, k ≤ l ∧ iv = .int .i64 (downI k) ∧ nv = .int .i64 (sgnI m (N / V ^ k))) (fun _ iv => (intOf iv + 1).toNat)
  case atStart => exact ⟨l, Nat.le_refl _, by rw [downI_eq], by rw [hbig.out, sgnI_zero]⟩
  case round =>
    obtain ⟨k, hk, rfl, rfl⟩ := hrel
    rcases k with _ | k
    · rw [show downI 0 = -1 from rfl, Nat.pow_zero, Nat.div_one, HN.out]
      go_wp2_with fail
      go_ret2
      exact ⟨rfl, HE.out⟩
    · obtain ⟨a, ha⟩ : ∃ z, N / V ^ (k + 1) = z := ⟨_, rfl⟩
      obtain ⟨d, hd⟩ : ∃ z, word N k = z := ⟨_, rfl⟩
      obtain ⟨z, hz⟩ : ∃ z, N / V ^ k = z := ⟨_, rfl⟩
      obtain ⟨s1, s2, s3⟩ := HST.out k a d z ha hd hz
      obtain ⟨g, o, rfl, hc⟩ := BReads.at hT.out (k := k) (by omega)
      rw [hd] at hc
      rw [ha]
      obtain ⟨A, hA⟩ : ∃ y, sgnI m a = y := ⟨_, rfl⟩
      obtain ⟨B, hB⟩ : ∃ y, sgnI m (a * 65536) = y := ⟨_, rfl⟩
      obtain ⟨C, hC⟩ : ∃ y, sgnI m z = y := ⟨_, rfl⟩
      rw [hA, hB] at s1
      rw [hB, hC] at s2 s3
      rw [hA]
      replace hC := hid hC
      replace hz := hid hz
      clear ha hd hA hB
      have v1 : IntKind.i64.wrap (((k : Nat) : Int) - 1) = downI k := by rw [downI_eq]; simp only [IntKind.wrap_i64]; omega
      have v2 : decide (((k : Nat) : Int) ≥ 0) = true := decide_eq_true (by omega)
      rw [show downI (k + 1) = ((k : Nat) : Int) from rfl]
      rcases m with _ | _
      · have s4 := s3 rfl
        clear s2 s3
        go_wp2_with fail
        go_round
        case rel => exact ⟨k, by omega, by first | rfl | rw [downI_eq], by rw [hz.out, hC.out]⟩
        case measure => simp [intOf, downI_eq]
      · have s4 := s2 rfl
        clear s2 s3
        go_wp2_with fail
        go_round
        case rel => exact ⟨k, by omega, by first | rfl | rw [downI_eq], by rw [hz.out, hC.out]⟩
        case measure => simp [intOf, downI_eq]
theorem refI64_any {w : World} {vx : Value} {p : Rat} {n : Int} {b : Bool} (h : i64Of p = (n, b)) (hx : IsRat w vx p) (sp : siz p ≤ 268435456) : Calls Tryz.prog 19 #[vx] w (I64Ret w n b) := by
  rcases Decidable.em (p.den = 1) with hd | hd
  · rcases Decidable.em (p.num < -9223372036854775808) with h1 | h1
    · exact r64_low h hd h1 hx sp
    · rcases Decidable.em (9223372036854775807 < p.num) with h2 | h2
      · exact r64_high h hd h2 hx sp
      · exact r64_in h hd (by omega) (by omega) hx sp
  · exact r64_frac h hd hx sp
end Go.Proofs.YtfppimacnhcflaaGreatDoor.Rf
