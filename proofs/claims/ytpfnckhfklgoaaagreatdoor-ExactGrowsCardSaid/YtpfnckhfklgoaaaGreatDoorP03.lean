/-
  Contracts of the functions that the law calls, for every input (BoxP LawF GrV).
-/
import Derived.Test.YtpfnckhfklgoaaaGreatDoorP01
import Derived.Test.YtpfnckhfklgoaaaGreatDoorJ30
import Derived.Test.YtpfnckhfklgoaaaGreatDoorJ27
import Derived.Test.YtpfnckhfklgoaaaGreatDoorP02
set_option linter.all false
namespace Go.Proofs.YtpfnckhfklgoaaaGreatDoor
open Go.RowKit
open Vx

/-- A box and a truth are returned; nothing old has changed. -/
def BoxBoolRet (w : World) (a b : Rat) (c : Bool) (e : Ending) (w' : World) : Prop := ∃ v, e = .returned (.tuple #[v, .bool c]) ∧ IsBox w' v a b ∧ Below w.heap.size w w'
theorem NumsAt.keep {w w' : World} {b o : Nat} {l : List Rat} (h : NumsAt w b o l) (hb : Below w.heap.size w w') : NumsAt w' b o l := by
  intro i q hi
  obtain ⟨p, h1, h2, h3, h4⟩ := h i q hi
  exact ⟨p, (hb.cell (World.block_lt_of_cell? w _ h1)).trans h1, (hb.cell (World.block_lt_of_cell? w _ h2)).trans h2, (hb.cell (World.block_lt_of_cell? w _ h3)).trans h3, IsNum.keep h4 hb⟩
theorem nums_one {w : World} {q : Rat} {s : Bool} {A1 A2 : Option Addr} {n1 c1 n2 c2 : Nat} (h : IsNum w (.agg #[.bool s, .slice A1 n1 c1, .slice A2 n2 c2]) q) :
    NumsAt (w.alloc (.cells #[.bool s, .slice A1 n1 c1, .slice A2 n2 c2] 27)) w.heap.size 0 [q] := by
  have hb : Below w.heap.size w (w.alloc (.cells #[.bool s, .slice A1 n1 c1, .slice A2 n2 c2] 27)) := (Below.refl _ _).alloc (Nat.le_refl _) _
  have hg : (w.alloc (.cells #[.bool s, .slice A1 n1 c1, .slice A2 n2 c2] 27)).heap[w.heap.size]? = some (.cells #[.bool s, .slice A1 n1 c1, .slice A2 n2 c2] 27 (0, 0)) := heap_alloc_new w _
  intro i r hi
  match i, hi with
  | 0, hi =>
    obtain rfl := Option.some.inj hi
    exact ⟨⟨s, A1, n1, c1, A2, n2, c2⟩, cell_of_row _ _ 0 _ _ _ hg, cell_of_row _ _ 1 _ _ _ hg, cell_of_row _ _ 2 _ _ _ hg, IsNum.keep h hb⟩
  | _ + 1, hi => exact absurd hi (by simp)
theorem span_row {w : World} {vx : Value} {x q p r : Rat} {n : Nat} (h1 : leastOf x [q] = p) (h2 : greatestOf x [q] = r) (hx : IsNum w vx x) (hl : NumsAt w n 0 [q]) (hs : siz x ≤ 536870912) (ht : siz q ≤ 536870912) :
    Calls Tryz.prog 86 #[vx, .slice (some ⟨n, 0, none⟩) 1 1] w (BoxRet w p r) := by
  rw [← h1, ← h2]
  exact span_any (l := [q]) hx hl (by simp) (Nat.le_trans hs (by omega)) (fun y hy => by
    simp only [List.mem_cons, List.not_mem_nil, or_false] at hy
    rw [hy]; exact Nat.le_trans ht (by omega))
theorem field_hi (s t : Bool) (A B C D : Option Addr) (n c m d k e l f : Nat) (w : World) : (Instr.field 53 (.agg #[.bool s, .slice A n c, .slice B m d, .bool t, .slice C k e, .slice D l f]) 1).run Tryz.prog w = .ok (.agg #[.bool t, .slice C k e, .slice D l f]) w := by kernel_rfl
theorem field_lo (s t : Bool) (A B C D : Option Addr) (n c m d k e l f : Nat) (w : World) : (Instr.field 53 (.agg #[.bool s, .slice A n c, .slice B m d, .bool t, .slice C k e, .slice D l f]) 0).run Tryz.prog w = .ok (.agg #[.bool s, .slice A n c, .slice B m d]) w := by kernel_rfl
theorem held6_alloc {wB wS w : World} {g : Nat} (o : Obj) (h : Held6 wB g wS w) : Held6 wB g wS (w.alloc o) := h.call ((Below.refl _ _).alloc (Nat.le_refl _) _)

set_option maxRecDepth 100000 in
set_option maxHeartbeats 8000000 in
theorem boxMeet_none1 {w : World} {v u : Value} {a b c d : Rat} (hv : IsBox w v a b) (hu : IsBox w u c d) (sa : siz a ≤ 536870912) (sb : siz b ≤ 536870912) (sc : siz c ≤ 536870912) (sd : siz d ≤ 536870912) (h : b < c) :
    Calls Tryz.prog 46 #[v, u] w (BoxBoolRet w 0 0 false) := by
  have za := Lib.hid sa
  have zb := Lib.hid sb
  have zc := Lib.hid sc
  have zd := Lib.hid sd
  obtain ⟨A1, c1, A2, c2, A3, c3, A4, c4, rfl, ha, hb⟩ := hv.opened
  obtain ⟨A5, c5, A6, c6, A7, c7, A8, c8, rfl, hc, hd⟩ := hu.opened
  obtain ⟨wB, hwB⟩ : ∃ u, u = ((w.alloc (.cells #[.bool (decide (a.num < 0)), .slice A1 (len a.num.natAbs) c1, .slice A2 (len (below a.den)) c2, .bool (decide (b.num < 0)), .slice A3 (len b.num.natAbs) c3, .slice A4 (len (below b.den)) c4] 53)).alloc (.cells #[.bool (decide (c.num < 0)), .slice A5 (len c.num.natAbs) c5, .slice A6 (len (below c.den)) c6, .bool (decide (d.num < 0)), .slice A7 (len d.num.natAbs) c7, .slice A8 (len (below d.den)) c8] 53)).alloc (.cells #[.bool false, .slice none 0 0, .slice none 0 0, .bool false, .slice none 0 0, .slice none 0 0] 53) := ⟨_, rfl⟩
  obtain ⟨b0, g0, g1, g2⟩ := news3 w (.cells #[.bool (decide (a.num < 0)), .slice A1 (len a.num.natAbs) c1, .slice A2 (len (below a.den)) c2, .bool (decide (b.num < 0)), .slice A3 (len b.num.natAbs) c3, .slice A4 (len (below b.den)) c4] 53) (.cells #[.bool (decide (c.num < 0)), .slice A5 (len c.num.natAbs) c5, .slice A6 (len (below c.den)) c6, .bool (decide (d.num < 0)), .slice A7 (len d.num.natAbs) c7, .slice A8 (len (below d.den)) c8] 53) (.cells #[.bool false, .slice none 0 0, .slice none 0 0, .bool false, .slice none 0 0, .slice none 0 0] 53)
  rw [← hwB] at b0 g0 g1 g2
  have k0 : wB.cell? ⟨w.heap.size, 0, none⟩ = some (.bool (decide (a.num < 0))) := cell_of_row _ _ _ _ _ _ g0
  have k1 : wB.cell? ⟨w.heap.size, 1, none⟩ = some (.slice A1 (len a.num.natAbs) c1) := cell_of_row _ _ _ _ _ _ g0
  have k2 : wB.cell? ⟨w.heap.size, 2, none⟩ = some (.slice A2 (len (below a.den)) c2) := cell_of_row _ _ _ _ _ _ g0
  have k3 : wB.cell? ⟨w.heap.size, 3, none⟩ = some (.bool (decide (b.num < 0))) := cell_of_row _ _ _ _ _ _ g0
  have k4 : wB.cell? ⟨w.heap.size, 4, none⟩ = some (.slice A3 (len b.num.natAbs) c3) := cell_of_row _ _ _ _ _ _ g0
  have k5 : wB.cell? ⟨w.heap.size, 5, none⟩ = some (.slice A4 (len (below b.den)) c4) := cell_of_row _ _ _ _ _ _ g0
  have k6 : wB.cell? ⟨w.heap.size + 1, 0, none⟩ = some (.bool (decide (c.num < 0))) := cell_of_row _ _ _ _ _ _ g1
  have k7 : wB.cell? ⟨w.heap.size + 1, 1, none⟩ = some (.slice A5 (len c.num.natAbs) c5) := cell_of_row _ _ _ _ _ _ g1
  have k8 : wB.cell? ⟨w.heap.size + 1, 2, none⟩ = some (.slice A6 (len (below c.den)) c6) := cell_of_row _ _ _ _ _ _ g1
  have k9 : wB.cell? ⟨w.heap.size + 1, 3, none⟩ = some (.bool (decide (d.num < 0))) := cell_of_row _ _ _ _ _ _ g1
  have k10 : wB.cell? ⟨w.heap.size + 1, 4, none⟩ = some (.slice A7 (len d.num.natAbs) c7) := cell_of_row _ _ _ _ _ _ g1
  have k11 : wB.cell? ⟨w.heap.size + 1, 5, none⟩ = some (.slice A8 (len (below d.den)) c8) := cell_of_row _ _ _ _ _ _ g1
  have HK0 := Lib.hid (Kept.start (T := 53) rfl plain6 g2)
  have HB0 := Lib.hid b0
  have hlt1 : w.heap.size < w.heap.size + 2 := by omega
  have hlt2 : w.heap.size + 1 < w.heap.size + 2 := by omega
  clear g0 g1 g2 b0
  replace ha := Lib.hid (ha.keep HB0.out)
  replace hb := Lib.hid (hb.keep HB0.out)
  replace hc := Lib.hid (hc.keep HB0.out)
  replace hd := Lib.hid (hd.keep HB0.out)
  obtain ⟨x1, ex1⟩ : ∃ z : Int, cmpQ b c = z := ⟨_, rfl⟩
  obtain ⟨x2, ex2⟩ : ∃ z : Int, cmpQ d a = z := ⟨_, rfl⟩
  have d1 : decide (x1 < 0) = true := decide_eq_true (by rw [← ex1]; exact cmpQ_lt0.2 h)
  replace ex1 := Lib.hid ex1
  replace ex2 := Lib.hid ex2
  clear hv hu sa sb sc sd
  go_enter Tryz.func46, Tryz.ntmps46
  go_upto_region 1 with fail
  rw [← hwB]
  clear hwB
  have HX := Lib.hid (cmp_val ex1.out hb.out hc.out zb.out zc.out)
  go_wp2_with fail
  refine (HX.out).mono ?_
  rintro e w1 ⟨rfl, b1⟩
  have HK1 := Lib.hid (HK0.out.call b1)
  replace b1 := Lib.hid b1
  have hc1 := below_cell HK1.out.1
  clear HX
  have hk := HK1.out.held6 (Stay.refl _)
  have hk' := hk
  unfold Held6 at hk'
  obtain ⟨-, c0, c1', c2', c3', c4', c5', f0, f1, f2, f3, f4, f5, -⟩ := hk'
  have HD := hk.done (p := 0) (q := 0) (s1 := false) (A1 := none) (n1 := 0) (c1 := 0) (A2 := none) (n2 := 0) (c2 := 0) (s2 := false) (A3 := none) (n3 := 0) (c3 := 0) (A4 := none) (n4 := 0) (c4 := 0) (zero_num _) (zero_num _)
  obtain ⟨d1, d2, d3⟩ := HD
  have r0 := cell_of_row _ _ 0 _ _ _ d3
  have r1 := cell_of_row _ _ 1 _ _ _ d3
  have r2 := cell_of_row _ _ 2 _ _ _ d3
  have r3 := cell_of_row _ _ 3 _ _ _ d3
  have r4 := cell_of_row _ _ 4 _ _ _ d3
  have r5 := cell_of_row _ _ 5 _ _ _ d3
  simp only [List.getElem?_toArray, List.getElem?_cons_zero, List.getElem?_cons_succ] at r0 r1 r2 r3 r4 r5
  have HD := Lib.hid (And.intro d1 d2)
  clear d1 d2 d3
  go_wp2_with fail
  refine bodyPost_ret (v := .tuple #[.agg #[.bool false, .slice none 0 0, .slice none 0 0, .bool false, .slice none 0 0, .slice none 0 0], .bool false]) ?_ rfl ⟨_, rfl, HD.out.1, below_to HB0.out (by omega) HD.out.2⟩
  simp [results, Tryz.results46, go_sem, r0, r1, r2, r3, r4, r5]

set_option maxRecDepth 100000 in
set_option maxHeartbeats 8000000 in
theorem boxMeet_none2 {w : World} {v u : Value} {a b c d : Rat} (hv : IsBox w v a b) (hu : IsBox w u c d) (sa : siz a ≤ 536870912) (sb : siz b ≤ 536870912) (sc : siz c ≤ 536870912) (sd : siz d ≤ 536870912) (h : ¬ b < c) (h2 : d < a) :
    Calls Tryz.prog 46 #[v, u] w (BoxBoolRet w 0 0 false) := by
  have za := Lib.hid sa
  have zb := Lib.hid sb
  have zc := Lib.hid sc
  have zd := Lib.hid sd
  obtain ⟨A1, c1, A2, c2, A3, c3, A4, c4, rfl, ha, hb⟩ := hv.opened
  obtain ⟨A5, c5, A6, c6, A7, c7, A8, c8, rfl, hc, hd⟩ := hu.opened
  obtain ⟨wB, hwB⟩ : ∃ u, u = ((w.alloc (.cells #[.bool (decide (a.num < 0)), .slice A1 (len a.num.natAbs) c1, .slice A2 (len (below a.den)) c2, .bool (decide (b.num < 0)), .slice A3 (len b.num.natAbs) c3, .slice A4 (len (below b.den)) c4] 53)).alloc (.cells #[.bool (decide (c.num < 0)), .slice A5 (len c.num.natAbs) c5, .slice A6 (len (below c.den)) c6, .bool (decide (d.num < 0)), .slice A7 (len d.num.natAbs) c7, .slice A8 (len (below d.den)) c8] 53)).alloc (.cells #[.bool false, .slice none 0 0, .slice none 0 0, .bool false, .slice none 0 0, .slice none 0 0] 53) := ⟨_, rfl⟩
  obtain ⟨b0, g0, g1, g2⟩ := news3 w (.cells #[.bool (decide (a.num < 0)), .slice A1 (len a.num.natAbs) c1, .slice A2 (len (below a.den)) c2, .bool (decide (b.num < 0)), .slice A3 (len b.num.natAbs) c3, .slice A4 (len (below b.den)) c4] 53) (.cells #[.bool (decide (c.num < 0)), .slice A5 (len c.num.natAbs) c5, .slice A6 (len (below c.den)) c6, .bool (decide (d.num < 0)), .slice A7 (len d.num.natAbs) c7, .slice A8 (len (below d.den)) c8] 53) (.cells #[.bool false, .slice none 0 0, .slice none 0 0, .bool false, .slice none 0 0, .slice none 0 0] 53)
  rw [← hwB] at b0 g0 g1 g2
  have k0 : wB.cell? ⟨w.heap.size, 0, none⟩ = some (.bool (decide (a.num < 0))) := cell_of_row _ _ _ _ _ _ g0
  have k1 : wB.cell? ⟨w.heap.size, 1, none⟩ = some (.slice A1 (len a.num.natAbs) c1) := cell_of_row _ _ _ _ _ _ g0
  have k2 : wB.cell? ⟨w.heap.size, 2, none⟩ = some (.slice A2 (len (below a.den)) c2) := cell_of_row _ _ _ _ _ _ g0
  have k3 : wB.cell? ⟨w.heap.size, 3, none⟩ = some (.bool (decide (b.num < 0))) := cell_of_row _ _ _ _ _ _ g0
  have k4 : wB.cell? ⟨w.heap.size, 4, none⟩ = some (.slice A3 (len b.num.natAbs) c3) := cell_of_row _ _ _ _ _ _ g0
  have k5 : wB.cell? ⟨w.heap.size, 5, none⟩ = some (.slice A4 (len (below b.den)) c4) := cell_of_row _ _ _ _ _ _ g0
  have k6 : wB.cell? ⟨w.heap.size + 1, 0, none⟩ = some (.bool (decide (c.num < 0))) := cell_of_row _ _ _ _ _ _ g1
  have k7 : wB.cell? ⟨w.heap.size + 1, 1, none⟩ = some (.slice A5 (len c.num.natAbs) c5) := cell_of_row _ _ _ _ _ _ g1
  have k8 : wB.cell? ⟨w.heap.size + 1, 2, none⟩ = some (.slice A6 (len (below c.den)) c6) := cell_of_row _ _ _ _ _ _ g1
  have k9 : wB.cell? ⟨w.heap.size + 1, 3, none⟩ = some (.bool (decide (d.num < 0))) := cell_of_row _ _ _ _ _ _ g1
  have k10 : wB.cell? ⟨w.heap.size + 1, 4, none⟩ = some (.slice A7 (len d.num.natAbs) c7) := cell_of_row _ _ _ _ _ _ g1
  have k11 : wB.cell? ⟨w.heap.size + 1, 5, none⟩ = some (.slice A8 (len (below d.den)) c8) := cell_of_row _ _ _ _ _ _ g1
  have HK0 := Lib.hid (Kept.start (T := 53) rfl plain6 g2)
  have HB0 := Lib.hid b0
  have hlt1 : w.heap.size < w.heap.size + 2 := by omega
  have hlt2 : w.heap.size + 1 < w.heap.size + 2 := by omega
  clear g0 g1 g2 b0
  replace ha := Lib.hid (ha.keep HB0.out)
  replace hb := Lib.hid (hb.keep HB0.out)
  replace hc := Lib.hid (hc.keep HB0.out)
  replace hd := Lib.hid (hd.keep HB0.out)
  obtain ⟨x1, ex1⟩ : ∃ z : Int, cmpQ b c = z := ⟨_, rfl⟩
  obtain ⟨x2, ex2⟩ : ∃ z : Int, cmpQ d a = z := ⟨_, rfl⟩
  have d1 : decide (x1 < 0) = false := decide_eq_false (by rw [← ex1]; exact fun k => h (cmpQ_lt0.1 k))
  have d2 : decide (x2 < 0) = true := decide_eq_true (by rw [← ex2]; exact cmpQ_lt0.2 h2)
  replace ex1 := Lib.hid ex1
  replace ex2 := Lib.hid ex2
  clear hv hu sa sb sc sd
  go_enter Tryz.func46, Tryz.ntmps46
  go_upto_region 1 with fail
  rw [← hwB]
  clear hwB
  have HX := Lib.hid (cmp_val ex1.out hb.out hc.out zb.out zc.out)
  go_wp2_with fail
  refine (HX.out).mono ?_
  rintro e w1 ⟨rfl, b1⟩
  have HK1 := Lib.hid (HK0.out.call b1)
  replace b1 := Lib.hid b1
  have hc1 := below_cell HK1.out.1
  clear HX
  have HX := Lib.hid (cmp_val ex2.out (hd.out.keep b1.out) (ha.out.keep b1.out) zd.out za.out)
  go_wp2_with fail
  refine (HX.out).mono ?_
  rintro e w2 ⟨rfl, b2⟩
  have HK2 := Lib.hid (HK1.out.call b2)
  replace b2 := Lib.hid b2
  have hc2 := below_cell HK2.out.1
  clear HX
  have hk := HK2.out.held6 (Stay.refl _)
  have hk' := hk
  unfold Held6 at hk'
  obtain ⟨-, c0, c1', c2', c3', c4', c5', f0, f1, f2, f3, f4, f5, -⟩ := hk'
  have HD := hk.done (p := 0) (q := 0) (s1 := false) (A1 := none) (n1 := 0) (c1 := 0) (A2 := none) (n2 := 0) (c2 := 0) (s2 := false) (A3 := none) (n3 := 0) (c3 := 0) (A4 := none) (n4 := 0) (c4 := 0) (zero_num _) (zero_num _)
  obtain ⟨d1, d2, d3⟩ := HD
  have r0 := cell_of_row _ _ 0 _ _ _ d3
  have r1 := cell_of_row _ _ 1 _ _ _ d3
  have r2 := cell_of_row _ _ 2 _ _ _ d3
  have r3 := cell_of_row _ _ 3 _ _ _ d3
  have r4 := cell_of_row _ _ 4 _ _ _ d3
  have r5 := cell_of_row _ _ 5 _ _ _ d3
  simp only [List.getElem?_toArray, List.getElem?_cons_zero, List.getElem?_cons_succ] at r0 r1 r2 r3 r4 r5
  have HD := Lib.hid (And.intro d1 d2)
  clear d1 d2 d3
  go_wp2_with fail
  refine bodyPost_ret (v := .tuple #[.agg #[.bool false, .slice none 0 0, .slice none 0 0, .bool false, .slice none 0 0, .slice none 0 0], .bool false]) ?_ rfl ⟨_, rfl, HD.out.1, below_to HB0.out (by omega) HD.out.2⟩
  simp [results, Tryz.results46, go_sem, r0, r1, r2, r3, r4, r5]

set_option maxRecDepth 100000 in
set_option maxHeartbeats 8000000 in
theorem boxMeet_some {w : World} {v u : Value} {a b c d : Rat} (hv : IsBox w v a b) (hu : IsBox w u c d) (sa : siz a ≤ 536870912) (sb : siz b ≤ 536870912) (sc : siz c ≤ 536870912) (sd : siz d ≤ 536870912) (h : ¬ b < c) (h2 : ¬ d < a) :
    Calls Tryz.prog 46 #[v, u] w (BoxBoolRet w (greatestOf a [c]) (leastOf b [d]) true) := by
  have za := Lib.hid sa
  have zb := Lib.hid sb
  have zc := Lib.hid sc
  have zd := Lib.hid sd
  obtain ⟨A1, c1, A2, c2, A3, c3, A4, c4, rfl, ha, hb⟩ := hv.opened
  obtain ⟨A5, c5, A6, c6, A7, c7, A8, c8, rfl, hc, hd⟩ := hu.opened
  obtain ⟨wB, hwB⟩ : ∃ u, u = ((w.alloc (.cells #[.bool (decide (a.num < 0)), .slice A1 (len a.num.natAbs) c1, .slice A2 (len (below a.den)) c2, .bool (decide (b.num < 0)), .slice A3 (len b.num.natAbs) c3, .slice A4 (len (below b.den)) c4] 53)).alloc (.cells #[.bool (decide (c.num < 0)), .slice A5 (len c.num.natAbs) c5, .slice A6 (len (below c.den)) c6, .bool (decide (d.num < 0)), .slice A7 (len d.num.natAbs) c7, .slice A8 (len (below d.den)) c8] 53)).alloc (.cells #[.bool false, .slice none 0 0, .slice none 0 0, .bool false, .slice none 0 0, .slice none 0 0] 53) := ⟨_, rfl⟩
  obtain ⟨b0, g0, g1, g2⟩ := news3 w (.cells #[.bool (decide (a.num < 0)), .slice A1 (len a.num.natAbs) c1, .slice A2 (len (below a.den)) c2, .bool (decide (b.num < 0)), .slice A3 (len b.num.natAbs) c3, .slice A4 (len (below b.den)) c4] 53) (.cells #[.bool (decide (c.num < 0)), .slice A5 (len c.num.natAbs) c5, .slice A6 (len (below c.den)) c6, .bool (decide (d.num < 0)), .slice A7 (len d.num.natAbs) c7, .slice A8 (len (below d.den)) c8] 53) (.cells #[.bool false, .slice none 0 0, .slice none 0 0, .bool false, .slice none 0 0, .slice none 0 0] 53)
  rw [← hwB] at b0 g0 g1 g2
  have k0 : wB.cell? ⟨w.heap.size, 0, none⟩ = some (.bool (decide (a.num < 0))) := cell_of_row _ _ _ _ _ _ g0
  have k1 : wB.cell? ⟨w.heap.size, 1, none⟩ = some (.slice A1 (len a.num.natAbs) c1) := cell_of_row _ _ _ _ _ _ g0
  have k2 : wB.cell? ⟨w.heap.size, 2, none⟩ = some (.slice A2 (len (below a.den)) c2) := cell_of_row _ _ _ _ _ _ g0
  have k3 : wB.cell? ⟨w.heap.size, 3, none⟩ = some (.bool (decide (b.num < 0))) := cell_of_row _ _ _ _ _ _ g0
  have k4 : wB.cell? ⟨w.heap.size, 4, none⟩ = some (.slice A3 (len b.num.natAbs) c3) := cell_of_row _ _ _ _ _ _ g0
  have k5 : wB.cell? ⟨w.heap.size, 5, none⟩ = some (.slice A4 (len (below b.den)) c4) := cell_of_row _ _ _ _ _ _ g0
  have k6 : wB.cell? ⟨w.heap.size + 1, 0, none⟩ = some (.bool (decide (c.num < 0))) := cell_of_row _ _ _ _ _ _ g1
  have k7 : wB.cell? ⟨w.heap.size + 1, 1, none⟩ = some (.slice A5 (len c.num.natAbs) c5) := cell_of_row _ _ _ _ _ _ g1
  have k8 : wB.cell? ⟨w.heap.size + 1, 2, none⟩ = some (.slice A6 (len (below c.den)) c6) := cell_of_row _ _ _ _ _ _ g1
  have k9 : wB.cell? ⟨w.heap.size + 1, 3, none⟩ = some (.bool (decide (d.num < 0))) := cell_of_row _ _ _ _ _ _ g1
  have k10 : wB.cell? ⟨w.heap.size + 1, 4, none⟩ = some (.slice A7 (len d.num.natAbs) c7) := cell_of_row _ _ _ _ _ _ g1
  have k11 : wB.cell? ⟨w.heap.size + 1, 5, none⟩ = some (.slice A8 (len (below d.den)) c8) := cell_of_row _ _ _ _ _ _ g1
  have HK0 := Lib.hid (Kept.start (T := 53) rfl plain6 g2)
  have HB0 := Lib.hid b0
  have hlt1 : w.heap.size < w.heap.size + 2 := by omega
  have hlt2 : w.heap.size + 1 < w.heap.size + 2 := by omega
  clear g0 g1 g2 b0
  replace ha := Lib.hid (ha.keep HB0.out)
  replace hb := Lib.hid (hb.keep HB0.out)
  replace hc := Lib.hid (hc.keep HB0.out)
  replace hd := Lib.hid (hd.keep HB0.out)
  obtain ⟨x1, ex1⟩ : ∃ z : Int, cmpQ b c = z := ⟨_, rfl⟩
  obtain ⟨x2, ex2⟩ : ∃ z : Int, cmpQ d a = z := ⟨_, rfl⟩
  have d1 : decide (x1 < 0) = false := decide_eq_false (by rw [← ex1]; exact fun k => h (cmpQ_lt0.1 k))
  have d2 : decide (x2 < 0) = false := decide_eq_false (by rw [← ex2]; exact fun k => h2 (cmpQ_lt0.1 k))
  clear h h2
  obtain ⟨q, eq⟩ : ∃ z : Rat, greatestOf a [c] = z := ⟨_, rfl⟩
  obtain ⟨r, er⟩ : ∃ z : Rat, leastOf b [d] = z := ⟨_, rfl⟩
  rw [eq, er]
  obtain ⟨q', eq'⟩ : ∃ z : Rat, leastOf a [c] = z := ⟨_, rfl⟩
  obtain ⟨r', er'⟩ : ∃ z : Rat, greatestOf b [d] = z := ⟨_, rfl⟩
  replace eq := Lib.hid eq
  replace er := Lib.hid er
  replace eq' := Lib.hid eq'
  replace er' := Lib.hid er'
  replace ex1 := Lib.hid ex1
  replace ex2 := Lib.hid ex2
  clear hv hu sa sb sc sd
  go_enter Tryz.func46, Tryz.ntmps46
  go_upto_region 1 with fail
  rw [← hwB]
  clear hwB
  have HX := Lib.hid (cmp_val ex1.out hb.out hc.out zb.out zc.out)
  go_wp2_with fail
  refine (HX.out).mono ?_
  rintro e w1 ⟨rfl, b1⟩
  have HK1 := Lib.hid (HK0.out.call b1)
  replace b1 := Lib.hid b1
  have hc1 := below_cell HK1.out.1
  clear HX
  have HX := Lib.hid (cmp_val ex2.out (hd.out.keep b1.out) (ha.out.keep b1.out) zd.out za.out)
  go_wp2_with fail
  refine (HX.out).mono ?_
  rintro e w2 ⟨rfl, b2⟩
  have HK2 := Lib.hid (HK1.out.call b2)
  replace b2 := Lib.hid b2
  have hc2 := below_cell HK2.out.1
  clear HX
  have B2 := Below.step b1.out b2.out
  have ga := Lib.hid (ha.out.keep B2)
  have gb := Lib.hid (hb.out.keep B2)
  have gc := Lib.hid (hc.out.keep B2)
  have gd := Lib.hid (hd.out.keep B2)
  have H0 := HK2.out.begin6
  have H0' := H0
  unfold Held6 at H0'
  clear B2 hc1 hc2
  go_wp2_with fail
  refine wp_region_held_drew (S := (fun w' => (∀ b o, b < w.heap.size + 2 → w'.cell? ⟨b, o, none⟩ = wB.cell? ⟨b, o, none⟩))) (by kernel_rfl) ?_ (fun hHeld => ?_)
  · (try dsimp only)
    exact H0'.1
  obtain ⟨wd, hwd⟩ : ∃ u, u = w2.drew := ⟨_, rfl⟩
  rw [← hwd] at hHeld H0 ⊢
  clear hwd H0'
  refine wpAnyH_take (i := 0) (v := ?vq1) (oi := ?oq1) ?eq1 ?aq1 ?bq1 ?cq1 ?dq1 ?yq1 ?sq1 ?rq1
  case eq1 => simp only [List.getElem?_toArray, List.getElem?_cons_zero, List.getElem?_cons_succ]; rfl
  case aq1 => kernel_rfl
  case bq1 => kernel_rfl
  case cq1 => kernel_rfl
  case dq1 => exact fun _ _ _ h => h
  case yq1 =>
    refine Or.inl ⟨by rfl, ?_⟩
    intro w hSw
    (try dsimp only at hSw)
    go_simp
    try with_reducible rfl
  case sq1 => assumption
  try simp only [Act.put, List.setIfInBounds_toArray, List.set_cons_zero, List.set_cons_succ]
  refine wpAnyH_take (i := 1) (v := ?vq2) (oi := ?oq2) ?eq2 ?aq2 ?bq2 ?cq2 ?dq2 ?yq2 ?sq2 ?rq2
  case eq2 => simp only [List.getElem?_toArray, List.getElem?_cons_zero, List.getElem?_cons_succ]; rfl
  case aq2 => kernel_rfl
  case bq2 => kernel_rfl
  case cq2 => kernel_rfl
  case dq2 => exact fun _ _ _ h => h
  case yq2 =>
    refine Or.inl ⟨by rfl, ?_⟩
    intro w hSw
    (try dsimp only at hSw)
    go_simp
    try with_reducible rfl
  case sq2 => assumption
  try simp only [Act.put, List.setIfInBounds_toArray, List.set_cons_zero, List.set_cons_succ]
  refine wpAnyH_take (i := 2) (v := ?vq3) (oi := ?oq3) ?eq3 ?aq3 ?bq3 ?cq3 ?dq3 ?yq3 ?sq3 ?rq3
  case eq3 => simp only [List.getElem?_toArray, List.getElem?_cons_zero, List.getElem?_cons_succ]; rfl
  case aq3 => kernel_rfl
  case bq3 => kernel_rfl
  case cq3 => kernel_rfl
  case dq3 => exact fun _ _ _ h => h
  case yq3 =>
    refine Or.inl ⟨by rfl, ?_⟩
    intro w hSw
    (try dsimp only at hSw)
    go_simp
    try with_reducible rfl
  case sq3 => assumption
  try simp only [Act.put, List.setIfInBounds_toArray, List.set_cons_zero, List.set_cons_succ]
  refine wpAnyH_take (i := 3) (v := ?vq4) (oi := ?oq4) ?eq4 ?aq4 ?bq4 ?cq4 ?dq4 ?yq4 ?sq4 ?rq4
  case eq4 => simp only [List.getElem?_toArray, List.getElem?_cons_zero, List.getElem?_cons_succ]; rfl
  case aq4 => kernel_rfl
  case bq4 => kernel_rfl
  case cq4 => kernel_rfl
  case dq4 => exact fun _ _ _ h => h
  case yq4 =>
    refine Or.inl ⟨by rfl, ?_⟩
    intro w hSw
    (try dsimp only at hSw)
    go_simp
    try with_reducible rfl
  case sq4 => assumption
  try simp only [Act.put, List.setIfInBounds_toArray, List.set_cons_zero, List.set_cons_succ]
  refine wpAnyH_take (i := 7) (v := ?vq5) (oi := ?oq5) ?eq5 ?aq5 ?bq5 ?cq5 ?dq5 ?yq5 ?sq5 ?rq5
  case eq5 => simp only [List.getElem?_toArray, List.getElem?_cons_zero, List.getElem?_cons_succ]; rfl
  case aq5 => kernel_rfl
  case bq5 => kernel_rfl
  case cq5 => kernel_rfl
  case dq5 => exact fun _ _ _ h => h
  case yq5 =>
    refine Or.inl ⟨by rfl, ?_⟩
    intro w hSw
    (try dsimp only at hSw)
    go_simp
    try with_reducible rfl
  case sq5 => assumption
  try simp only [Act.put, List.setIfInBounds_toArray, List.set_cons_zero, List.set_cons_succ]
  refine wpAnyH_take (i := 8) (v := ?vq6) (oi := ?oq6) ?eq6 ?aq6 ?bq6 ?cq6 ?dq6 ?yq6 ?sq6 ?rq6
  case eq6 => simp only [List.getElem?_toArray, List.getElem?_cons_zero, List.getElem?_cons_succ]; rfl
  case aq6 => kernel_rfl
  case bq6 => kernel_rfl
  case cq6 => kernel_rfl
  case dq6 => exact fun _ _ _ h => h
  case yq6 =>
    refine Or.inl ⟨by rfl, ?_⟩
    intro w hSw
    (try dsimp only at hSw)
    go_simp
    try with_reducible rfl
  case sq6 => assumption
  try simp only [Act.put, List.setIfInBounds_toArray, List.set_cons_zero, List.set_cons_succ]
  refine wpAnyH_take (i := 9) (v := ?vq7) (oi := ?oq7) ?eq7 ?aq7 ?bq7 ?cq7 ?dq7 ?yq7 ?sq7 ?rq7
  case eq7 => simp only [List.getElem?_toArray, List.getElem?_cons_zero, List.getElem?_cons_succ]; rfl
  case aq7 => kernel_rfl
  case bq7 => kernel_rfl
  case cq7 => kernel_rfl
  case dq7 => exact fun _ _ _ h => h
  case yq7 =>
    refine Or.inl ⟨by rfl, ?_⟩
    intro w hSw
    (try dsimp only at hSw)
    go_simp
    try with_reducible rfl
  case sq7 => assumption
  try simp only [Act.put, List.setIfInBounds_toArray, List.set_cons_zero, List.set_cons_succ]
  refine wpAnyH_take (i := 10) (v := ?vq8) (oi := ?oq8) ?eq8 ?aq8 ?bq8 ?cq8 ?dq8 ?yq8 ?sq8 ?rq8
  case eq8 => simp only [List.getElem?_toArray, List.getElem?_cons_zero, List.getElem?_cons_succ]; rfl
  case aq8 => kernel_rfl
  case bq8 => kernel_rfl
  case cq8 => kernel_rfl
  case dq8 => exact fun _ _ _ h => h
  case yq8 =>
    refine Or.inl ⟨by rfl, ?_⟩
    intro w hSw
    (try dsimp only at hSw)
    go_simp
    try with_reducible rfl
  case sq8 => assumption
  try simp only [Act.put, List.setIfInBounds_toArray, List.set_cons_zero, List.set_cons_succ]
  generalize hF : wpAnyH _ _ _ _ _ = F
  replace hF := Lib.hid hF
  refine letters ?_
  intro A0 hA
  replace hA := Lib.hid hA
  have H0h := Lib.hid H0
  clear H0 hHeld
  have st2_2532 : ∀ (L : Array Bool) (u : World) (E1 : Option Addr) (E2 : Option Addr) (E3 : Option Addr) (E4 : Option Addr) (e1 : Nat) (e2 : Nat) (e3 : Nat) (e4 : Nat) (E5 : Option Addr) (E6 : Option Addr) (E7 : Option Addr) (E8 : Option Addr) (e5 : Nat) (e6 : Nat) (e7 : Nat) (e8 : Nat) (n25 : Nat) (n32 : Nat), L = #[true, true, true, true, true, true, true, true, true, true, true, true, true, true, true, false, false] → Hid (Held6 wB (w.heap.size + 2) w2 u) → Hid (IsNum u (.agg #[.bool (decide (q.num < 0)), .slice E3 (len q.num.natAbs) e3, .slice E4 (len (below q.den)) e4]) q) → Hid (IsNum u (.agg #[.bool (decide (r.num < 0)), .slice E5 (len r.num.natAbs) e5, .slice E6 (len (below r.den)) e6]) r) → F 2 L (Act.put (Act.put (Act.put (Act.put (Act.put (Act.put (Act.put A0 (some 25) (.slice (some ⟨n25, 0, none⟩) 1 1)) (some 32) (.slice (some ⟨n32, 0, none⟩) 1 1)) (some 26) (.agg #[.bool (decide (q'.num < 0)), .slice E1 (len q'.num.natAbs) e1, .slice E2 (len (below q'.den)) e2, .bool (decide (q.num < 0)), .slice E3 (len q.num.natAbs) e3, .slice E4 (len (below q.den)) e4])) (some 27) (.agg #[.bool (decide (q.num < 0)), .slice E3 (len q.num.natAbs) e3, .slice E4 (len (below q.den)) e4])) (some 33) (.agg #[.bool (decide (r.num < 0)), .slice E5 (len r.num.natAbs) e5, .slice E6 (len (below r.den)) e6, .bool (decide (r'.num < 0)), .slice E7 (len r'.num.natAbs) e7, .slice E8 (len (below r'.den)) e8])) (some 34) (.agg #[.bool (decide (r.num < 0)), .slice E5 (len r.num.natAbs) e5, .slice E6 (len (below r.den)) e6])) (some 35) (.agg #[.bool (decide (q.num < 0)), .slice E3 (len q.num.natAbs) e3, .slice E4 (len (below q.den)) e4, .bool (decide (r.num < 0)), .slice E5 (len r.num.natAbs) e5, .slice E6 (len (below r.den)) e6])) u := by
    intro L u E1 E2 E3 E4 e1 e2 e3 e4 E5 E6 E7 E8 e5 e6 e7 e8 n25 n32 hLL HK I1 I2
    subst hLL
    rw [← hF.out, ← hA.out]
    try simp only [Act.put, List.setIfInBounds_toArray, List.set_cons_zero, List.set_cons_succ]
    refine wpAnyH_ready (rs := [15]) (by kernel_rfl) (by simp) ?_
    refine AllReadyH.cons (o := ?oq9) ?eq9 ?kq9 AllReadyH.nil
    case eq9 => simp only [List.getElem?_toArray, List.getElem?_cons_zero, List.getElem?_cons_succ]; rfl
    intro K hK
    have hk := HK.out
    have hk' := hk
    unfold Held6 at hk'
    obtain ⟨-, c0, c1', c2', c3', c4', c5', f0, f1, f2, f3, f4, f5, -⟩ := hk'
    have HD := hk.done (p := q) (q := r) (s1 := decide (q.num < 0)) (A1 := E3) (n1 := len q.num.natAbs) (c1 := e3) (A2 := E4) (n2 := len (below q.den)) (c2 := e4) (s2 := decide (r.num < 0)) (A3 := E5) (n3 := len r.num.natAbs) (c3 := e5) (A4 := E6) (n4 := len (below r.den)) (c4 := e6) I1.out I2.out
    obtain ⟨d1, d2, d3⟩ := HD
    have hs := Lib.hid (below_cell d2)
    have HD := Lib.hid (And.intro d1 d2)
    replace d3 := Lib.hid d3
    clear d1 d2 hk
    go_simp
    clear c0 c1' c2' c3' c4' c5' f0 f1 f2 f3 f4 f5
    refine hK.out _ _ ?_ (fun hHeld => ?_)
    · (try dsimp only)
      exact hs.out
    clear hK K
    try simp only [Act.put, List.setIfInBounds_toArray, List.set_cons_zero, List.set_cons_succ]
    refine wpAnyH_ready (rs := [16]) (by kernel_rfl) (by simp) ?_
    refine AllReadyH.cons (o := ?oq10) ?eq10 ?kq10 AllReadyH.nil
    case eq10 => simp only [List.getElem?_toArray, List.getElem?_cons_zero, List.getElem?_cons_succ]; rfl
    intro K hK
    go_simp
    refine hK.out _ _ ?_ (fun hHeld2 => ?_)
    · (try dsimp only)
      exact hs.out
    clear hK K hHeld hHeld2
    try simp only [Act.put, List.setIfInBounds_toArray, List.set_cons_zero, List.set_cons_succ]
    refine wpAnyH_done (by kernel_rfl) ?_ _
    have r0 := cell_of_row _ _ 0 _ _ _ d3.out
    have r1 := cell_of_row _ _ 1 _ _ _ d3.out
    have r2 := cell_of_row _ _ 2 _ _ _ d3.out
    have r3 := cell_of_row _ _ 3 _ _ _ d3.out
    have r4 := cell_of_row _ _ 4 _ _ _ d3.out
    have r5 := cell_of_row _ _ 5 _ _ _ d3.out
    simp only [List.getElem?_toArray, List.getElem?_cons_zero, List.getElem?_cons_succ] at r0 r1 r2 r3 r4 r5
    go_wp2_with fail
    refine bodyPost_ret (v := .tuple #[.agg #[.bool (decide (q.num < 0)), .slice E3 (len q.num.natAbs) e3, .slice E4 (len (below q.den)) e4, .bool (decide (r.num < 0)), .slice E5 (len r.num.natAbs) e5, .slice E6 (len (below r.den)) e6], .bool true]) ?_ rfl ⟨_, rfl, HD.out.1, below_to HB0.out (by omega) HD.out.2⟩
    simp [results, Tryz.results46, go_sem, r0, r1, r2, r3, r4, r5]
  simp only [← hA.out, Act.put, List.setIfInBounds_toArray, List.set_cons_zero, List.set_cons_succ] at st2_2532
  replace st2_2532 := Lib.hid st2_2532
  have st1_2532 : ∀ (L : Array Bool) (u : World) (E1 : Option Addr) (E2 : Option Addr) (E3 : Option Addr) (E4 : Option Addr) (e1 : Nat) (e2 : Nat) (e3 : Nat) (e4 : Nat) (n25 : Nat) (n32 : Nat), L = #[true, true, true, true, true, true, true, true, true, true, true, true, false, false, false, false, false] → Hid (Held6 wB (w.heap.size + 2) w2 u) → Hid (NumsAt u n32 0 [d]) → Hid (IsNum u (.agg #[.bool (decide (q.num < 0)), .slice E3 (len q.num.natAbs) e3, .slice E4 (len (below q.den)) e4]) q) → F 5 L (Act.put (Act.put (Act.put (Act.put A0 (some 25) (.slice (some ⟨n25, 0, none⟩) 1 1)) (some 32) (.slice (some ⟨n32, 0, none⟩) 1 1)) (some 26) (.agg #[.bool (decide (q'.num < 0)), .slice E1 (len q'.num.natAbs) e1, .slice E2 (len (below q'.den)) e2, .bool (decide (q.num < 0)), .slice E3 (len q.num.natAbs) e3, .slice E4 (len (below q.den)) e4])) (some 27) (.agg #[.bool (decide (q.num < 0)), .slice E3 (len q.num.natAbs) e3, .slice E4 (len (below q.den)) e4])) u := by
    intro L u E1 E2 E3 E4 e1 e2 e3 e4 n25 n32 hLL HK Y32 I1
    subst hLL
    rw [← hF.out, ← hA.out]
    try simp only [Act.put, List.setIfInBounds_toArray, List.set_cons_zero, List.set_cons_succ]
    refine wpAnyH_ready (rs := [12]) (by kernel_rfl) (by simp) ?_
    refine AllReadyH.cons (o := ?o12q11) ?e12q11 ?k12q11 AllReadyH.nil
    case e12q11 => simp only [List.getElem?_toArray, List.getElem?_cons_zero, List.getElem?_cons_succ] <;> rfl
    case k12q11 =>
      intro K hK
      go_simp
      go_at_call 86
      refine (span_row er.out er'.out (HK.out.stay.num gb.out) Y32.out zb.out zd.out).mono ?_
      rintro e u2 ⟨v2, rfl, hv2, hb2⟩
      obtain ⟨E5, e5, E6, e6, E7, e7, E8, e8, rfl, hlo2, hhi2⟩ := id hv2.opened
      clear hv2
      have HK2 := HK.out.call hb2
      refine hK.out _ _ ?_ (fun hHeld => ?_)
      · (try dsimp only)
        exact HK2.1
      clear hK K
      try simp only [Act.put, List.setIfInBounds_toArray, List.set_cons_zero, List.set_cons_succ]
      have hfd := fun (w' : World) => field_lo (decide (r.num < 0)) (decide (r'.num < 0)) E5 E6 E7 E8 (len r.num.natAbs) e5 (len (below r.den)) e6 (len r'.num.natAbs) e7 (len (below r'.den)) e8 w'
      refine wpAnyH_take (i := 13) (v := ?vq12) (oi := ?oq12) ?eq12 ?aq12 ?bq12 ?cq12 ?dq12 ?yq12 ?sq12 ?rq12
      case eq12 => simp only [List.getElem?_toArray, List.getElem?_cons_zero, List.getElem?_cons_succ]; rfl
      case aq12 => kernel_rfl
      case bq12 => kernel_rfl
      case cq12 => kernel_rfl
      case dq12 => exact fun _ _ _ h => h
      case yq12 =>
        refine Or.inl ⟨by rfl, ?_⟩
        intro w hSw
        (try dsimp only at hSw)
        go_simp
        try with_reducible rfl
      case sq12 => assumption
      try simp only [Act.put, List.setIfInBounds_toArray, List.set_cons_zero, List.set_cons_succ]
      refine wpAnyH_take (i := 14) (v := ?vq13) (oi := ?oq13) ?eq13 ?aq13 ?bq13 ?cq13 ?dq13 ?yq13 ?sq13 ?rq13
      case eq13 => simp only [List.getElem?_toArray, List.getElem?_cons_zero, List.getElem?_cons_succ]; rfl
      case aq13 => kernel_rfl
      case bq13 => kernel_rfl
      case cq13 => kernel_rfl
      case dq13 => exact fun _ _ _ h => h
      case yq13 =>
        refine Or.inl ⟨by rfl, ?_⟩
        intro w hSw
        (try dsimp only at hSw)
        go_simp
        try with_reducible rfl
      case sq13 => assumption
      try simp only [Act.put, List.setIfInBounds_toArray, List.set_cons_zero, List.set_cons_succ]
      clear hfd
      rw [hF.out]
      exact st2_2532.out _ _ E1 E2 E3 E4 e1 e2 e3 e4 E5 E6 E7 E8 e5 e6 e7 e8 n25 n32 (by kernel_rfl) HK2 (I1.out.keep hb2) hlo2
  simp only [← hA.out, Act.put, List.setIfInBounds_toArray, List.set_cons_zero, List.set_cons_succ] at st1_2532
  replace st1_2532 := Lib.hid st1_2532
  have st1_25 : ∀ (L : Array Bool) (u : World) (E1 : Option Addr) (E2 : Option Addr) (E3 : Option Addr) (E4 : Option Addr) (e1 : Nat) (e2 : Nat) (e3 : Nat) (e4 : Nat) (n25 : Nat), L = #[true, true, true, true, true, true, true, true, true, true, true, false, false, false, false, false, false] → Hid (Held6 wB (w.heap.size + 2) w2 u) → Hid (IsNum u (.agg #[.bool (decide (q.num < 0)), .slice E3 (len q.num.natAbs) e3, .slice E4 (len (below q.den)) e4]) q) → F 6 L (Act.put (Act.put (Act.put A0 (some 25) (.slice (some ⟨n25, 0, none⟩) 1 1)) (some 26) (.agg #[.bool (decide (q'.num < 0)), .slice E1 (len q'.num.natAbs) e1, .slice E2 (len (below q'.den)) e2, .bool (decide (q.num < 0)), .slice E3 (len q.num.natAbs) e3, .slice E4 (len (below q.den)) e4])) (some 27) (.agg #[.bool (decide (q.num < 0)), .slice E3 (len q.num.natAbs) e3, .slice E4 (len (below q.den)) e4])) u := by
    intro L u E1 E2 E3 E4 e1 e2 e3 e4 n25 hLL HK I1
    subst hLL
    rw [← hF.out, ← hA.out]
    try simp only [Act.put, List.setIfInBounds_toArray, List.set_cons_zero, List.set_cons_succ]
    refine wpAnyH_ready (rs := [11]) (by kernel_rfl) (by simp) ?_
    refine AllReadyH.cons (o := ?o11q14) ?e11q14 ?k11q14 AllReadyH.nil
    case e11q14 => simp only [List.getElem?_toArray, List.getElem?_cons_zero, List.getElem?_cons_succ] <;> rfl
    case k11q14 =>
      intro K hK
      go_simp
      have hb2 : Below u.heap.size u (u.alloc (.cells #[.bool (decide (d.num < 0)), .slice A7 (len d.num.natAbs) c7, .slice A8 (len (below d.den)) c8] 27)) := (Below.refl _ _).alloc (Nat.le_refl _) _
      have HK2 := HK.out.call hb2
      have Y2 := nums_one (HK.out.stay.num gd.out)
      refine hK.out _ _ ?_ (fun hHeld => ?_)
      · (try dsimp only)
        exact HK2.1
      clear hK K
      try simp only [Act.put, List.setIfInBounds_toArray, List.set_cons_zero, List.set_cons_succ]
      rw [hF.out]
      exact st1_2532.out _ _ E1 E2 E3 E4 e1 e2 e3 e4 n25 u.heap.size (by kernel_rfl) HK2 Y2 (I1.out.keep hb2)
  simp only [← hA.out, Act.put, List.setIfInBounds_toArray, List.set_cons_zero, List.set_cons_succ] at st1_25
  replace st1_25 := Lib.hid st1_25
  have st0_2532 : ∀ (L : Array Bool) (u : World) (n25 : Nat) (n32 : Nat), L = #[true, true, true, true, true, false, false, true, true, true, true, true, false, false, false, false, false] → Hid (Held6 wB (w.heap.size + 2) w2 u) → Hid (NumsAt u n25 0 [c]) → Hid (NumsAt u n32 0 [d]) → F 7 L (Act.put (Act.put A0 (some 25) (.slice (some ⟨n25, 0, none⟩) 1 1)) (some 32) (.slice (some ⟨n32, 0, none⟩) 1 1)) u := by
    intro L u n25 n32 hLL HK Y25 Y32
    subst hLL
    rw [← hF.out, ← hA.out]
    try simp only [Act.put, List.setIfInBounds_toArray, List.set_cons_zero, List.set_cons_succ]
    refine wpAnyH_ready (rs := [5]) (by kernel_rfl) (by simp) ?_
    refine AllReadyH.cons (o := ?o5q15) ?e5q15 ?k5q15 AllReadyH.nil
    case e5q15 => simp only [List.getElem?_toArray, List.getElem?_cons_zero, List.getElem?_cons_succ] <;> rfl
    case k5q15 =>
      intro K hK
      go_simp
      go_at_call 86
      refine (span_row eq'.out eq.out (HK.out.stay.num ga.out) Y25.out za.out zc.out).mono ?_
      rintro e u2 ⟨v2, rfl, hv2, hb2⟩
      obtain ⟨E1, e1, E2, e2, E3, e3, E4, e4, rfl, hlo2, hhi2⟩ := id hv2.opened
      clear hv2
      have HK2 := HK.out.call hb2
      refine hK.out _ _ ?_ (fun hHeld => ?_)
      · (try dsimp only)
        exact HK2.1
      clear hK K
      try simp only [Act.put, List.setIfInBounds_toArray, List.set_cons_zero, List.set_cons_succ]
      have hfd := fun (w' : World) => field_hi (decide (q'.num < 0)) (decide (q.num < 0)) E1 E2 E3 E4 (len q'.num.natAbs) e1 (len (below q'.den)) e2 (len q.num.natAbs) e3 (len (below q.den)) e4 w'
      refine wpAnyH_take (i := 6) (v := ?vq16) (oi := ?oq16) ?eq16 ?aq16 ?bq16 ?cq16 ?dq16 ?yq16 ?sq16 ?rq16
      case eq16 => simp only [List.getElem?_toArray, List.getElem?_cons_zero, List.getElem?_cons_succ]; rfl
      case aq16 => kernel_rfl
      case bq16 => kernel_rfl
      case cq16 => kernel_rfl
      case dq16 => exact fun _ _ _ h => h
      case yq16 =>
        refine Or.inl ⟨by rfl, ?_⟩
        intro w hSw
        (try dsimp only at hSw)
        go_simp
        try with_reducible rfl
      case sq16 => assumption
      try simp only [Act.put, List.setIfInBounds_toArray, List.set_cons_zero, List.set_cons_succ]
      clear hfd
      rw [hF.out]
      exact st1_2532.out _ _ E1 E2 E3 E4 e1 e2 e3 e4 n25 n32 (by kernel_rfl) HK2 (Y32.out.keep hb2) hhi2
  simp only [← hA.out, Act.put, List.setIfInBounds_toArray, List.set_cons_zero, List.set_cons_succ] at st0_2532
  replace st0_2532 := Lib.hid st0_2532
  have st0_25 : ∀ (L : Array Bool) (u : World) (n25 : Nat), L = #[true, true, true, true, true, false, false, true, true, true, true, false, false, false, false, false, false] → Hid (Held6 wB (w.heap.size + 2) w2 u) → Hid (NumsAt u n25 0 [c]) → F 8 L (Act.put A0 (some 25) (.slice (some ⟨n25, 0, none⟩) 1 1)) u := by
    intro L u n25 hLL HK Y25
    subst hLL
    rw [← hF.out, ← hA.out]
    try simp only [Act.put, List.setIfInBounds_toArray, List.set_cons_zero, List.set_cons_succ]
    refine wpAnyH_ready (rs := [5, 11]) (by kernel_rfl) (by simp) ?_
    refine AllReadyH.cons (o := ?o5q17) ?e5q17 ?k5q17 (AllReadyH.cons (o := ?o11q17) ?e11q17 ?k11q17 AllReadyH.nil)
    case e5q17 => simp only [List.getElem?_toArray, List.getElem?_cons_zero, List.getElem?_cons_succ] <;> rfl
    case e11q17 => simp only [List.getElem?_toArray, List.getElem?_cons_zero, List.getElem?_cons_succ] <;> rfl
    case k5q17 =>
      intro K hK
      go_simp
      go_at_call 86
      refine (span_row eq'.out eq.out (HK.out.stay.num ga.out) Y25.out za.out zc.out).mono ?_
      rintro e u2 ⟨v2, rfl, hv2, hb2⟩
      obtain ⟨E1, e1, E2, e2, E3, e3, E4, e4, rfl, hlo2, hhi2⟩ := id hv2.opened
      clear hv2
      have HK2 := HK.out.call hb2
      refine hK.out _ _ ?_ (fun hHeld => ?_)
      · (try dsimp only)
        exact HK2.1
      clear hK K
      try simp only [Act.put, List.setIfInBounds_toArray, List.set_cons_zero, List.set_cons_succ]
      have hfd := fun (w' : World) => field_hi (decide (q'.num < 0)) (decide (q.num < 0)) E1 E2 E3 E4 (len q'.num.natAbs) e1 (len (below q'.den)) e2 (len q.num.natAbs) e3 (len (below q.den)) e4 w'
      refine wpAnyH_take (i := 6) (v := ?vq18) (oi := ?oq18) ?eq18 ?aq18 ?bq18 ?cq18 ?dq18 ?yq18 ?sq18 ?rq18
      case eq18 => simp only [List.getElem?_toArray, List.getElem?_cons_zero, List.getElem?_cons_succ]; rfl
      case aq18 => kernel_rfl
      case bq18 => kernel_rfl
      case cq18 => kernel_rfl
      case dq18 => exact fun _ _ _ h => h
      case yq18 =>
        refine Or.inl ⟨by rfl, ?_⟩
        intro w hSw
        (try dsimp only at hSw)
        go_simp
        try with_reducible rfl
      case sq18 => assumption
      try simp only [Act.put, List.setIfInBounds_toArray, List.set_cons_zero, List.set_cons_succ]
      clear hfd
      rw [hF.out]
      exact st1_25.out _ _ E1 E2 E3 E4 e1 e2 e3 e4 n25 (by kernel_rfl) HK2 hhi2
    case k11q17 =>
      intro K hK
      go_simp
      have hb2 : Below u.heap.size u (u.alloc (.cells #[.bool (decide (d.num < 0)), .slice A7 (len d.num.natAbs) c7, .slice A8 (len (below d.den)) c8] 27)) := (Below.refl _ _).alloc (Nat.le_refl _) _
      have HK2 := HK.out.call hb2
      have Y2 := nums_one (HK.out.stay.num gd.out)
      refine hK.out _ _ ?_ (fun hHeld => ?_)
      · (try dsimp only)
        exact HK2.1
      clear hK K
      try simp only [Act.put, List.setIfInBounds_toArray, List.set_cons_zero, List.set_cons_succ]
      rw [hF.out]
      exact st0_2532.out _ _ n25 u.heap.size (by kernel_rfl) HK2 (Y25.out.keep hb2) Y2
  simp only [← hA.out, Act.put, List.setIfInBounds_toArray, List.set_cons_zero, List.set_cons_succ] at st0_25
  replace st0_25 := Lib.hid st0_25
  have st0_32 : ∀ (L : Array Bool) (u : World) (n32 : Nat), L = #[true, true, true, true, false, false, false, true, true, true, true, true, false, false, false, false, false] → Hid (Held6 wB (w.heap.size + 2) w2 u) → Hid (NumsAt u n32 0 [d]) → F 8 L (Act.put A0 (some 32) (.slice (some ⟨n32, 0, none⟩) 1 1)) u := by
    intro L u n32 hLL HK Y32
    subst hLL
    rw [← hF.out, ← hA.out]
    try simp only [Act.put, List.setIfInBounds_toArray, List.set_cons_zero, List.set_cons_succ]
    refine wpAnyH_ready (rs := [4]) (by kernel_rfl) (by simp) ?_
    refine AllReadyH.cons (o := ?o4q19) ?e4q19 ?k4q19 AllReadyH.nil
    case e4q19 => simp only [List.getElem?_toArray, List.getElem?_cons_zero, List.getElem?_cons_succ] <;> rfl
    case k4q19 =>
      intro K hK
      go_simp
      have hb2 : Below u.heap.size u (u.alloc (.cells #[.bool (decide (c.num < 0)), .slice A5 (len c.num.natAbs) c5, .slice A6 (len (below c.den)) c6] 27)) := (Below.refl _ _).alloc (Nat.le_refl _) _
      have HK2 := HK.out.call hb2
      have Y2 := nums_one (HK.out.stay.num gc.out)
      refine hK.out _ _ ?_ (fun hHeld => ?_)
      · (try dsimp only)
        exact HK2.1
      clear hK K
      try simp only [Act.put, List.setIfInBounds_toArray, List.set_cons_zero, List.set_cons_succ]
      rw [hF.out]
      exact st0_2532.out _ _ u.heap.size n32 (by kernel_rfl) HK2 Y2 (Y32.out.keep hb2)
  simp only [← hA.out, Act.put, List.setIfInBounds_toArray, List.set_cons_zero, List.set_cons_succ] at st0_32
  replace st0_32 := Lib.hid st0_32
  have st0_n : ∀ (L : Array Bool) (u : World), L = #[true, true, true, true, false, false, false, true, true, true, true, false, false, false, false, false, false] → Hid (Held6 wB (w.heap.size + 2) w2 u) → F 9 L A0 u := by
    intro L u  hLL HK
    subst hLL
    rw [← hF.out, ← hA.out]
    try simp only [Act.put, List.setIfInBounds_toArray, List.set_cons_zero, List.set_cons_succ]
    refine wpAnyH_ready (rs := [4, 11]) (by kernel_rfl) (by simp) ?_
    refine AllReadyH.cons (o := ?o4q20) ?e4q20 ?k4q20 (AllReadyH.cons (o := ?o11q20) ?e11q20 ?k11q20 AllReadyH.nil)
    case e4q20 => simp only [List.getElem?_toArray, List.getElem?_cons_zero, List.getElem?_cons_succ] <;> rfl
    case e11q20 => simp only [List.getElem?_toArray, List.getElem?_cons_zero, List.getElem?_cons_succ] <;> rfl
    case k4q20 =>
      intro K hK
      go_simp
      have hb2 : Below u.heap.size u (u.alloc (.cells #[.bool (decide (c.num < 0)), .slice A5 (len c.num.natAbs) c5, .slice A6 (len (below c.den)) c6] 27)) := (Below.refl _ _).alloc (Nat.le_refl _) _
      have HK2 := HK.out.call hb2
      have Y2 := nums_one (HK.out.stay.num gc.out)
      refine hK.out _ _ ?_ (fun hHeld => ?_)
      · (try dsimp only)
        exact HK2.1
      clear hK K
      try simp only [Act.put, List.setIfInBounds_toArray, List.set_cons_zero, List.set_cons_succ]
      rw [hF.out]
      exact st0_25.out _ _ u.heap.size (by kernel_rfl) HK2 Y2
    case k11q20 =>
      intro K hK
      go_simp
      have hb2 : Below u.heap.size u (u.alloc (.cells #[.bool (decide (d.num < 0)), .slice A7 (len d.num.natAbs) c7, .slice A8 (len (below d.den)) c8] 27)) := (Below.refl _ _).alloc (Nat.le_refl _) _
      have HK2 := HK.out.call hb2
      have Y2 := nums_one (HK.out.stay.num gd.out)
      refine hK.out _ _ ?_ (fun hHeld => ?_)
      · (try dsimp only)
        exact HK2.1
      clear hK K
      try simp only [Act.put, List.setIfInBounds_toArray, List.set_cons_zero, List.set_cons_succ]
      rw [hF.out]
      exact st0_32.out _ _ u.heap.size (by kernel_rfl) HK2 Y2
  simp only [← hA.out, Act.put, List.setIfInBounds_toArray, List.set_cons_zero, List.set_cons_succ] at st0_n
  replace st0_n := Lib.hid st0_n
  have HA := hA.out
  subst HA
  exact st0_n.out _ _ (by kernel_rfl) H0h
end Go.Proofs.YtpfnckhfklgoaaaGreatDoor
namespace Go.Proofs.YtpfnckhfklgoaaaGreatDoor
open Go.RowKit
open Vx

theorem any40_take {l : List ByteArray} {i : Nat} {s : ByteArray} (h : l[i]? = some s) (ha : (l.take i).any (fun s => decide (40 < s.size)) = false) (hs : ¬ 40 < s.size) : (l.take (i + 1)).any (fun s => decide (40 < s.size)) = false := by
  rw [List.take_add_one, h, List.any_append, ha]
  simp [hs]
theorem any40_hit {l : List ByteArray} {i : Nat} {s : ByteArray} (h : l[i]? = some s) (hs : 40 < s.size) : l.any (fun s => decide (40 < s.size)) = true := by
  rw [List.any_eq_true]
  exact ⟨s, List.mem_of_getElem? h, decide_eq_true hs⟩
set_option maxRecDepth 100000 in
set_option maxHeartbeats 2000000 in
theorem wide_any {w : World} {s1 s2 s3 s4 s5 s6 : ByteArray} {m n p : Nat} :
    Calls Tryz.prog 28 #[.agg #[.string s1, .string s2, .string s3, .string s4, .string s5, .string s6, .int .u8 (m : Nat), .int .u8 (n : Nat), .int .u8 (p : Nat)]] w (fun e w' => e = .returned (.bool ([s1, s2, s3, s4, s5, s6].any (fun s => decide (40 < s.size)))) ∧ Below w.heap.size w w') := by
  obtain ⟨l, hl⟩ : ∃ l, l = [s1, s2, s3, s4, s5, s6] := ⟨_, rfl⟩
  obtain ⟨r, hr⟩ : ∃ r, r = l.any (fun s => decide (40 < s.size)) := ⟨_, rfl⟩
  rw [← hl, ← hr]
  obtain ⟨w1, hw1⟩ : ∃ u, u = w.alloc (.cells #[.string s1, .string s2, .string s3, .string s4, .string s5, .string s6, .int .u8 (m : Nat), .int .u8 (n : Nat), .int .u8 (p : Nat)] 50) := ⟨_, rfl⟩
  have b1 : Below w.heap.size w w1 := by rw [hw1]; exact (Below.refl _ _).alloc (Nat.le_refl _) _
  have gA : w1.heap[w.heap.size]? = some (.cells #[.string s1, .string s2, .string s3, .string s4, .string s5, .string s6, .int .u8 (m : Nat), .int .u8 (n : Nat), .int .u8 (p : Nat)] 50 (0, 0)) := by rw [hw1]; exact heap_alloc_new w _
  have k0 : w1.cell? ⟨w.heap.size, 0, none⟩ = some (.string s1) := cell_of_row _ _ _ _ _ _ gA
  have k1 : w1.cell? ⟨w.heap.size, 1, none⟩ = some (.string s2) := cell_of_row _ _ _ _ _ _ gA
  have k2 : w1.cell? ⟨w.heap.size, 2, none⟩ = some (.string s3) := cell_of_row _ _ _ _ _ _ gA
  have k3 : w1.cell? ⟨w.heap.size, 3, none⟩ = some (.string s4) := cell_of_row _ _ _ _ _ _ gA
  have k4 : w1.cell? ⟨w.heap.size, 4, none⟩ = some (.string s5) := cell_of_row _ _ _ _ _ _ gA
  have k5 : w1.cell? ⟨w.heap.size, 5, none⟩ = some (.string s6) := cell_of_row _ _ _ _ _ _ gA
  obtain ⟨w2, hw2⟩ : ∃ u, u = w1.alloc (.cells #[.string s1, .string s2, .string s3, .string s4, .string s5, .string s6] 9) := ⟨_, rfl⟩
  have b2 : Below w1.heap.size w1 w2 := by rw [hw2]; exact (Below.refl _ _).alloc (Nat.le_refl _) _
  have gB : w2.heap[w1.heap.size]? = some (.cells #[.string s1, .string s2, .string s3, .string s4, .string s5, .string s6] 9 (0, 0)) := by rw [hw2]; exact heap_alloc_new w1 _
  have HE := Lib.hid (Below.step b1 b2)
  have hst : ∀ (i : Nat) (s : ByteArray), l[i]? = some s → w2.cell? ⟨w1.heap.size, i, none⟩ = some (.string s) := by
    intro i s hi
    rw [hl] at hi
    match i, hi with
    | 0, hi => obtain rfl := Option.some.inj hi; exact cell_of_row _ _ 0 _ _ _ gB
    | 1, hi => obtain rfl := Option.some.inj hi; exact cell_of_row _ _ 1 _ _ _ gB
    | 2, hi => obtain rfl := Option.some.inj hi; exact cell_of_row _ _ 2 _ _ _ gB
    | 3, hi => obtain rfl := Option.some.inj hi; exact cell_of_row _ _ 3 _ _ _ gB
    | 4, hi => obtain rfl := Option.some.inj hi; exact cell_of_row _ _ 4 _ _ _ gB
    | 5, hi => obtain rfl := Option.some.inj hi; exact cell_of_row _ _ 5 _ _ _ gB
    | _ + 6, hi => exact absurd hi (by simp)
  have hlen : l.length = 6 := by rw [hl]; rfl
  replace hst := Lib.hid hst
  replace hr := Lib.hid hr
  replace hl := Lib.hid hl
  clear gA gB b1 b2
  go_enter Tryz.func28, Tryz.ntmps28
  go_upto_region 1 with fail
  rw [← hw1]
  clear hw1
  go_upto_region 2 with fail
  rw [← hw2]
  clear hw2 k0 k1 k2 k3 k4 k5
  go_wp2_with fail
  go_loopw [4] (fun i wr => ∃ k : Nat, k ≤ 6 ∧ i = .int .i64 k ∧ wr = w2 ∧ Hid ((l.take k).any (fun s => decide (40 < s.size)) = false)) (fun i _ => 6 - (intOf i).toNat)
  case atStart => exact ⟨0, Nat.zero_le _, rfl, rfl, rfl⟩
  case round =>
    obtain ⟨k, hk, rfl, rfl, ha⟩ := hrel
    rcases Nat.lt_or_ge k 6 with hlt | hge
    · obtain ⟨s, hs⟩ : ∃ s, l[k]? = some s := ⟨_, List.getElem?_eq_getElem (by omega)⟩
      have z0 := hst.out k s hs
      replace hs := Lib.hid hs
      rcases Decidable.em (40 < s.size) with h | h
      · have hd : decide (((s.size : Nat) : Int) > 40) = true := decide_eq_true (by omega)
        have hfin := any40_hit hs.out h
        rw [← hr.out] at hfin
        subst hfin
        go_wp2_with fail
        go_ret
        exact ⟨rfl, HE.out⟩
      · have hd : decide (((s.size : Nat) : Int) > 40) = false := decide_eq_false (by omega)
        have ha2 := Lib.hid (any40_take hs.out ha.out h)
        clear hr hst hs ha hl
        go_wp2_with fail
        go_roundw
        case rel => exact ⟨k + 1, by omega, by simp, trivial, ha2⟩
        case measure => simp [intOf]; omega
    · have hkl : k = l.length := by omega
      have ha2 := ha.out
      rw [hkl, List.take_length, ← hr.out] at ha2
      subst ha2
      go_wp2_with fail
      go_ret
      exact ⟨rfl, HE.out⟩
end Go.Proofs.YtpfnckhfklgoaaaGreatDoor
namespace Go.Proofs.YtpfnckhfklgoaaaGreatDoor
open Go.RowKit
open Vx

theorem wide_val {w : World} {s1 s2 s3 s4 s5 s6 : ByteArray} {m n p : Nat} {r : Bool} (h : [s1, s2, s3, s4, s5, s6].any (fun s => decide (40 < s.size)) = r) :
    Calls Tryz.prog 28 #[.agg #[.string s1, .string s2, .string s3, .string s4, .string s5, .string s6, .int .u8 (m : Nat), .int .u8 (n : Nat), .int .u8 (p : Nat)]] w (BoolRet w r) := by
  rw [← h]; exact wide_any
theorem hull_val {w : World} {v u : Value} {a b c d p q : Rat} (h1 : leastOf a [b, c, d] = p) (h2 : greatestOf a [b, c, d] = q) (hv : IsBox w v a b) (hu : IsBox w u c d) (sa : siz a ≤ 536870912) (sb : siz b ≤ 536870912) (sc : siz c ≤ 536870912) (sd : siz d ≤ 536870912) :
    Calls Tryz.prog 39 #[v, u] w (BoxRet w p q) := by
  rw [← h1, ← h2]; exact boxHull_any hv hu (Nat.le_trans sa (by omega)) (Nat.le_trans sb (by omega)) (Nat.le_trans sc (by omega)) (Nat.le_trans sd (by omega))
theorem badd_val {w : World} {v u : Value} {a b c d p q : Rat} (h1 : a + c = p) (h2 : b + d = q) (hv : IsBox w v a b) (hu : IsBox w u c d) (sa : siz a ≤ 536870912) (sb : siz b ≤ 536870912) (sc : siz c ≤ 536870912) (sd : siz d ≤ 536870912) :
    Calls Tryz.prog 33 #[v, u] w (BoxRet w p q) := by
  rw [← h1, ← h2]; exact boxAdd_any hv hu (Nat.le_trans sa (by omega)) (Nat.le_trans sb (by omega)) (Nat.le_trans sc (by omega)) (Nat.le_trans sd (by omega))
theorem bsub_val {w : World} {v u : Value} {a b c d p q : Rat} (h1 : a - d = p) (h2 : b - c = q) (hv : IsBox w v a b) (hu : IsBox w u c d) (sa : siz a ≤ 536870912) (sb : siz b ≤ 536870912) (sc : siz c ≤ 536870912) (sd : siz d ≤ 536870912) :
    Calls Tryz.prog 34 #[v, u] w (BoxRet w p q) := by
  rw [← h1, ← h2]; exact boxSub_any hv hu (Nat.le_trans sa (by omega)) (Nat.le_trans sb (by omega)) (Nat.le_trans sc (by omega)) (Nat.le_trans sd (by omega))
theorem bmul_val {w : World} {v u : Value} {a b c d p q : Rat} (h1 : leastOf (a * c) [a * d, b * c, b * d] = p) (h2 : greatestOf (a * c) [a * d, b * c, b * d] = q) (hv : IsBox w v a b) (hu : IsBox w u c d) (sa : siz a ≤ 536870912) (sb : siz b ≤ 536870912) (sc : siz c ≤ 536870912) (sd : siz d ≤ 536870912) :
    Calls Tryz.prog 35 #[v, u] w (BoxRet w p q) := by
  rw [← h1, ← h2]; exact boxMul_any hv hu (Nat.le_trans sa (by omega)) (Nat.le_trans sb (by omega)) (Nat.le_trans sc (by omega)) (Nat.le_trans sd (by omega))
theorem bdiv_val {w : World} {v u : Value} {a b c d p q : Rat} (h1 : leastOf (a / c) [a / d, b / c, b / d] = p) (h2 : greatestOf (a / c) [a / d, b / c, b / d] = q) (h : ¬ (c ≤ 0 ∧ 0 ≤ d)) (hv : IsBox w v a b) (hu : IsBox w u c d) (sa : siz a ≤ 536870912) (sb : siz b ≤ 536870912) (sc : siz c ≤ 536870912) (sd : siz d ≤ 536870912) :
    Calls Tryz.prog 44 #[v, u] w (BoxErrRet w p q 0) := by
  rw [← h1, ← h2]; exact boxDiv_ok hv hu (Nat.le_trans sa (by omega)) (Nat.le_trans sb (by omega)) (Nat.le_trans sc (by omega)) (Nat.le_trans sd (by omega)) h
theorem bdiv_no {w : World} {v u : Value} {a b c d z : Rat} (h1 : 0 = z) (h : c ≤ 0 ∧ 0 ≤ d) (hv : IsBox w v a b) (hu : IsBox w u c d) (sa : siz a ≤ 536870912) (sb : siz b ≤ 536870912) (sc : siz c ≤ 536870912) (sd : siz d ≤ 536870912) :
    Calls Tryz.prog 44 #[v, u] w (BoxErrRet w z z 10) := by
  rw [← h1]; exact boxDiv_zero hv hu (Nat.le_trans sa (by omega)) (Nat.le_trans sb (by omega)) (Nat.le_trans sc (by omega)) (Nat.le_trans sd (by omega)) h
theorem babs_val {w : World} {v : Value} {a b p q : Rat} (h1 : absLo a b = p) (h2 : absHi a b = q) (hv : IsBox w v a b) (sa : siz a ≤ 536870912) (sb : siz b ≤ 536870912) :
    Calls Tryz.prog 37 #[v] w (BoxRet w p q) := by
  rw [← h1, ← h2]; exact boxAbs_any hv (Nat.le_trans sa (by omega)) (Nat.le_trans sb (by omega))
theorem has_val {w : World} {v vx : Value} {a b x : Rat} {r : Bool} (hr : decide (a ≤ x ∧ x ≤ b) = r) (hv : IsBox w v a b) (hx : IsNum w vx x) (sa : siz a ≤ 536870912) (sb : siz b ≤ 536870912) (sx : siz x ≤ 536870912) :
    Calls Tryz.prog 32 #[v, vx] w (BoolRet w r) := by
  rw [← hr]; exact boxHas_any hv hx (Nat.le_trans sa (by omega)) (Nat.le_trans sb (by omega)) (Nat.le_trans sx (by omega))
theorem meet_yes {w : World} {v u : Value} {a b c d p q : Rat} (h1 : greatestOf a [c] = p) (h2 : leastOf b [d] = q) (h : ¬ b < c) (h' : ¬ d < a) (hv : IsBox w v a b) (hu : IsBox w u c d) (sa : siz a ≤ 536870912) (sb : siz b ≤ 536870912) (sc : siz c ≤ 536870912) (sd : siz d ≤ 536870912) :
    Calls Tryz.prog 46 #[v, u] w (BoxBoolRet w p q true) := by
  rw [← h1, ← h2]; exact boxMeet_some hv hu sa sb sc sd h h'
theorem meet_no {w : World} {v u : Value} {a b c d z : Rat} (h1 : 0 = z) (h : b < c ∨ d < a) (hv : IsBox w v a b) (hu : IsBox w u c d) (sa : siz a ≤ 536870912) (sb : siz b ≤ 536870912) (sc : siz c ≤ 536870912) (sd : siz d ≤ 536870912) :
    Calls Tryz.prog 46 #[v, u] w (BoxBoolRet w z z false) := by
  rw [← h1]
  rcases Decidable.em (b < c) with h2 | h2
  · exact boxMeet_none1 hv hu sa sb sc sd h2
  · exact boxMeet_none2 hv hu sa sb sc sd h2 (by rcases h with h | h; exact absurd h h2; exact h)

/-- boxes of results that begin with a greater box -/
theorem gr_facts {a b c d e f A B : Rat} (hab : a ≤ b) (hcd : c ≤ d) (hef : e ≤ f) (hA : leastOf a [b, e, f] = A) (hB : greatestOf a [b, e, f] = B) :
    decide (A ≤ a ∧ b ≤ B) = true ∧ decide (A ≤ e ∧ f ≤ B) = true ∧ decide (A + c ≤ a + c ∧ b + d ≤ B + d) = true ∧ decide (A - d ≤ a - d ∧ b - c ≤ B - c) = true ∧ decide (c - B ≤ c - b ∧ d - a ≤ d - A) = true ∧
    decide (leastOf (A * c) [A * d, B * c, B * d] ≤ leastOf (a * c) [a * d, b * c, b * d] ∧ greatestOf (a * c) [a * d, b * c, b * d] ≤ greatestOf (A * c) [A * d, B * c, B * d]) = true ∧
    decide (absLo A B ≤ absLo a b ∧ absHi a b ≤ absHi A B) = true := by
  obtain ⟨h1, h2, h3, h4, -, -⟩ := hull_is hab hef hA hB
  refine ⟨decide_eq_true ⟨h1, h2⟩, decide_eq_true ⟨h3, h4⟩, decide_eq_true ?_, decide_eq_true ?_, decide_eq_true ?_, decide_eq_true (prod_inside hab hcd h1 h2), decide_eq_true (abs_inside hab h1 h2)⟩
  · constructor <;> grind
  · constructor <;> grind
  · constructor <;> grind
/-- the box that two have in common -/
theorem meet_facts {a b e f x p q : Rat} {r : Bool} (h1 : ¬ b < e) (h2 : ¬ f < a) (hx1 : a ≤ x) (hx2 : x ≤ b) (hp : greatestOf a [e] = p) (hq : leastOf b [f] = q) (hr : decide (e ≤ x ∧ x ≤ f) = r) :
    decide (a ≤ p ∧ q ≤ b) = true ∧ decide (e ≤ p ∧ q ≤ f) = true ∧ decide (p ≤ x ∧ x ≤ q) = r := by
  have e1 : p = if a < e then e else a := hp.symm
  have e2 : q = if f < b then f else b := hq.symm
  have i1 : a ≤ p ∧ e ≤ p ∧ (p ≤ x ↔ e ≤ x) := by rw [e1]; split <;> grind
  have i2 : q ≤ b ∧ q ≤ f ∧ (x ≤ q ↔ x ≤ f) := by rw [e2]; split <;> grind
  refine ⟨decide_eq_true ⟨i1.1, i2.1⟩, decide_eq_true ⟨i1.2.1, i2.2.1⟩, ?_⟩
  rw [← hr, decide_eq_decide, i1.2.2, i2.2.2]
theorem apart_facts {a b e f x y : Rat} (h : b < e ∨ f < a) (hx1 : a ≤ x) (hx2 : x ≤ b) (hy1 : e ≤ y) (hy2 : y ≤ f) : decide (e ≤ x ∧ x ≤ f) = false ∧ decide (a ≤ y ∧ y ≤ b) = false :=
  ⟨decide_eq_false (by grind), decide_eq_false (by grind)⟩
theorem siz_l4 {x y z t q : Rat} {N : Nat} (h : leastOf x [y, z, t] = q) (h1 : siz x ≤ N) (h2 : siz y ≤ N) (h3 : siz z ≤ N) (h4 : siz t ≤ N) : siz q ≤ N := by
  rw [← h]; exact siz_least h1 (by simp only [List.mem_cons, List.not_mem_nil, or_false]; rintro r (rfl | rfl | rfl) <;> assumption)
theorem siz_g4 {x y z t q : Rat} {N : Nat} (h : greatestOf x [y, z, t] = q) (h1 : siz x ≤ N) (h2 : siz y ≤ N) (h3 : siz z ≤ N) (h4 : siz t ≤ N) : siz q ≤ N := by
  rw [← h]; exact siz_greatest h1 (by simp only [List.mem_cons, List.not_mem_nil, or_false]; rintro r (rfl | rfl | rfl) <;> assumption)
theorem siz_l2 {x y q : Rat} {N : Nat} (h : leastOf x [y] = q) (h1 : siz x ≤ N) (h2 : siz y ≤ N) : siz q ≤ N := by
  rw [← h]; exact siz_least h1 (by simp only [List.mem_cons, List.not_mem_nil, or_false]; rintro r rfl; exact h2)
theorem siz_g2 {x y q : Rat} {N : Nat} (h : greatestOf x [y] = q) (h1 : siz x ≤ N) (h2 : siz y ≤ N) : siz q ≤ N := by
  rw [← h]; exact siz_greatest h1 (by simp only [List.mem_cons, List.not_mem_nil, or_false]; rintro r rfl; exact h2)
theorem siz_box {p1 p2 a b : Rat} {s1 s2 : ByteArray} (e1 : (parseV s1).1 = p1) (e2 : (parseV s2).1 = p2) (hl : a = if p2 < p1 then p2 else p1) (hh : b = if p2 < p1 then p1 else p2) : siz a ≤ 4100 ∧ siz b ≤ 4100 ∧ a ≤ b := by
  have i1 := parse_siz s1
  have i2 := parse_siz s2
  rw [e1] at i1
  rw [e2] at i2
  rw [hl, hh]
  split
  · rename_i h; exact ⟨i2, i1, Rat.le_of_lt h⟩
  · rename_i h; exact ⟨i1, i2, Rat.not_lt.1 h⟩
theorem siz_at {l h x : Rat} {p : Nat} (hp : p ≤ 255) (hx : l + (h - l) * mkRat ((p : Nat) : Int) 255 = x) (h1 : siz l ≤ 4100) (h2 : siz h ≤ 4100) : siz x ≤ 20000 := by
  rw [← hx]
  have i1 := siz_sub h l
  have i2 := siz_ratio hp
  have i3 := siz_mul (h - l) (mkRat ((p : Nat) : Int) 255)
  have i4 := siz_add l ((h - l) * mkRat ((p : Nat) : Int) 255)
  omega
/-- what two boxes have in common, and what is so of it -/
theorem meet_all {a b e f x y z : Rat} (h0 : 0 = z) (hx1 : a ≤ x) (hx2 : x ≤ b) (hy1 : e ≤ y) (hy2 : y ≤ f) (sa : siz a ≤ 536870912) (sb : siz b ≤ 536870912) (se : siz e ≤ 536870912) (sf : siz f ≤ 536870912) (sz : siz z ≤ 536870912) :
    ∃ (t1 t2 : Rat) (ok : Bool), (∀ (w : World) (v u : Value), IsBox w v a b → IsBox w u e f → Calls Tryz.prog 46 #[v, u] w (BoxBoolRet w t1 t2 ok)) ∧
      ((ok = true ∧ ∃ bb : Bool, decide (e ≤ x ∧ x ≤ f) = bb ∧ decide (a ≤ t1 ∧ t2 ≤ b) = true ∧ decide (e ≤ t1 ∧ t2 ≤ f) = true ∧ decide (t1 ≤ x ∧ x ≤ t2) = bb ∧ siz t1 ≤ 536870912 ∧ siz t2 ≤ 536870912) ∨
       (ok = false ∧ decide (e ≤ x ∧ x ≤ f) = false ∧ decide (a ≤ y ∧ y ≤ b) = false)) := by
  rcases Decidable.em (b < e ∨ f < a) with h | h
  · obtain ⟨n1, n2⟩ := apart_facts h hx1 hx2 hy1 hy2
    exact ⟨z, z, false, fun w v u hv hu => meet_no h0 h hv hu sa sb se sf, Or.inr ⟨rfl, n1, n2⟩⟩
  · have k1 : ¬ b < e := fun k => h (Or.inl k)
    have k2 : ¬ f < a := fun k => h (Or.inr k)
    obtain ⟨n1, n2, n3⟩ := meet_facts k1 k2 hx1 hx2 rfl rfl rfl
    exact ⟨_, _, true, fun w v u hv hu => meet_yes rfl rfl k1 k2 hv hu sa sb se sf, Or.inl ⟨rfl, _, rfl, n1, n2, n3, siz_g2 rfl sa se, siz_l2 rfl sb sf⟩⟩
end Go.Proofs.YtpfnckhfklgoaaaGreatDoor
