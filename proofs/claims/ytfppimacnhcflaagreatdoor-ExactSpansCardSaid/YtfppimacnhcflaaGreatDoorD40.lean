/-
  Contracts of the functions that the law calls, for every input (BoxJ BoxI Tg).
-/
import Derived.Test.YtfppimacnhcflaaGreatDoorD00
import Derived.Test.YtfppimacnhcflaaGreatDoorD24
import Derived.Test.YtfppimacnhcflaaGreatDoorD21
import Derived.Test.YtfppimacnhcflaaGreatDoorD39
set_option linter.all false
set_option maxRecDepth 100000
set_option maxHeartbeats 40000000
namespace Go.Proofs.YtfppimacnhcflaaGreatDoor
open Lib (hid)
open Go.RowKit
open Vx
theorem cmpQ_le0 {x y : Rat} : cmpQ x y ≤ 0 ↔ x ≤ y := by
  constructor
  · intro h
    rcases Decidable.em (x ≤ y) with h2 | h2
    · exact h2
    · have := cmpQ_gt h2; omega
  · intro h
    have := cmpQ_le h; omega
theorem boxHas_any {w : World} {v vx : Value} {a b x : Rat} (hv : IsBox w v a b) (hx : IsNum w vx x) (sa : siz a ≤ 34359738368) (sb : siz b ≤ 34359738368) (sx : siz x ≤ 34359738368) :
    Calls Tryz.prog 57 #[v, vx] w (BoolRet w (decide (a ≤ x ∧ x ≤ b))) := by
  obtain ⟨A1, c1, A2, c2, A3, c3, A4, c4, rfl, ha, hb_⟩ := hv.opened
  obtain ⟨A5, c5, A6, c6, rfl, -, -⟩ := id hx.opened
  obtain ⟨wB, hwB⟩ : ∃ u, u = (w.alloc (.cells #[.bool (decide (a.num < 0)), .slice A1 (len a.num.natAbs) c1, .slice A2 (len (below a.den)) c2, .bool (decide (b.num < 0)), .slice A3 (len b.num.natAbs) c3, .slice A4 (len (below b.den)) c4] 71)).alloc (.cells #[.bool (decide (x.num < 0)), .slice A5 (len x.num.natAbs) c5, .slice A6 (len (below x.den)) c6] 25) := ⟨_, rfl⟩
  obtain ⟨b0, g0, g1⟩ := news2' hwB
  obtain ⟨k0, k1, k2, k3, k4, k5⟩ := cells6 g0
  obtain ⟨k6, k7, k8⟩ := cells3 g1
  have HB0 := hid b0
  have hlt1 : w.heap.size < wB.heap.size := World.block_lt_of_cell? _ _ k0
  have hlt2 : w.heap.size + 1 < wB.heap.size := (Array.getElem?_eq_some_iff.1 g1).1
  clear g0 g1 b0
  have HX := hid (numCmp_any (ha.keep HB0.out) (hx.keep HB0.out) sa sx)
  have HY := fun (w1 : World) (hb : Below wB.heap.size wB w1) => hid (numCmp_any ((hx.keep HB0.out).keep hb) ((hb_.keep HB0.out).keep hb) sx sb)
  obtain ⟨z1, hz1⟩ : ∃ z : Int, z = cmpQ a x := ⟨_, rfl⟩
  obtain ⟨z2, hz2⟩ : ∃ z : Int, z = cmpQ x b := ⟨_, rfl⟩
  have e1 : (z1 ≤ 0) ↔ a ≤ x := by rw [hz1]; exact cmpQ_le0
  have e2 : (z2 ≤ 0) ↔ x ≤ b := by rw [hz2]; exact cmpQ_le0
  rw [← hz1] at HX
  rw [← hz2] at HY
  obtain ⟨r, hr⟩ : ∃ r : Bool, r = decide (a ≤ x ∧ x ≤ b) := ⟨_, rfl⟩
  rw [← hr]
  clear hz1 hz2 sa sb sx hv ha hb_ hx
  rcases Decidable.em (z1 ≤ 0) with h1 | h1
  · rcases Decidable.em (z2 ≤ 0) with h2 | h2
    · have d1 : decide (z1 ≤ 0) = true := decide_eq_true h1
      have d2 : decide (z2 ≤ 0) = true := decide_eq_true h2
      have d3 : r = true := by rw [hr]; exact decide_eq_true ⟨e1.1 h1, e2.1 h2⟩
      subst d3
      replace h1 := hid h1
      replace h2 := hid h2
      clear hr e1 e2
      go_enter Tryz.func57, Tryz.ntmps57
      go_upto_region 1 with fail
      rw [← hwB]
      clear hwB
      go_wp2_with fail
      refine (HX.out).mono ?_
      rintro e w1 ⟨rfl, b1⟩
      have hbc := below_cell b1
      have HY1 := HY w1 b1
      have HB1 := hid (Go.Proofs.YtfppimacnhcflaaGreatDoor.below_to HB0.out (Nat.le_of_lt hlt1) b1)
      clear HY HX b1
      go_wp2_with fail
      refine (HY1.out).mono ?_
      rintro e w2 ⟨rfl, b2⟩
      have HE := hid (HB1.out.trans (b2.mono HB1.out.size))
      clear HY1 b2 hbc
      go_wp2_with fail
      go_ret
      exact ⟨rfl, HE.out⟩
    · have d1 : decide (z1 ≤ 0) = true := decide_eq_true h1
      have d2 : decide (z2 ≤ 0) = false := decide_eq_false h2
      have d3 : r = false := by rw [hr]; exact decide_eq_false (fun h => h2 (e2.2 h.2))
      subst d3
      replace h1 := hid h1
      replace h2 := hid h2
      clear hr e1 e2
      go_enter Tryz.func57, Tryz.ntmps57
      go_upto_region 1 with fail
      rw [← hwB]
      clear hwB
      go_wp2_with fail
      refine (HX.out).mono ?_
      rintro e w1 ⟨rfl, b1⟩
      have hbc := below_cell b1
      have HY1 := HY w1 b1
      have HB1 := hid (Go.Proofs.YtfppimacnhcflaaGreatDoor.below_to HB0.out (Nat.le_of_lt hlt1) b1)
      clear HY HX b1
      go_wp2_with fail
      refine (HY1.out).mono ?_
      rintro e w2 ⟨rfl, b2⟩
      have HE := hid (HB1.out.trans (b2.mono HB1.out.size))
      clear HY1 b2 hbc
      go_wp2_with fail
      go_ret
      exact ⟨rfl, HE.out⟩
  · have d1 : decide (z1 ≤ 0) = false := decide_eq_false h1
    have d2 : r = false := by rw [hr]; exact decide_eq_false (fun h => h1 (e1.2 h.1))
    subst d2
    replace h1 := hid h1
    clear HY hr e1 e2
    go_enter Tryz.func57, Tryz.ntmps57
    go_upto_region 1 with fail
    rw [← hwB]
    clear hwB
    go_wp2_with fail
    refine (HX.out).mono ?_
    rintro e w1 ⟨rfl, b1⟩
    have HE := hid (Go.Proofs.YtfppimacnhcflaaGreatDoor.below_to HB0.out (Nat.le_of_lt hlt1) b1)
    clear HX b1
    go_wp2_with fail
    go_ret
    exact ⟨rfl, HE.out⟩
theorem boxInside_any {w : World} {v u : Value} {a b c d : Rat} (hv : IsBox w v a b) (hu : IsBox w u c d) (sa : siz a ≤ 34359738368) (sb : siz b ≤ 34359738368) (sc : siz c ≤ 34359738368) (sd : siz d ≤ 34359738368) :
    Calls Tryz.prog 59 #[v, u] w (BoolRet w (decide (c ≤ a ∧ b ≤ d))) := by
  obtain ⟨A1, c1, A2, c2, A3, c3, A4, c4, rfl, ha, hb_⟩ := hv.opened
  obtain ⟨A5, c5, A6, c6, A7, c7, A8, c8, rfl, hc, hd⟩ := hu.opened
  obtain ⟨wB, hwB⟩ : ∃ u, u = (w.alloc (.cells #[.bool (decide (a.num < 0)), .slice A1 (len a.num.natAbs) c1, .slice A2 (len (below a.den)) c2, .bool (decide (b.num < 0)), .slice A3 (len b.num.natAbs) c3, .slice A4 (len (below b.den)) c4] 71)).alloc (.cells #[.bool (decide (c.num < 0)), .slice A5 (len c.num.natAbs) c5, .slice A6 (len (below c.den)) c6, .bool (decide (d.num < 0)), .slice A7 (len d.num.natAbs) c7, .slice A8 (len (below d.den)) c8] 71) := ⟨_, rfl⟩
  obtain ⟨b0, g0, g1⟩ := news2' hwB
  obtain ⟨k0, k1, k2, k3, k4, k5⟩ := cells6 g0
  obtain ⟨k6, k7, k8, k9, k10, k11⟩ := cells6 g1
  have HB0 := hid b0
  have hlt1 : w.heap.size < wB.heap.size := World.block_lt_of_cell? _ _ k0
  have hlt2 : w.heap.size + 1 < wB.heap.size := (Array.getElem?_eq_some_iff.1 g1).1
  clear g0 g1 b0
  have HX := hid (numCmp_any (hc.keep HB0.out) (ha.keep HB0.out) sc sa)
  have HY := fun (w1 : World) (hb : Below wB.heap.size wB w1) => hid (numCmp_any ((hb_.keep HB0.out).keep hb) ((hd.keep HB0.out).keep hb) sb sd)
  obtain ⟨z1, hz1⟩ : ∃ z : Int, z = cmpQ c a := ⟨_, rfl⟩
  obtain ⟨z2, hz2⟩ : ∃ z : Int, z = cmpQ b d := ⟨_, rfl⟩
  have e1 : (z1 ≤ 0) ↔ c ≤ a := by rw [hz1]; exact cmpQ_le0
  have e2 : (z2 ≤ 0) ↔ b ≤ d := by rw [hz2]; exact cmpQ_le0
  rw [← hz1] at HX
  rw [← hz2] at HY
  obtain ⟨r, hr⟩ : ∃ r : Bool, r = decide (c ≤ a ∧ b ≤ d) := ⟨_, rfl⟩
  rw [← hr]
  clear hz1 hz2 sa sb sc sd hv hu ha hb_ hc hd
  rcases Decidable.em (z1 ≤ 0) with h1 | h1
  · rcases Decidable.em (z2 ≤ 0) with h2 | h2
    · have d1 : decide (z1 ≤ 0) = true := decide_eq_true h1
      have d2 : decide (z2 ≤ 0) = true := decide_eq_true h2
      have d3 : r = true := by rw [hr]; exact decide_eq_true ⟨e1.1 h1, e2.1 h2⟩
      subst d3
      replace h1 := hid h1
      replace h2 := hid h2
      clear hr e1 e2
      go_enter Tryz.func59, Tryz.ntmps59
      go_upto_region 1 with fail
      rw [← hwB]
      clear hwB
      go_wp2_with fail
      refine (HX.out).mono ?_
      rintro e w1 ⟨rfl, b1⟩
      have hbc := below_cell b1
      have HY1 := HY w1 b1
      have HB1 := hid (Go.Proofs.YtfppimacnhcflaaGreatDoor.below_to HB0.out (Nat.le_of_lt hlt1) b1)
      clear HY HX b1
      go_wp2_with fail
      refine (HY1.out).mono ?_
      rintro e w2 ⟨rfl, b2⟩
      have HE := hid (HB1.out.trans (b2.mono HB1.out.size))
      clear HY1 b2 hbc
      go_wp2_with fail
      go_ret
      exact ⟨rfl, HE.out⟩
    · have d1 : decide (z1 ≤ 0) = true := decide_eq_true h1
      have d2 : decide (z2 ≤ 0) = false := decide_eq_false h2
      have d3 : r = false := by rw [hr]; exact decide_eq_false (fun h => h2 (e2.2 h.2))
      subst d3
      replace h1 := hid h1
      replace h2 := hid h2
      clear hr e1 e2
      go_enter Tryz.func59, Tryz.ntmps59
      go_upto_region 1 with fail
      rw [← hwB]
      clear hwB
      go_wp2_with fail
      refine (HX.out).mono ?_
      rintro e w1 ⟨rfl, b1⟩
      have hbc := below_cell b1
      have HY1 := HY w1 b1
      have HB1 := hid (Go.Proofs.YtfppimacnhcflaaGreatDoor.below_to HB0.out (Nat.le_of_lt hlt1) b1)
      clear HY HX b1
      go_wp2_with fail
      refine (HY1.out).mono ?_
      rintro e w2 ⟨rfl, b2⟩
      have HE := hid (HB1.out.trans (b2.mono HB1.out.size))
      clear HY1 b2 hbc
      go_wp2_with fail
      go_ret
      exact ⟨rfl, HE.out⟩
  · have d1 : decide (z1 ≤ 0) = false := decide_eq_false h1
    have d2 : r = false := by rw [hr]; exact decide_eq_false (fun h => h1 (e1.2 h.1))
    subst d2
    replace h1 := hid h1
    clear HY hr e1 e2
    go_enter Tryz.func59, Tryz.ntmps59
    go_upto_region 1 with fail
    rw [← hwB]
    clear hwB
    go_wp2_with fail
    refine (HX.out).mono ?_
    rintro e w1 ⟨rfl, b1⟩
    have HE := hid (Go.Proofs.YtfppimacnhcflaaGreatDoor.below_to HB0.out (Nat.le_of_lt hlt1) b1)
    clear HX b1
    go_wp2_with fail
    go_ret
    exact ⟨rfl, HE.out⟩
end Go.Proofs.YtfppimacnhcflaaGreatDoor
namespace Go.Proofs.YtfppimacnhcflaaGreatDoor
open Lib (hid)
open Go.RowKit
open Vx
theorem boxWidth_any {w : World} {v : Value} {a b : Rat} (hv : IsBox w v a b) (sa : siz a ≤ 34359738368) (sb : siz b ≤ 34359738368) :
    Calls Tryz.prog 54 #[v] w (NumRet w (b - a)) := by
  obtain ⟨A1, c1, A2, c2, A3, c3, A4, c4, rfl, ha, hb⟩ := hv.opened
  obtain ⟨wB, hwB⟩ : ∃ u, u = (w.alloc (.cells #[.bool (decide (a.num < 0)), .slice A1 (len a.num.natAbs) c1, .slice A2 (len (below a.den)) c2, .bool (decide (b.num < 0)), .slice A3 (len b.num.natAbs) c3, .slice A4 (len (below b.den)) c4] 71)).alloc (.cells #[.bool false, .slice none 0 0, .slice none 0 0] 25) := ⟨_, rfl⟩
  obtain ⟨b0, g0, g1⟩ := news2' hwB
  obtain ⟨k0, k1, k2, k3, k4, k5⟩ := cells6 g0
  have HK0 := hid (Kept.start (T := 25) rfl (plain3 _ _ _ _ _ _ _) g1)
  have HB0 := hid b0
  have hlt1 : w.heap.size < w.heap.size + 1 := by omega
  clear g0 g1 b0
  obtain ⟨q, hq⟩ : ∃ q : Rat, q = b - a := ⟨_, rfl⟩
  have HX := hid (numSub_any (hb.keep HB0.out) (ha.keep HB0.out) sb sa)
  rw [← hq] at HX ⊢
  clear hq sa sb hv ha hb
  go_enter Tryz.func54, Tryz.ntmps54
  go_upto_region 1 with fail
  rw [← hwB]
  clear hwB
  go_wp2_with fail
  refine (HX.out).mono ?_
  rintro e w5 ⟨v5, rfl, hv5, b5⟩
  obtain ⟨C1, j1, C2, j2, rfl, -, -⟩ := hv5.opened
  have hk := (HK0.out.call b5).held (Stay.refl _)
  clear b5 HX
  obtain ⟨-, c0, c1', c2', f0, f1, f2, -⟩ := id hk
  have HD := hk.done (q := q) (b := decide (q.num < 0)) (A1 := C1) (n1 := len q.num.natAbs) (c1 := j1) (A2 := C2) (n2 := len (below q.den)) (c2 := j2) (hv5)
  obtain ⟨d1, d2, d3⟩ := HD
  obtain ⟨r0, r1, r2⟩ := cells3 d3
  have HD := hid (And.intro d1 d2)
  clear d1 d2 d3
  go_wp2_with fail
  refine bodyPost_ret (v := .agg #[.bool (decide (q.num < 0)), .slice (C1) (len q.num.natAbs) (j1), .slice (C2) (len (below q.den)) (j2)]) ?_ rfl ⟨_, rfl, HD.out.1, below_to HB0.out (by omega) HD.out.2⟩
  simp [results, Tryz.results54, go_sem, r0, r1, r2]
end Go.Proofs.YtfppimacnhcflaaGreatDoor
namespace Go.Proofs.YtfppimacnhcflaaGreatDoor.Rf
open Lib (hid)
open Go.RowKit
open Rx
open Vx (siz siz_num siz_den)
open List renaming getElem?_toArray → lg, getElem?_cons_zero → lz, getElem?_cons_succ → ls, setIfInBounds_toArray → lt, set_cons_zero → ly, set_cons_succ → lu
theorem num_to {P : Program} {f : Nat} {ar : Array Value} {w : World} {q z : Rat} (e : q = z) (h : Calls P f ar w (NumRet w q)) : Calls P f ar w (NumRet w z) := e ▸ h
theorem cmpQ_eq0 {x y : Rat} : cmpQ x y = 0 ↔ x = y := by
  unfold cmpQ
  rcases Decidable.em (x < y) with h | h
  · rw [if_pos h]; exact ⟨fun a => absurd a (by decide), fun a => absurd (a ▸ h) (Rat.lt_irrefl)⟩
  · rw [if_neg h]
    rcases Decidable.em (x = y) with k | k
    · rw [if_pos k]; exact ⟨fun _ => k, fun _ => rfl⟩
    · rw [if_neg k]; exact ⟨fun a => absurd a (by decide), fun a => absurd a k⟩
theorem hasR_any {w : World} {vx vy : Value} {a b p : Rat} {r : Bool} (hr : decide (a ≤ p ∧ p ≤ b) = r) (hx : IsRBox w vx a b) (hy : IsRat w vy p) (sa : siz a ≤ 16777216) (sb : siz b ≤ 16777216) (sp : siz p ≤ 16777216) :
    Calls Tryz.prog 58 #[vx, vy] w (BoolRet w r) := by
  obtain ⟨c1, e1⟩ : ∃ n : Int, cmpQ a p = n := ⟨_, rfl⟩
  obtain ⟨c2, e2⟩ : ∃ n : Int, cmpQ p b = n := ⟨_, rfl⟩
  have ta : siz a ≤ 268435456 := by omega
  have tb : siz b ≤ 268435456 := by omega
  have tp : siz p ≤ 268435456 := by omega
  clear sa sb sp
  replace ta := hid ta
  replace tb := hid tb
  replace tp := hid tp
  rcases Decidable.em (a ≤ p) with h | h
  · have d1 : decide (c1 ≤ 0) = true := decide_eq_true (by rw [← e1]; exact cmpQ_le0.2 h)
    have d2 : decide (c2 ≤ 0) = r := by
      rw [← hr, ← e2]
      exact decide_eq_decide.2 ⟨fun k => ⟨h, cmpQ_le0.1 k⟩, fun k => cmpQ_le0.2 k.2⟩
    replace e1 := hid e1
    replace e2 := hid e2
    clear h hr
    obtain ⟨C1, j1, C2, j2, C3, j3, C4, j4, rfl, hxl, hxh⟩ := id hx.opened
    replace hx := hid hx
    replace hxl := hid hxl
    replace hxh := hid hxh
    obtain ⟨C5, j5, C6, j6, rfl, -, -⟩ := id hy.opened
    replace hy := hid hy
    obtain ⟨w1, hw1⟩ : ∃ u, u = ((w.alloc (.cells #[.bool (decide (a.num < 0)), .slice C1 (len a.num.natAbs) j1, .slice C2 (len a.den) j2, .bool (decide (b.num < 0)), .slice C3 (len b.num.natAbs) j3, .slice C4 (len b.den) j4] 76)).alloc (.cells #[.bool (decide (p.num < 0)), .slice C5 (len p.num.natAbs) j5, .slice C6 (len p.den) j6] 33)) := ⟨_, rfl⟩
    obtain ⟨b1, g1, g2⟩ := news2' hw1
    replace g1 := hid g1
    replace g2 := hid g2
    replace b1 := hid b1
    go_enter Tryz.func58, Tryz.ntmps58
    go_upto_region 1 with fail
    rw [← hw1]
    clear hw1
    have hg : w1.heap[w.heap.size]? = some (.cells #[.bool (decide (a.num < 0)), .slice C1 (len a.num.natAbs) j1, .slice C2 (len a.den) j2, .bool (decide (b.num < 0)), .slice C3 (len b.num.natAbs) j3, .slice C4 (len b.den) j4] 76 (0, 0)) := ((Below.refl _ w1).block _ (Array.getElem?_eq_some_iff.1 g1.out).1).trans g1.out
    obtain ⟨z_x_0, z_x_1, z_x_2, z_x_3, z_x_4, z_x_5⟩ := cells6 hg
    clear hg
    have hg : w1.heap[w.heap.size + 1]? = some (.cells #[.bool (decide (p.num < 0)), .slice C5 (len p.num.natAbs) j5, .slice C6 (len p.den) j6] 33 (0, 0)) := ((Below.refl _ w1).block _ (Array.getElem?_eq_some_iff.1 g2.out).1).trans g2.out
    obtain ⟨z_y_0, z_y_1, z_y_2⟩ := cells3 hg
    clear hg
    have HX := hid (cmpR_val e1.out (hxl.out.keep b1.out) (hy.out.keep b1.out) ta.out tp.out)
    go_wp2_with fail
    refine (HX.out).mono ?_
    rintro e w2 ⟨rfl, b2⟩
    replace b2 := hid b2
    clear HX
    clear z_x_0 z_x_1 z_x_2 z_x_3 z_x_4 z_x_5 z_y_0 z_y_1 z_y_2
    have hg : w2.heap[w.heap.size]? = some (.cells #[.bool (decide (a.num < 0)), .slice C1 (len a.num.natAbs) j1, .slice C2 (len a.den) j2, .bool (decide (b.num < 0)), .slice C3 (len b.num.natAbs) j3, .slice C4 (len b.den) j4] 76 (0, 0)) := (b2.out.block _ (Array.getElem?_eq_some_iff.1 g1.out).1).trans g1.out
    obtain ⟨z_x_0, z_x_1, z_x_2, z_x_3, z_x_4, z_x_5⟩ := cells6 hg
    clear hg
    have hg : w2.heap[w.heap.size + 1]? = some (.cells #[.bool (decide (p.num < 0)), .slice C5 (len p.num.natAbs) j5, .slice C6 (len p.den) j6] 33 (0, 0)) := (b2.out.block _ (Array.getElem?_eq_some_iff.1 g2.out).1).trans g2.out
    obtain ⟨z_y_0, z_y_1, z_y_2⟩ := cells3 hg
    clear hg
    have HX := hid (cmpR_val e2.out (hy.out.keep (Below.step b1.out b2.out)) (hxh.out.keep (Below.step b1.out b2.out)) tp.out tb.out)
    go_wp2_with fail
    refine (HX.out).mono ?_
    rintro e w3 ⟨rfl, b3⟩
    replace b3 := hid b3
    clear HX
    clear z_x_0 z_x_1 z_x_2 z_x_3 z_x_4 z_x_5 z_y_0 z_y_1 z_y_2
    have HE := hid (Below.step (Below.step b1.out b2.out) b3.out)
    go_wp2_with fail
    go_ret
    exact ⟨rfl, HE.out⟩
  · have d1 : decide (c1 ≤ 0) = false := decide_eq_false (by rw [← e1]; exact fun k => h (cmpQ_le0.1 k))
    have d2 : r = false := by rw [← hr]; exact decide_eq_false (fun k => h k.1)
    subst d2
    replace e1 := hid e1
    clear h hr e2
    obtain ⟨C7, j7, C8, j8, C9, j9, C10, j10, rfl, hxl, hxh⟩ := id hx.opened
    replace hx := hid hx
    replace hxl := hid hxl
    replace hxh := hid hxh
    obtain ⟨C11, j11, C12, j12, rfl, -, -⟩ := id hy.opened
    replace hy := hid hy
    obtain ⟨w1, hw1⟩ : ∃ u, u = ((w.alloc (.cells #[.bool (decide (a.num < 0)), .slice C7 (len a.num.natAbs) j7, .slice C8 (len a.den) j8, .bool (decide (b.num < 0)), .slice C9 (len b.num.natAbs) j9, .slice C10 (len b.den) j10] 76)).alloc (.cells #[.bool (decide (p.num < 0)), .slice C11 (len p.num.natAbs) j11, .slice C12 (len p.den) j12] 33)) := ⟨_, rfl⟩
    obtain ⟨b1, g1, g2⟩ := news2' hw1
    replace g1 := hid g1
    replace g2 := hid g2
    replace b1 := hid b1
    go_enter Tryz.func58, Tryz.ntmps58
    go_upto_region 1 with fail
    rw [← hw1]
    clear hw1
    have hg : w1.heap[w.heap.size]? = some (.cells #[.bool (decide (a.num < 0)), .slice C7 (len a.num.natAbs) j7, .slice C8 (len a.den) j8, .bool (decide (b.num < 0)), .slice C9 (len b.num.natAbs) j9, .slice C10 (len b.den) j10] 76 (0, 0)) := ((Below.refl _ w1).block _ (Array.getElem?_eq_some_iff.1 g1.out).1).trans g1.out
    obtain ⟨z_x_0, z_x_1, z_x_2, z_x_3, z_x_4, z_x_5⟩ := cells6 hg
    clear hg
    have hg : w1.heap[w.heap.size + 1]? = some (.cells #[.bool (decide (p.num < 0)), .slice C11 (len p.num.natAbs) j11, .slice C12 (len p.den) j12] 33 (0, 0)) := ((Below.refl _ w1).block _ (Array.getElem?_eq_some_iff.1 g2.out).1).trans g2.out
    obtain ⟨z_y_0, z_y_1, z_y_2⟩ := cells3 hg
    clear hg
    have HX := hid (cmpR_val e1.out (hxl.out.keep b1.out) (hy.out.keep b1.out) ta.out tp.out)
    go_wp2_with fail
    refine (HX.out).mono ?_
    rintro e w2 ⟨rfl, b2⟩
    replace b2 := hid b2
    clear HX
    clear z_x_0 z_x_1 z_x_2 z_x_3 z_x_4 z_x_5 z_y_0 z_y_1 z_y_2
    have HE := hid (Below.step b1.out b2.out)
    go_wp2_with fail
    go_ret
    exact ⟨rfl, HE.out⟩
theorem insideR_any {w : World} {vx vy : Value} {a b c d : Rat} {r : Bool} (hr : decide ((c ≤ a ∧ a ≤ d) ∧ (c ≤ b ∧ b ≤ d)) = r) (hx : IsRBox w vx a b) (hy : IsRBox w vy c d) (sa : siz a ≤ 16777216) (sb : siz b ≤ 16777216) (sc : siz c ≤ 16777216) (sd : siz d ≤ 16777216) :
    Calls Tryz.prog 60 #[vx, vy] w (BoolRet w r) := by
  obtain ⟨r1, e1⟩ : ∃ n : Bool, decide (c ≤ a ∧ a ≤ d) = n := ⟨_, rfl⟩
  obtain ⟨r2, e2⟩ : ∃ n : Bool, decide (c ≤ b ∧ b ≤ d) = n := ⟨_, rfl⟩
  have h3 : (r1 && r2) = r := by rw [← e1, ← e2, ← hr]; exact (Bool.decide_and _ _).symm.trans rfl
  replace sa := hid sa
  replace sb := hid sb
  replace sc := hid sc
  replace sd := hid sd
  replace e1 := hid e1
  replace e2 := hid e2
  clear hr
  rcases r1 with _ | _
  · obtain rfl : false = r := h3
    obtain ⟨C1, j1, C2, j2, C3, j3, C4, j4, rfl, hxl, hxh⟩ := id hx.opened
    replace hx := hid hx
    replace hxl := hid hxl
    replace hxh := hid hxh
    obtain ⟨C5, j5, C6, j6, C7, j7, C8, j8, rfl, hyl, hyh⟩ := id hy.opened
    replace hy := hid hy
    replace hyl := hid hyl
    replace hyh := hid hyh
    obtain ⟨w1, hw1⟩ : ∃ u, u = ((w.alloc (.cells #[.bool (decide (a.num < 0)), .slice C1 (len a.num.natAbs) j1, .slice C2 (len a.den) j2, .bool (decide (b.num < 0)), .slice C3 (len b.num.natAbs) j3, .slice C4 (len b.den) j4] 76)).alloc (.cells #[.bool (decide (c.num < 0)), .slice C5 (len c.num.natAbs) j5, .slice C6 (len c.den) j6, .bool (decide (d.num < 0)), .slice C7 (len d.num.natAbs) j7, .slice C8 (len d.den) j8] 76)) := ⟨_, rfl⟩
    obtain ⟨b1, g1, g2⟩ := news2' hw1
    replace g1 := hid g1
    replace g2 := hid g2
    replace b1 := hid b1
    go_enter Tryz.func60, Tryz.ntmps60
    go_upto_region 1 with fail
    rw [← hw1]
    clear hw1
    have hg : w1.heap[w.heap.size]? = some (.cells #[.bool (decide (a.num < 0)), .slice C1 (len a.num.natAbs) j1, .slice C2 (len a.den) j2, .bool (decide (b.num < 0)), .slice C3 (len b.num.natAbs) j3, .slice C4 (len b.den) j4] 76 (0, 0)) := ((Below.refl _ w1).block _ (Array.getElem?_eq_some_iff.1 g1.out).1).trans g1.out
    obtain ⟨z_x_0, z_x_1, z_x_2, z_x_3, z_x_4, z_x_5⟩ := cells6 hg
    clear hg
    have hg : w1.heap[w.heap.size + 1]? = some (.cells #[.bool (decide (c.num < 0)), .slice C5 (len c.num.natAbs) j5, .slice C6 (len c.den) j6, .bool (decide (d.num < 0)), .slice C7 (len d.num.natAbs) j7, .slice C8 (len d.den) j8] 76 (0, 0)) := ((Below.refl _ w1).block _ (Array.getElem?_eq_some_iff.1 g2.out).1).trans g2.out
    obtain ⟨z_y_0, z_y_1, z_y_2, z_y_3, z_y_4, z_y_5⟩ := cells6 hg
    clear hg
    have HX := hid (hasR_any e1.out (hy.out.keep b1.out) (hxl.out.keep b1.out) sc.out sd.out sa.out)
    go_wp2_with fail
    refine (HX.out).mono ?_
    rintro e w2 ⟨rfl, b2⟩
    replace b2 := hid b2
    clear HX
    clear z_x_0 z_x_1 z_x_2 z_x_3 z_x_4 z_x_5 z_y_0 z_y_1 z_y_2 z_y_3 z_y_4 z_y_5
    have HE := hid (Below.step b1.out b2.out)
    go_wp2_with fail
    go_ret
    exact ⟨rfl, HE.out⟩
  · obtain rfl : r2 = r := h3
    obtain ⟨C9, j9, C10, j10, C11, j11, C12, j12, rfl, hxl, hxh⟩ := id hx.opened
    replace hx := hid hx
    replace hxl := hid hxl
    replace hxh := hid hxh
    obtain ⟨C13, j13, C14, j14, C15, j15, C16, j16, rfl, hyl, hyh⟩ := id hy.opened
    replace hy := hid hy
    replace hyl := hid hyl
    replace hyh := hid hyh
    obtain ⟨w1, hw1⟩ : ∃ u, u = ((w.alloc (.cells #[.bool (decide (a.num < 0)), .slice C9 (len a.num.natAbs) j9, .slice C10 (len a.den) j10, .bool (decide (b.num < 0)), .slice C11 (len b.num.natAbs) j11, .slice C12 (len b.den) j12] 76)).alloc (.cells #[.bool (decide (c.num < 0)), .slice C13 (len c.num.natAbs) j13, .slice C14 (len c.den) j14, .bool (decide (d.num < 0)), .slice C15 (len d.num.natAbs) j15, .slice C16 (len d.den) j16] 76)) := ⟨_, rfl⟩
    obtain ⟨b1, g1, g2⟩ := news2' hw1
    replace g1 := hid g1
    replace g2 := hid g2
    replace b1 := hid b1
    go_enter Tryz.func60, Tryz.ntmps60
    go_upto_region 1 with fail
    rw [← hw1]
    clear hw1
    have hg : w1.heap[w.heap.size]? = some (.cells #[.bool (decide (a.num < 0)), .slice C9 (len a.num.natAbs) j9, .slice C10 (len a.den) j10, .bool (decide (b.num < 0)), .slice C11 (len b.num.natAbs) j11, .slice C12 (len b.den) j12] 76 (0, 0)) := ((Below.refl _ w1).block _ (Array.getElem?_eq_some_iff.1 g1.out).1).trans g1.out
    obtain ⟨z_x_0, z_x_1, z_x_2, z_x_3, z_x_4, z_x_5⟩ := cells6 hg
    clear hg
    have hg : w1.heap[w.heap.size + 1]? = some (.cells #[.bool (decide (c.num < 0)), .slice C13 (len c.num.natAbs) j13, .slice C14 (len c.den) j14, .bool (decide (d.num < 0)), .slice C15 (len d.num.natAbs) j15, .slice C16 (len d.den) j16] 76 (0, 0)) := ((Below.refl _ w1).block _ (Array.getElem?_eq_some_iff.1 g2.out).1).trans g2.out
    obtain ⟨z_y_0, z_y_1, z_y_2, z_y_3, z_y_4, z_y_5⟩ := cells6 hg
    clear hg
    have HX := hid (hasR_any e1.out (hy.out.keep b1.out) (hxl.out.keep b1.out) sc.out sd.out sa.out)
    go_wp2_with fail
    refine (HX.out).mono ?_
    rintro e w2 ⟨rfl, b2⟩
    replace b2 := hid b2
    clear HX
    clear z_x_0 z_x_1 z_x_2 z_x_3 z_x_4 z_x_5 z_y_0 z_y_1 z_y_2 z_y_3 z_y_4 z_y_5
    have hg : w2.heap[w.heap.size]? = some (.cells #[.bool (decide (a.num < 0)), .slice C9 (len a.num.natAbs) j9, .slice C10 (len a.den) j10, .bool (decide (b.num < 0)), .slice C11 (len b.num.natAbs) j11, .slice C12 (len b.den) j12] 76 (0, 0)) := (b2.out.block _ (Array.getElem?_eq_some_iff.1 g1.out).1).trans g1.out
    obtain ⟨z_x_0, z_x_1, z_x_2, z_x_3, z_x_4, z_x_5⟩ := cells6 hg
    clear hg
    have hg : w2.heap[w.heap.size + 1]? = some (.cells #[.bool (decide (c.num < 0)), .slice C13 (len c.num.natAbs) j13, .slice C14 (len c.den) j14, .bool (decide (d.num < 0)), .slice C15 (len d.num.natAbs) j15, .slice C16 (len d.den) j16] 76 (0, 0)) := (b2.out.block _ (Array.getElem?_eq_some_iff.1 g2.out).1).trans g2.out
    obtain ⟨z_y_0, z_y_1, z_y_2, z_y_3, z_y_4, z_y_5⟩ := cells6 hg
    clear hg
    have HX := hid (hasR_any e2.out (hy.out.keep (Below.step b1.out b2.out)) (hxh.out.keep (Below.step b1.out b2.out)) sc.out sd.out sb.out)
    go_wp2_with fail
    refine (HX.out).mono ?_
    rintro e w3 ⟨rfl, b3⟩
    replace b3 := hid b3
    clear HX
    clear z_x_0 z_x_1 z_x_2 z_x_3 z_x_4 z_x_5 z_y_0 z_y_1 z_y_2 z_y_3 z_y_4 z_y_5
    have HE := hid (Below.step (Below.step b1.out b2.out) b3.out)
    go_wp2_with fail
    go_ret
    exact ⟨rfl, HE.out⟩
theorem sameBox_any {w : World} {vx vy : Value} {a b : Rat} (hx : IsBox w vx a b) (hy : IsRBox w vy a b) (sa : siz a ≤ 4100) (sb : siz b ≤ 4100) (hT : TabAt 0 Lib.deBruijn64tab w) :
    Calls Tryz.prog 52 #[vx, vy] w (BoolRet w true) := by
  have s1 : siz a ≤ 536870912 := by omega
  have s2 : siz b ≤ 536870912 := by omega
  replace s1 := hid s1
  replace s2 := hid s2
  replace sa := hid sa
  replace sb := hid sb
  replace hT := hid hT
  obtain ⟨C1, j1, C2, j2, C3, j3, C4, j4, rfl, hxl, hxh⟩ := id hx.opened
  replace hx := hid hx
  replace hxl := hid hxl
  replace hxh := hid hxh
  obtain ⟨C5, j5, C6, j6, C7, j7, C8, j8, rfl, hyl, hyh⟩ := id hy.opened
  replace hy := hid hy
  replace hyl := hid hyl
  replace hyh := hid hyh
  obtain ⟨w1, hw1⟩ : ∃ u, u = ((w.alloc (.cells #[.bool (decide (a.num < 0)), .slice C1 (Vx.len a.num.natAbs) j1, .slice C2 (Vx.len (below a.den)) j2, .bool (decide (b.num < 0)), .slice C3 (Vx.len b.num.natAbs) j3, .slice C4 (Vx.len (below b.den)) j4] 71)).alloc (.cells #[.bool (decide (a.num < 0)), .slice C5 (len a.num.natAbs) j5, .slice C6 (len a.den) j6, .bool (decide (b.num < 0)), .slice C7 (len b.num.natAbs) j7, .slice C8 (len b.den) j8] 76)) := ⟨_, rfl⟩
  obtain ⟨b1, g1, g2⟩ := news2' hw1
  replace g1 := hid g1
  replace g2 := hid g2
  replace b1 := hid b1
  go_enter Tryz.func52, Tryz.ntmps52
  go_upto_region 1 with fail
  rw [← hw1]
  clear hw1
  go_wp2_with fail
  have HSZa : Hid ((w.heap.size + 2) ≤ w1.heap.size) := hid (by have := at_lt (at_keep g2.out (Below.refl _ w1)); omega)
  have hg : w1.heap[w.heap.size]? = some (.cells #[.bool (decide (a.num < 0)), .slice C1 (Vx.len a.num.natAbs) j1, .slice C2 (Vx.len (below a.den)) j2, .bool (decide (b.num < 0)), .slice C3 (Vx.len b.num.natAbs) j3, .slice C4 (Vx.len (below b.den)) j4] 71 (0, 0)) := ((Below.refl _ w1).block _ (Array.getElem?_eq_some_iff.1 g1.out).1).trans g1.out
  obtain ⟨z_x_0, z_x_1, z_x_2, z_x_3, z_x_4, z_x_5⟩ := cells6 hg
  clear hg
  have hlta_x : w.heap.size < (w.heap.size + 2) := by omega
  have hg : w1.heap[w.heap.size + 1]? = some (.cells #[.bool (decide (a.num < 0)), .slice C5 (len a.num.natAbs) j5, .slice C6 (len a.den) j6, .bool (decide (b.num < 0)), .slice C7 (len b.num.natAbs) j7, .slice C8 (len b.den) j8] 76 (0, 0)) := ((Below.refl _ w1).block _ (Array.getElem?_eq_some_iff.1 g2.out).1).trans g2.out
  obtain ⟨z_y_0, z_y_1, z_y_2, z_y_3, z_y_4, z_y_5⟩ := cells6 hg
  clear hg
  have hlta_y : w.heap.size + 1 < (w.heap.size + 2) := by omega
  have H0 := Held0.start w1 (w.heap.size + 2)
  have H0' := H0
  unfold Held0 at H0'
  refine wp_region_held_drew (S := (fun w' => (∀ b o, b < (w.heap.size + 2) → w'.cell? ⟨b, o, none⟩ = w1.cell? ⟨b, o, none⟩) ∧ Below ((w.heap.size + 2)) w1 w' ∧ Stay w1 w')) (by kernel_rfl) ?_ (fun hHeld => ?_)
  · (try dsimp only)
    exact H0'
  obtain ⟨w2, hw2⟩ : ∃ u, u = w1.drew := ⟨_, rfl⟩
  have b2 : Hid (Below w1.heap.size w1 w2) := by rw [hw2]; exact ⟨rfl, rfl, rfl, Nat.le_refl _, fun _ _ => rfl⟩
  rw [← hw2] at hHeld H0 ⊢
  clear hw2 H0'
  refine tk (i := 0) (h := ?_)
  try simp only [Act.put, lt, ly, lu]
  refine tk (i := 2) (h := ?_)
  try simp only [Act.put, lt, ly, lu]
  refine tk (i := 3) (h := ?_)
  try simp only [Act.put, lt, ly, lu]
  refine wpAnyH_ready (rs := [1]) (by kernel_rfl) (by simp) (AllReadyH.cons (o := ?oq4) ?eq4 ?kq4 AllReadyH.nil)
  case eq4 => simp only [lg, lz, ls]; rfl
  intro K hK; go_simp; go_at_call 95
  refine (boxLo_any (hx.out.keep (Below.step b1.out b2.out)) (Nat.le_trans s1.out (by omega))).mono ?_
  rintro e w3 ⟨v3, rfl, hv3, b3⟩
  obtain ⟨C9, j9, C10, j10, rfl, -, -⟩ := id hv3.opened
  replace hv3 := hid hv3
  replace b3 := hid b3
  have hk3 := hcall_le H0 HSZa b3.out; have hk3' := hk3; unfold Held0 at hk3'; clear hHeld H0
  refine hK.out _ _ ?_ (fun hHeld => ?_)
  · (try dsimp only); with_reducible exact hk3'
  clear hK K hk3'; try simp only [Act.put, lt, ly, lu]
  refine wpAnyH_ready (rs := [4]) (by kernel_rfl) (by simp) (AllReadyH.cons (o := ?oq5) ?eq5 ?kq5 AllReadyH.nil)
  case eq5 => simp only [lg, lz, ls]; rfl
  intro K hK; go_simp; go_at_call 13
  refine (same_any hv3.out (hyl.out.keep (Below.step (Below.step b1.out b2.out) b3.out)) sa.out (tab_keep hT.out (Below.step (Below.step b1.out b2.out) b3.out))).mono ?_
  rintro e w4 ⟨rfl, b4⟩
  replace b4 := hid b4
  have hk4 := hcall_le hk3 HSZa b4.out; have hk4' := hk4; unfold Held0 at hk4'; clear hHeld hk3
  refine hK.out _ _ ?_ (fun hHeld => ?_)
  · (try dsimp only); with_reducible exact hk4'
  clear hK K hk4'; try simp only [Act.put, lt, ly, lu]
  refine tk (i := 5) (h := ?_)
  try simp only [Act.put, lt, ly, lu]
  refine tk (i := 6) (h := ?_)
  try simp only [Act.put, lt, ly, lu]
  refine tk (i := 8) (h := ?_)
  try simp only [Act.put, lt, ly, lu]
  refine tk (i := 9) (h := ?_)
  try simp only [Act.put, lt, ly, lu]
  refine wpAnyH_ready (rs := [7]) (by kernel_rfl) (by simp) (AllReadyH.cons (o := ?oq10) ?eq10 ?kq10 AllReadyH.nil)
  case eq10 => simp only [lg, lz, ls]; rfl
  intro K hK; go_simp; go_at_call 96
  refine (boxHi_any (hx.out.keep (Below.step (Below.step (Below.step b1.out b2.out) b3.out) b4.out)) (Nat.le_trans s2.out (by omega))).mono ?_
  rintro e w5 ⟨v5, rfl, hv5, b5⟩
  obtain ⟨C11, j11, C12, j12, rfl, -, -⟩ := id hv5.opened
  replace hv5 := hid hv5
  replace b5 := hid b5
  have hk5 := hcall_le hk4 HSZa b5.out; have hk5' := hk5; unfold Held0 at hk5'; clear hHeld hk4
  refine hK.out _ _ ?_ (fun hHeld => ?_)
  · (try dsimp only); with_reducible exact hk5'
  clear hK K hk5'; try simp only [Act.put, lt, ly, lu]
  refine wpAnyH_ready (rs := [10]) (by kernel_rfl) (by simp) (AllReadyH.cons (o := ?oq11) ?eq11 ?kq11 AllReadyH.nil)
  case eq11 => simp only [lg, lz, ls]; rfl
  intro K hK; go_simp; go_at_call 13
  refine (same_any hv5.out (hyh.out.keep (Below.step (Below.step (Below.step (Below.step b1.out b2.out) b3.out) b4.out) b5.out)) sb.out (tab_keep hT.out (Below.step (Below.step (Below.step (Below.step b1.out b2.out) b3.out) b4.out) b5.out))).mono ?_
  rintro e w6 ⟨rfl, b6⟩
  replace b6 := hid b6
  have hk6 := hcall_le hk5 HSZa b6.out; have hk6' := hk6; unfold Held0 at hk6'; clear hHeld hk5
  refine hK.out _ _ ?_ (fun hHeld => ?_)
  · (try dsimp only); with_reducible exact hk6'
  clear hK K hk6'; try simp only [Act.put, lt, ly, lu]
  refine tk (i := 11) (h := ?_)
  try simp only [Act.put, lt, ly, lu]
  refine tk (i := 12) (h := ?_)
  try simp only [Act.put, lt, ly, lu]
  have HE := hid (Below.step (Below.step (Below.step (Below.step (Below.step b1.out b2.out) b3.out) b4.out) b5.out) b6.out)
  refine wpAnyH_done (by kernel_rfl) ?_ _
  clear hHeld
  go_wp2_with fail
  go_ret
  exact ⟨rfl, HE.out⟩
theorem none_any {w : World} {vx : Value} {a b : Rat} (ha : a = 0) (hb : b = 0) (hx : IsBox w vx a b) :
    Calls Tryz.prog 50 #[vx] w (BoolRet w true) := by
  have ea : a.num.sign = 0 := by rw [ha]; rfl
  have eb : b.num.sign = 0 := by rw [hb]; rfl
  have s1 : siz a ≤ 3 := by rw [ha]; decide +kernel
  have s2 : siz b ≤ 3 := by rw [hb]; decide +kernel
  clear ha hb
  replace ea := hid ea
  replace eb := hid eb
  replace s1 := hid s1
  replace s2 := hid s2
  obtain ⟨C1, j1, C2, j2, C3, j3, C4, j4, rfl, hxl, hxh⟩ := id hx.opened
  replace hx := hid hx
  replace hxl := hid hxl
  replace hxh := hid hxh
  obtain ⟨w1, hw1⟩ : ∃ u, u = (w.alloc (.cells #[.bool (decide (a.num < 0)), .slice C1 (Vx.len a.num.natAbs) j1, .slice C2 (Vx.len (below a.den)) j2, .bool (decide (b.num < 0)), .slice C3 (Vx.len b.num.natAbs) j3, .slice C4 (Vx.len (below b.den)) j4] 71)) := ⟨_, rfl⟩
  have b1 := alloc_below w (.cells #[.bool (decide (a.num < 0)), .slice C1 (Vx.len a.num.natAbs) j1, .slice C2 (Vx.len (below a.den)) j2, .bool (decide (b.num < 0)), .slice C3 (Vx.len b.num.natAbs) j3, .slice C4 (Vx.len (below b.den)) j4] 71)
  have g1 := heap_alloc_new w (.cells #[.bool (decide (a.num < 0)), .slice C1 (Vx.len a.num.natAbs) j1, .slice C2 (Vx.len (below a.den)) j2, .bool (decide (b.num < 0)), .slice C3 (Vx.len b.num.natAbs) j3, .slice C4 (Vx.len (below b.den)) j4] 71)
  rw [← hw1] at b1 g1
  replace g1 := hid g1
  replace b1 := hid b1
  go_enter Tryz.func50, Tryz.ntmps50
  go_upto_region 1 with fail
  rw [← hw1]
  clear hw1
  have hg : w1.heap[w.heap.size]? = some (.cells #[.bool (decide (a.num < 0)), .slice C1 (Vx.len a.num.natAbs) j1, .slice C2 (Vx.len (below a.den)) j2, .bool (decide (b.num < 0)), .slice C3 (Vx.len b.num.natAbs) j3, .slice C4 (Vx.len (below b.den)) j4] 71 (0, 0)) := ((Below.refl _ w1).block _ (Array.getElem?_eq_some_iff.1 g1.out).1).trans g1.out
  obtain ⟨z_x_0, z_x_1, z_x_2, z_x_3, z_x_4, z_x_5⟩ := cells6 hg
  clear hg
  have HX := hid (boxLo_any (hx.out.keep b1.out) (Nat.le_trans s1.out (by omega)))
  go_wp2_with fail
  refine (HX.out).mono ?_
  rintro e w2 ⟨v2, rfl, hv2, b2⟩
  obtain ⟨C5, j5, C6, j6, rfl, -, -⟩ := id hv2.opened
  replace hv2 := hid hv2
  replace b2 := hid b2
  clear HX
  clear z_x_0 z_x_1 z_x_2 z_x_3 z_x_4 z_x_5
  have HX := hid (sign_val ea.out hv2.out)
  go_wp2_with fail
  refine (HX.out).mono ?_
  rintro e w3 ⟨rfl, b3⟩
  replace b3 := hid b3
  clear HX
  have hg : w3.heap[w.heap.size]? = some (.cells #[.bool (decide (a.num < 0)), .slice C1 (Vx.len a.num.natAbs) j1, .slice C2 (Vx.len (below a.den)) j2, .bool (decide (b.num < 0)), .slice C3 (Vx.len b.num.natAbs) j3, .slice C4 (Vx.len (below b.den)) j4] 71 (0, 0)) := ((Below.step b2.out b3.out).block _ (Array.getElem?_eq_some_iff.1 g1.out).1).trans g1.out
  obtain ⟨z_x_0, z_x_1, z_x_2, z_x_3, z_x_4, z_x_5⟩ := cells6 hg
  clear hg
  have HX := hid (boxHi_any (hx.out.keep (Below.step (Below.step b1.out b2.out) b3.out)) (Nat.le_trans s2.out (by omega)))
  go_wp2_with fail
  refine (HX.out).mono ?_
  rintro e w4 ⟨v4, rfl, hv4, b4⟩
  obtain ⟨C7, j7, C8, j8, rfl, -, -⟩ := id hv4.opened
  replace hv4 := hid hv4
  replace b4 := hid b4
  clear HX
  clear z_x_0 z_x_1 z_x_2 z_x_3 z_x_4 z_x_5
  have HX := hid (sign_val eb.out hv4.out)
  go_wp2_with fail
  refine (HX.out).mono ?_
  rintro e w5 ⟨rfl, b5⟩
  replace b5 := hid b5
  clear HX
  have HE := hid (Below.step (Below.step (Below.step (Below.step b1.out b2.out) b3.out) b4.out) b5.out)
  go_wp2_with fail
  go_ret
  exact ⟨rfl, HE.out⟩
theorem boxMid_any {w : World} {vx : Value} {a b r : Rat} (hr : (a + b) / ((2 : Int) : Rat) = r) (hx : IsBox w vx a b) (sa : siz a ≤ 16777216) (sb : siz b ≤ 16777216) :
    Calls Tryz.prog 53 #[vx] w (NumRet w r) := by
  obtain ⟨m, em⟩ : ∃ z : Rat, a + b = z := ⟨_, rfl⟩
  obtain ⟨o, eo⟩ : ∃ z : Rat, ((2 : Int) : Rat) = z := ⟨_, rfl⟩
  rw [em, eo] at hr
  have s1 : siz a ≤ 536870912 := by omega
  have s2 : siz b ≤ 536870912 := by omega
  have s3 : siz m ≤ 34359738368 := by rw [← em]; have := Vx.siz_add a b; omega
  have s4 : siz o ≤ 34359738368 := Nat.le_trans (show siz o ≤ 3 by rw [← eo]; decide +kernel) (by omega)
  clear sa sb
  replace s1 := hid s1
  replace s2 := hid s2
  replace s3 := hid s3
  replace s4 := hid s4
  replace em := hid em
  replace eo := hid eo
  replace hr := hid hr
  obtain ⟨C1, j1, C2, j2, C3, j3, C4, j4, rfl, hxl, hxh⟩ := id hx.opened
  replace hx := hid hx
  replace hxl := hid hxl
  replace hxh := hid hxh
  obtain ⟨w1, hw1⟩ : ∃ u, u = ((w.alloc (.cells #[.bool (decide (a.num < 0)), .slice C1 (Vx.len a.num.natAbs) j1, .slice C2 (Vx.len (below a.den)) j2, .bool (decide (b.num < 0)), .slice C3 (Vx.len b.num.natAbs) j3, .slice C4 (Vx.len (below b.den)) j4] 71)).alloc (.cells #[.bool false, .slice none 0 0, .slice none 0 0] 25)) := ⟨_, rfl⟩
  obtain ⟨b1, g1, g2⟩ := news2' hw1
  replace g1 := hid g1
  replace g2 := hid g2
  replace b1 := hid b1
  go_enter Tryz.func53, Tryz.ntmps53
  go_upto_region 1 with fail
  rw [← hw1]
  clear hw1
  have hg : w1.heap[w.heap.size]? = some (.cells #[.bool (decide (a.num < 0)), .slice C1 (Vx.len a.num.natAbs) j1, .slice C2 (Vx.len (below a.den)) j2, .bool (decide (b.num < 0)), .slice C3 (Vx.len b.num.natAbs) j3, .slice C4 (Vx.len (below b.den)) j4] 71 (0, 0)) := ((Below.refl _ w1).block _ (Array.getElem?_eq_some_iff.1 g1.out).1).trans g1.out
  obtain ⟨z_x_0, z_x_1, z_x_2, z_x_3, z_x_4, z_x_5⟩ := cells6 hg
  clear hg
  have HX := hid (add_val em.out (hxl.out.keep b1.out) (hxh.out.keep b1.out) s1.out s2.out)
  go_wp2_with fail
  refine (HX.out).mono ?_
  rintro e w2 ⟨v2, rfl, hv2, b2⟩
  obtain ⟨C5, j5, C6, j6, rfl, -, -⟩ := id hv2.opened
  replace hv2 := hid hv2
  replace b2 := hid b2
  clear HX
  clear z_x_0 z_x_1 z_x_2 z_x_3 z_x_4 z_x_5
  have HX := hid (whole_val (w := w2) (by omega) (by omega) eo.out)
  go_wp2_with fail
  refine (HX.out).mono ?_
  rintro e w3 ⟨v3, rfl, hv3, b3⟩
  obtain ⟨C7, j7, C8, j8, rfl, -, -⟩ := id hv3.opened
  replace hv3 := hid hv3
  replace b3 := hid b3
  clear HX
  have HX := hid (num_to hr.out (numOver_any (hv2.out.keep b3.out) hv3.out s3.out s4.out))
  go_wp2_with fail
  refine (HX.out).mono ?_
  rintro e w4 ⟨v4, rfl, hv4, b4⟩
  obtain ⟨C9, j9, C10, j10, rfl, -, -⟩ := id hv4.opened
  replace hv4 := hid hv4
  replace b4 := hid b4
  clear HX
  have DR := (at_keep g2.out (Below.step (Below.step b2.out b3.out) b4.out))
  have q0 : w4.cell? ⟨w.heap.size + 1, 0, none⟩ = some (.bool false) := cell_of_row _ _ _ _ _ _ DR
  have F0 : w4.frozen? ⟨w.heap.size + 1, 0, none⟩ = false := frozen_of_row w4 (w.heap.size + 1) 0 _ _ DR
  have q1 : w4.cell? ⟨w.heap.size + 1, 1, none⟩ = some (.slice none 0 0) := cell_of_row _ _ _ _ _ _ DR
  have F1 : w4.frozen? ⟨w.heap.size + 1, 1, none⟩ = false := frozen_of_row w4 (w.heap.size + 1) 1 _ _ DR
  have q2 : w4.cell? ⟨w.heap.size + 1, 2, none⟩ = some (.slice none 0 0) := cell_of_row _ _ _ _ _ _ DR
  have F2 : w4.frozen? ⟨w.heap.size + 1, 2, none⟩ = false := frozen_of_row w4 (w.heap.size + 1) 2 _ _ DR
  have FB := (Below.step (Below.step (Below.step b1.out b2.out) b3.out) b4.out)
  have FV := hv4.out
  obtain ⟨ue, hw⟩ : ∃ z, z = (((w4.setCell ⟨w.heap.size + 1, 0, none⟩ (.bool (decide (r.num < 0)))).setCell ⟨w.heap.size + 1, 1, none⟩ (.slice C9 (Vx.len r.num.natAbs) j9)).setCell ⟨w.heap.size + 1, 2, none⟩ (.slice C10 (Vx.len (below r.den)) j10)) := ⟨_, rfl⟩
  obtain ⟨E_ue, -, LV, BL⟩ := stored3 DR hw
  have FE := hid (LV.num FV)
  replace FB := hid (BL _ _ (by omega) FB)
  replace E_ue := hid E_ue
  replace hw := hid hw
  clear DR FV LV BL
  go_wp2_with fail
  rw [← hw.out]
  obtain ⟨r0, r1, r2⟩ := cells3 E_ue.out
  refine bodyPost_ret (v := .agg #[.bool (decide (r.num < 0)), .slice C9 (Vx.len r.num.natAbs) j9, .slice C10 (Vx.len (below r.den)) j10]) ?_ rfl ⟨_, rfl, FE.out, FB.out⟩
  simp [results, Tryz.results53, go_sem, r0, r1, r2]
theorem boxEqual_any {w : World} {vx vy : Value} {a b c d : Rat} {r : Bool} (hr : decide (a = c ∧ b = d) = r) (hx : IsBox w vx a b) (hy : IsBox w vy c d) (sa : siz a ≤ 16777216) (sb : siz b ≤ 16777216) (sc : siz c ≤ 16777216) (sd : siz d ≤ 16777216) :
    Calls Tryz.prog 61 #[vx, vy] w (BoolRet w r) := by
  obtain ⟨c1, e1⟩ : ∃ n : Int, cmpQ a c = n := ⟨_, rfl⟩
  obtain ⟨c2, e2⟩ : ∃ n : Int, cmpQ b d = n := ⟨_, rfl⟩
  have ta : siz a ≤ 536870912 := by omega
  have tb : siz b ≤ 536870912 := by omega
  have tc : siz c ≤ 536870912 := by omega
  have td : siz d ≤ 536870912 := by omega
  clear sa sb sc sd
  replace ta := hid ta
  replace tb := hid tb
  replace tc := hid tc
  replace td := hid td
  rcases Decidable.em (a = c) with h | h
  · have d1 : (c1 == 0) = true := by rw [← e1]; exact beq_iff_eq.2 (cmpQ_eq0.2 h)
    have d2 : (c2 == 0) = r := by
      rw [← hr, ← e2, Bool.eq_iff_iff, beq_iff_eq, decide_eq_true_iff]
      exact ⟨fun k => ⟨h, cmpQ_eq0.1 k⟩, fun k => cmpQ_eq0.2 k.2⟩
    replace e1 := hid e1
    replace e2 := hid e2
    clear h hr
    obtain ⟨C1, j1, C2, j2, C3, j3, C4, j4, rfl, hxl, hxh⟩ := id hx.opened
    replace hx := hid hx
    replace hxl := hid hxl
    replace hxh := hid hxh
    obtain ⟨C5, j5, C6, j6, C7, j7, C8, j8, rfl, hyl, hyh⟩ := id hy.opened
    replace hy := hid hy
    replace hyl := hid hyl
    replace hyh := hid hyh
    obtain ⟨w1, hw1⟩ : ∃ u, u = ((w.alloc (.cells #[.bool (decide (a.num < 0)), .slice C1 (Vx.len a.num.natAbs) j1, .slice C2 (Vx.len (below a.den)) j2, .bool (decide (b.num < 0)), .slice C3 (Vx.len b.num.natAbs) j3, .slice C4 (Vx.len (below b.den)) j4] 71)).alloc (.cells #[.bool (decide (c.num < 0)), .slice C5 (Vx.len c.num.natAbs) j5, .slice C6 (Vx.len (below c.den)) j6, .bool (decide (d.num < 0)), .slice C7 (Vx.len d.num.natAbs) j7, .slice C8 (Vx.len (below d.den)) j8] 71)) := ⟨_, rfl⟩
    obtain ⟨b1, g1, g2⟩ := news2' hw1
    replace g1 := hid g1
    replace g2 := hid g2
    replace b1 := hid b1
    go_enter Tryz.func61, Tryz.ntmps61
    go_upto_region 1 with fail
    rw [← hw1]
    clear hw1
    have hg : w1.heap[w.heap.size]? = some (.cells #[.bool (decide (a.num < 0)), .slice C1 (Vx.len a.num.natAbs) j1, .slice C2 (Vx.len (below a.den)) j2, .bool (decide (b.num < 0)), .slice C3 (Vx.len b.num.natAbs) j3, .slice C4 (Vx.len (below b.den)) j4] 71 (0, 0)) := ((Below.refl _ w1).block _ (Array.getElem?_eq_some_iff.1 g1.out).1).trans g1.out
    obtain ⟨z_x_0, z_x_1, z_x_2, z_x_3, z_x_4, z_x_5⟩ := cells6 hg
    clear hg
    have hg : w1.heap[w.heap.size + 1]? = some (.cells #[.bool (decide (c.num < 0)), .slice C5 (Vx.len c.num.natAbs) j5, .slice C6 (Vx.len (below c.den)) j6, .bool (decide (d.num < 0)), .slice C7 (Vx.len d.num.natAbs) j7, .slice C8 (Vx.len (below d.den)) j8] 71 (0, 0)) := ((Below.refl _ w1).block _ (Array.getElem?_eq_some_iff.1 g2.out).1).trans g2.out
    obtain ⟨z_y_0, z_y_1, z_y_2, z_y_3, z_y_4, z_y_5⟩ := cells6 hg
    clear hg
    have HX := hid (cmp_val e1.out (hxl.out.keep b1.out) (hyl.out.keep b1.out) ta.out tc.out)
    go_wp2_with fail
    refine (HX.out).mono ?_
    rintro e w2 ⟨rfl, b2⟩
    replace b2 := hid b2
    clear HX
    clear z_x_0 z_x_1 z_x_2 z_x_3 z_x_4 z_x_5 z_y_0 z_y_1 z_y_2 z_y_3 z_y_4 z_y_5
    have hg : w2.heap[w.heap.size]? = some (.cells #[.bool (decide (a.num < 0)), .slice C1 (Vx.len a.num.natAbs) j1, .slice C2 (Vx.len (below a.den)) j2, .bool (decide (b.num < 0)), .slice C3 (Vx.len b.num.natAbs) j3, .slice C4 (Vx.len (below b.den)) j4] 71 (0, 0)) := (b2.out.block _ (Array.getElem?_eq_some_iff.1 g1.out).1).trans g1.out
    obtain ⟨z_x_0, z_x_1, z_x_2, z_x_3, z_x_4, z_x_5⟩ := cells6 hg
    clear hg
    have hg : w2.heap[w.heap.size + 1]? = some (.cells #[.bool (decide (c.num < 0)), .slice C5 (Vx.len c.num.natAbs) j5, .slice C6 (Vx.len (below c.den)) j6, .bool (decide (d.num < 0)), .slice C7 (Vx.len d.num.natAbs) j7, .slice C8 (Vx.len (below d.den)) j8] 71 (0, 0)) := (b2.out.block _ (Array.getElem?_eq_some_iff.1 g2.out).1).trans g2.out
    obtain ⟨z_y_0, z_y_1, z_y_2, z_y_3, z_y_4, z_y_5⟩ := cells6 hg
    clear hg
    have HX := hid (cmp_val e2.out (hxh.out.keep (Below.step b1.out b2.out)) (hyh.out.keep (Below.step b1.out b2.out)) tb.out td.out)
    go_wp2_with fail
    refine (HX.out).mono ?_
    rintro e w3 ⟨rfl, b3⟩
    replace b3 := hid b3
    clear HX
    clear z_x_0 z_x_1 z_x_2 z_x_3 z_x_4 z_x_5 z_y_0 z_y_1 z_y_2 z_y_3 z_y_4 z_y_5
    have HE := hid (Below.step (Below.step b1.out b2.out) b3.out)
    go_wp2_with fail
    go_ret
    exact ⟨rfl, HE.out⟩
  · have d1 : (c1 == 0) = false := by rw [← e1]; exact beq_eq_false_iff_ne.2 (fun k => h (cmpQ_eq0.1 k))
    have d2 : r = false := by rw [← hr]; exact decide_eq_false (fun k => h k.1)
    subst d2
    replace e1 := hid e1
    clear h hr e2
    obtain ⟨C9, j9, C10, j10, C11, j11, C12, j12, rfl, hxl, hxh⟩ := id hx.opened
    replace hx := hid hx
    replace hxl := hid hxl
    replace hxh := hid hxh
    obtain ⟨C13, j13, C14, j14, C15, j15, C16, j16, rfl, hyl, hyh⟩ := id hy.opened
    replace hy := hid hy
    replace hyl := hid hyl
    replace hyh := hid hyh
    obtain ⟨w1, hw1⟩ : ∃ u, u = ((w.alloc (.cells #[.bool (decide (a.num < 0)), .slice C9 (Vx.len a.num.natAbs) j9, .slice C10 (Vx.len (below a.den)) j10, .bool (decide (b.num < 0)), .slice C11 (Vx.len b.num.natAbs) j11, .slice C12 (Vx.len (below b.den)) j12] 71)).alloc (.cells #[.bool (decide (c.num < 0)), .slice C13 (Vx.len c.num.natAbs) j13, .slice C14 (Vx.len (below c.den)) j14, .bool (decide (d.num < 0)), .slice C15 (Vx.len d.num.natAbs) j15, .slice C16 (Vx.len (below d.den)) j16] 71)) := ⟨_, rfl⟩
    obtain ⟨b1, g1, g2⟩ := news2' hw1
    replace g1 := hid g1
    replace g2 := hid g2
    replace b1 := hid b1
    go_enter Tryz.func61, Tryz.ntmps61
    go_upto_region 1 with fail
    rw [← hw1]
    clear hw1
    have hg : w1.heap[w.heap.size]? = some (.cells #[.bool (decide (a.num < 0)), .slice C9 (Vx.len a.num.natAbs) j9, .slice C10 (Vx.len (below a.den)) j10, .bool (decide (b.num < 0)), .slice C11 (Vx.len b.num.natAbs) j11, .slice C12 (Vx.len (below b.den)) j12] 71 (0, 0)) := ((Below.refl _ w1).block _ (Array.getElem?_eq_some_iff.1 g1.out).1).trans g1.out
    obtain ⟨z_x_0, z_x_1, z_x_2, z_x_3, z_x_4, z_x_5⟩ := cells6 hg
    clear hg
    have hg : w1.heap[w.heap.size + 1]? = some (.cells #[.bool (decide (c.num < 0)), .slice C13 (Vx.len c.num.natAbs) j13, .slice C14 (Vx.len (below c.den)) j14, .bool (decide (d.num < 0)), .slice C15 (Vx.len d.num.natAbs) j15, .slice C16 (Vx.len (below d.den)) j16] 71 (0, 0)) := ((Below.refl _ w1).block _ (Array.getElem?_eq_some_iff.1 g2.out).1).trans g2.out
    obtain ⟨z_y_0, z_y_1, z_y_2, z_y_3, z_y_4, z_y_5⟩ := cells6 hg
    clear hg
    have HX := hid (cmp_val e1.out (hxl.out.keep b1.out) (hyl.out.keep b1.out) ta.out tc.out)
    go_wp2_with fail
    refine (HX.out).mono ?_
    rintro e w2 ⟨rfl, b2⟩
    replace b2 := hid b2
    clear HX
    clear z_x_0 z_x_1 z_x_2 z_x_3 z_x_4 z_x_5 z_y_0 z_y_1 z_y_2 z_y_3 z_y_4 z_y_5
    have HE := hid (Below.step b1.out b2.out)
    go_wp2_with fail
    go_ret
    exact ⟨rfl, HE.out⟩
end Go.Proofs.YtfppimacnhcflaaGreatDoor.Rf
