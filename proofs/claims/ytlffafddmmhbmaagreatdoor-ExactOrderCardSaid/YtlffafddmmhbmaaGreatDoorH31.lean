/-
  Contracts of the functions that the law calls, for every input (LawE Val Ord Place LawF).
-/
import Derived.Test.YtlffafddmmhbmaaGreatDoorH25
import Derived.Test.YtlffafddmmhbmaaGreatDoorH27
import Derived.Test.YtlffafddmmhbmaaGreatDoorH30
import Derived.Test.YtlffafddmmhbmaaGreatDoorH29
import Derived.Test.YtlffafddmmhbmaaGreatDoorH11
set_option linter.all false
namespace Go.Proofs.YtlffafddmmhbmaaGreatDoor
open Go.RowKit
open Vx
open Lib (hid)
open List renaming getElem?_toArray → lg, getElem?_cons_zero → lz, getElem?_cons_succ → ls, setIfInBounds_toArray → lt, set_cons_zero → ly, set_cons_succ → lu

theorem span_q {w : World} {vx vy : Value} {x y l h : Rat} (hl : x = l) (hh : y = h) (hx : IsNum w vx x) (hy : IsNum w vy y) (hs : siz x ≤ 34359738368) (ht : siz y ≤ 34359738368) (hle : x ≤ y) :
    Calls Tryz.prog 52 #[vx, vy] w (BoxErrRet w l h 0) := by
  rw [← hl, ← hh]
  exact span_yes hx hy hs ht hle
theorem two_keep {w w' : World} {b : Nat} {x y : Value} (h : w.cell? ⟨b, 0, none⟩ = some x ∧ w.cell? ⟨b, 1, none⟩ = some y) (hb : Below w.heap.size w w') : w'.cell? ⟨b, 0, none⟩ = some x ∧ w'.cell? ⟨b, 1, none⟩ = some y :=
  ⟨(hb.cell (p := ⟨b, 0, none⟩) (World.block_lt_of_cell? w _ h.1)).trans h.1, (hb.cell (p := ⟨b, 1, none⟩) (World.block_lt_of_cell? w _ h.2)).trans h.2⟩
theorem two_put {w : World} {b g : Nat} {x y : Value} {p : Pt} (h : w.cell? ⟨b, 0, none⟩ = some x ∧ w.cell? ⟨b, 1, none⟩ = some y) (hne : b ≠ g) : (put3 w g p).cell? ⟨b, 0, none⟩ = some x ∧ (put3 w g p).cell? ⟨b, 1, none⟩ = some y := by
  unfold put3
  constructor
  · rw [World.cell?_setCell_other _ _ _ _ (by intro e; injection e with e1; omega), World.cell?_setCell_other _ _ _ _ (by intro e; injection e with e1; omega), World.cell?_setCell_other _ _ _ _ (by intro e; injection e with e1; omega)]
    exact h.1
  · rw [World.cell?_setCell_other _ _ _ _ (by intro e; injection e with e1; omega), World.cell?_setCell_other _ _ _ _ (by intro e; injection e with e1; omega), World.cell?_setCell_other _ _ _ _ (by intro e; injection e with e1; omega)]
    exact h.2
theorem IsNum.put3 {w : World} {v : Value} {q : Rat} {b : Nat} {p r : Pt} (h : IsNum w v q) (L : Loc w b p) : IsNum (Go.Proofs.YtlffafddmmhbmaaGreatDoor.put3 w b r) v q := by
  have k0 : Kept 3 27 w b w := Kept.start rfl (plain3 _ _ _ _ _ _ _) L
  have k1 := k0.set (i := 0) (bool_plain r.s)
  have k2 := k1.set (i := 1) (slice_plain r.A1 r.n1 r.c1)
  exact ((h.put k0).put k1).put k2
theorem zero_below (u : World) : Below u.heap.size u (u.alloc (.cells #[.bool false, .slice none 0 0, .slice none 0 0] 27)) := (Below.refl _ _).alloc (Nat.le_refl _) _
theorem zero_loc (u : World) : Loc (u.alloc (.cells #[.bool false, .slice none 0 0, .slice none 0 0] 27)) u.heap.size ⟨false, none, 0, 0, none, 0, 0⟩ := heap_alloc_new u _
/-- the slots of a region behind its takes as a letter -/
theorem letters {F : Nat → Array Bool → Act → World → Prop} {n : Nat} {L : Array Bool} {A : Act} {w : World} (h : ∀ A0, A = A0 → F n L A0 w) : F n L A w := h _ rfl

set_option maxRecDepth 100000 in
set_option maxHeartbeats 40000000 in
theorem box_to {w : World} {s1 s2 : ByteArray} {mx : Int} {a b l h : Rat} (hM : w.cell? ⟨1, 0, none⟩ = some (.int .i64 mx)) (ea : (parseV s1).1 = a) (eb : (parseV s2).1 = b) (hlow : l = if b < a then b else a) (hhigh : h = if b < a then a else b) :
    Calls Tryz.prog 29 #[.agg #[.string s1, .string s2]] w (BoxRet w l h) := by
  have za : Hid (siz a ≤ 34359738368) := by show _ ≤ _; rw [← ea]; exact Nat.le_trans (parse_siz _) (by omega)
  have zb : Hid (siz b ≤ 34359738368) := by show _ ≤ _; rw [← eb]; exact Nat.le_trans (parse_siz _) (by omega)
  obtain ⟨wB, hwB⟩ : ∃ u, u = (w.alloc (.cells #[.string s1, .string s2] 48)).alloc (.cells #[.bool false, .slice none 0 0, .slice none 0 0, .bool false, .slice none 0 0, .slice none 0 0] 53) := ⟨_, rfl⟩
  obtain ⟨b0, g0, g1⟩ := news2 w (.cells #[.string s1, .string s2] 48) (.cells #[.bool false, .slice none 0 0, .slice none 0 0, .bool false, .slice none 0 0, .slice none 0 0] 53)
  rw [← hwB] at b0 g0 g1
  have k0 : wB.cell? ⟨w.heap.size, 0, none⟩ = some (.string s1) := cell_of_row _ _ _ _ _ _ g0
  have k1 : wB.cell? ⟨w.heap.size, 1, none⟩ = some (.string s2) := cell_of_row _ _ _ _ _ _ g0
  have HKB := hid (Kept.start (T := 53) rfl plain6 g1)
  have HB0 := hid b0
  have HMB := hid (cell_keep hM b0)
  clear g0 g1 b0 hM
  replace ea := hid ea
  replace eb := hid eb
  replace hlow := hid hlow
  replace hhigh := hid hhigh
  obtain ⟨w0, hw0⟩ : ∃ u, u = wB.drew := ⟨_, rfl⟩
  have hbd : Hid (Below wB.heap.size wB w0) := by rw [hw0]; exact ⟨rfl, rfl, rfl, Nat.le_refl _, fun _ _ => rfl⟩
  have hS0 := two_keep ⟨k0, k1⟩ hbd.out
  have HK0 := hid (HKB.out.call hbd.out)
  have HM0 := hid (cell_keep HMB.out hbd.out)
  clear HKB HMB hbd
  go_enter Tryz.func29, Tryz.ntmps29
  go_upto_region 1 with fail
  rw [← hwB]
  clear hwB
  go_wp2_with fail
  refine wp_region_held_drew (S := (fun w' => w'.cell? ⟨w.heap.size, 0, none⟩ = some (.string s1) ∧ w'.cell? ⟨w.heap.size, 1, none⟩ = some (.string s2))) (by kernel_rfl) ?_ (fun hHeld => ?_)
  · (try dsimp only)
    rw [← hw0]; exact hS0
  rw [← hw0] at hHeld ⊢
  clear hw0 k0 k1
  refine wpAnyH_take (i := 0) (v := ?v0) (oi := ?o0) ?e0 ?a0 ?b0 ?c0 ?d0 ?y0 ?s0 ?r0
  case e0 => simp only [lg, lz, ls]; rfl
  case a0 => kernel_rfl
  case b0 => kernel_rfl
  case c0 => kernel_rfl
  case d0 => exact fun _ _ _ h => h
  case y0 =>
    refine Or.inl ⟨by rfl, ?_⟩
    intro w hSw
    (try dsimp only at hSw)
    go_simp
    try with_reducible rfl
  case s0 => assumption
  try simp only [Act.put, lt, ly, lu]
  refine wpAnyH_take (i := 1) (v := ?v1) (oi := ?o1) ?e1 ?a1 ?b1 ?c1 ?d1 ?y1 ?s1 ?r1
  case e1 => simp only [lg, lz, ls]; rfl
  case a1 => kernel_rfl
  case b1 => kernel_rfl
  case c1 => kernel_rfl
  case d1 => exact fun _ _ _ h => h
  case y1 =>
    refine Or.inl ⟨by rfl, ?_⟩
    intro w hSw
    (try dsimp only at hSw)
    go_simp
    try with_reducible rfl
  case s1 => assumption
  try simp only [Act.put, lt, ly, lu]
  refine wpAnyH_take (i := 3) (v := ?v3) (oi := ?o3) ?e3 ?a3 ?b3 ?c3 ?d3 ?y3 ?s3 ?r3
  case e3 => simp only [lg, lz, ls]; rfl
  case a3 => kernel_rfl
  case b3 => kernel_rfl
  case c3 => kernel_rfl
  case d3 => exact fun _ _ _ h => h
  case y3 =>
    refine Or.inl ⟨by rfl, ?_⟩
    intro w hSw
    (try dsimp only at hSw)
    go_simp
    try with_reducible rfl
  case s3 => assumption
  try simp only [Act.put, lt, ly, lu]
  refine wpAnyH_take (i := 4) (v := ?v4) (oi := ?o4) ?e4 ?a4 ?b4 ?c4 ?d4 ?y4 ?s4 ?r4
  case e4 => simp only [lg, lz, ls]; rfl
  case a4 => kernel_rfl
  case b4 => kernel_rfl
  case c4 => kernel_rfl
  case d4 => exact fun _ _ _ h => h
  case y4 =>
    refine Or.inl ⟨by rfl, ?_⟩
    intro w hSw
    (try dsimp only at hSw)
    go_simp
    try with_reducible rfl
  case s4 => assumption
  try simp only [Act.put, lt, ly, lu]
  generalize hF : wpAnyH _ _ _ _ _ = F
  replace hF := hid hF
  refine letters ?_
  intro A0 hA
  replace hA := hid hA
  clear hHeld
  have st2_34 : ∀ (L : Array Bool) (uw : World) (v9 v12 : Value) (N3 N4 : Nat), L = #[true, true, true, true, true, true, true, true, false, false] → uw.cell? ⟨w.heap.size, 0, none⟩ = some (.string s1) ∧ uw.cell? ⟨w.heap.size, 1, none⟩ = some (.string s2) → Hid (Kept 6 53 wB (w.heap.size + 1) uw) → Hid (uw.cell? ⟨1, 0, none⟩ = some (.int .i64 mx)) → Hid (IsNum uw v9 a) → Hid (IsNum uw v12 b) → Hid (Loc uw N3 ⟨false, none, 0, 0, none, 0, 0⟩) → w.heap.size + 1 < N3 → Hid (Loc uw N4 ⟨false, none, 0, 0, none, 0, 0⟩) → w.heap.size + 1 < N4 → N3 ≠ N4 → F 2 L (Act.put (Act.put (Act.put (Act.put A0 (some 3) (.pointer (some ⟨N3, 0, none⟩))) (some 4) (.pointer (some ⟨N4, 0, none⟩))) (some 9) v9) (some 12) v12) uw := by
    intro L uw v9 v12 N3 N4 hLL hS HK HM I1 I2 Z3 hlo3 Z4 hlo4 ne34
    subst hLL
    rw [← hF.out, ← hA.out]
    try simp only [Act.put, lt, ly, lu]
    obtain ⟨C1, j1, C2, j2, rfl, -, -⟩ := id I1.out.opened
    obtain ⟨C3, j3, C4, j4, rfl, -, -⟩ := id I2.out.opened
    clear hF hA
    refine wpAnyH_ready (rs := [8]) (by kernel_rfl) (by simp) ?_
    refine AllReadyH.cons (o := ?o8q471) ?e8q471 ?k8q471 AllReadyH.nil
    case e8q471 => simp only [lg, lz, ls]; rfl
    intro K hK
    have q0 := Z3.out.c0
    have q1 := Z3.out.c1'
    have q2 := Z3.out.c2'
    have F0 := Z3.out.fr 0
    have F1 := Z3.out.fr 1
    have F2 := Z3.out.fr 2
    go_simp
    clear q0 q1 q2 F0 F1 F2
    refine hK.out _ _ ?_ (fun hHeld => ?_)
    · (try dsimp only)
      exact two_put (p := ⟨decide (a.num < 0), C1, len a.num.natAbs, j1, C2, len (below a.den), j2⟩) hS (by omega)
    clear hK K
    try simp only [Act.put, lt, ly, lu]
    obtain ⟨u472, hw⟩ : ∃ u, u = (((uw.setCell ⟨N3, 0, none⟩ (.bool (decide (a.num < 0)))).setCell ⟨N3, 1, none⟩ (.slice C1 (len a.num.natAbs) j1)).setCell ⟨N3, 2, none⟩ (.slice C2 (len (below a.den)) j2)) := ⟨_, rfl⟩
    have hw' : u472 = put3 uw N3 ⟨decide (a.num < 0), C1, len a.num.natAbs, j1, C2, len (below a.den), j2⟩ := hw
    rw [← hw] at hHeld ⊢
    have hS473 := two_put (p := ⟨decide (a.num < 0), C1, len a.num.natAbs, j1, C2, len (below a.den), j2⟩) hS (show w.heap.size ≠ N3 by omega)
    rw [← hw'] at hS473
    have HK474 : Hid (Kept 6 53 wB (w.heap.size + 1) u472) := by rw [hw']; exact HK.out.put3 (by omega)
    have N1x475 : Hid (IsNum u472 (.agg #[.bool (decide (a.num < 0)), .slice C1 (len a.num.natAbs) j1, .slice C2 (len (below a.den)) j2]) a) := by rw [hw']; exact IsNum.put3 I1.out Z3.out
    have N2x476 : Hid (IsNum u472 (.agg #[.bool (decide (b.num < 0)), .slice C3 (len b.num.natAbs) j3, .slice C4 (len (below b.den)) j4]) b) := by rw [hw']; exact IsNum.put3 I2.out Z3.out
    have L3x477 : Hid (Loc u472 N3 ⟨decide (a.num < 0), C1, len a.num.natAbs, j1, C2, len (below a.den), j2⟩) := by rw [hw']; exact Z3.out.put3
    have L4x478 : Hid (Loc u472 N4 ⟨false, none, 0, 0, none, 0, 0⟩) := by rw [hw']; exact Z4.out.put3o (by omega)
    clear hw hw' hS HK I1 I2 Z3 Z4
    refine wpAnyH_ready (rs := [9]) (by kernel_rfl) (by simp) ?_
    refine AllReadyH.cons (o := ?o9q479) ?e9q479 ?k9q479 AllReadyH.nil
    case e9q479 => simp only [lg, lz, ls]; rfl
    intro K hK
    have q0 := L4x478.out.c0
    have q1 := L4x478.out.c1'
    have q2 := L4x478.out.c2'
    have F0 := L4x478.out.fr 0
    have F1 := L4x478.out.fr 1
    have F2 := L4x478.out.fr 2
    go_simp
    clear q0 q1 q2 F0 F1 F2
    refine hK.out _ _ ?_ (fun hHeld => ?_)
    · (try dsimp only)
      exact two_put (p := ⟨decide (b.num < 0), C3, len b.num.natAbs, j3, C4, len (below b.den), j4⟩) hS473 (by omega)
    clear hK K
    try simp only [Act.put, lt, ly, lu]
    obtain ⟨u480, hw⟩ : ∃ u, u = (((u472.setCell ⟨N4, 0, none⟩ (.bool (decide (b.num < 0)))).setCell ⟨N4, 1, none⟩ (.slice C3 (len b.num.natAbs) j3)).setCell ⟨N4, 2, none⟩ (.slice C4 (len (below b.den)) j4)) := ⟨_, rfl⟩
    have hw' : u480 = put3 u472 N4 ⟨decide (b.num < 0), C3, len b.num.natAbs, j3, C4, len (below b.den), j4⟩ := hw
    rw [← hw] at hHeld ⊢
    have hS481 := two_put (p := ⟨decide (b.num < 0), C3, len b.num.natAbs, j3, C4, len (below b.den), j4⟩) hS473 (show w.heap.size ≠ N4 by omega)
    rw [← hw'] at hS481
    have HK482 : Hid (Kept 6 53 wB (w.heap.size + 1) u480) := by rw [hw']; exact HK474.out.put3 (by omega)
    have N1x483 : Hid (IsNum u480 (.agg #[.bool (decide (a.num < 0)), .slice C1 (len a.num.natAbs) j1, .slice C2 (len (below a.den)) j2]) a) := by rw [hw']; exact IsNum.put3 N1x475.out L4x478.out
    have N2x484 : Hid (IsNum u480 (.agg #[.bool (decide (b.num < 0)), .slice C3 (len b.num.natAbs) j3, .slice C4 (len (below b.den)) j4]) b) := by rw [hw']; exact IsNum.put3 N2x476.out L4x478.out
    have L3x485 : Hid (Loc u480 N3 ⟨decide (a.num < 0), C1, len a.num.natAbs, j1, C2, len (below a.den), j2⟩) := by rw [hw']; exact L3x477.out.put3o (by omega)
    have L4x486 : Hid (Loc u480 N4 ⟨decide (b.num < 0), C3, len b.num.natAbs, j3, C4, len (below b.den), j4⟩) := by rw [hw']; exact L4x478.out.put3
    clear hw hw' hS473 HK474 N1x475 N2x476 L3x477 L4x478
    refine wpAnyH_done (by kernel_rfl) ?_ _
    have HX := hid (numCmp_any N1x483.out N2x484.out za.out zb.out)
    obtain ⟨cc, hcc⟩ : ∃ z : Int, z = cmpQ a b := ⟨_, rfl⟩
    rw [← hcc] at HX
    replace hcc := hid hcc
    have x0 := L3x485.out.c0
    have x1 := L3x485.out.c1'
    have x2 := L3x485.out.c2'
    have y0 := L4x486.out.c0
    have y1 := L4x486.out.c1'
    have y2 := L4x486.out.c2'
    rcases Decidable.em (b < a) with hlt | hge
    · have hd : decide (cc > 0) = true := decide_eq_true (by rw [hcc.out, cmpQ_gt0]; exact hlt)
      have hle : b ≤ a := Rat.le_of_lt hlt
      have HL := hlow.out
      have HH := hhigh.out
      rw [if_pos hlt] at HL
      rw [if_pos hlt] at HH
      replace HL := hid HL
      replace HH := hid HH
      replace hle := hid hle
      go_wp2_with fail
      refine (HX.out).mono ?_
      rintro e w1 ⟨rfl, b1⟩
      have K1 := hid (HK482.out.call b1)
      have M1 := hid (IsNum.keep N1x483.out b1)
      have M2 := hid (IsNum.keep N2x484.out b1)
      have R3 := hid (Loc.call L3x485.out b1)
      have R4 := hid (Loc.call L4x486.out b1)
      clear HX x0 x1 x2 y0 y1 y2 b1 HK482 N1x483 N2x484 L3x485 L4x486 hlt
      have x0 := R3.out.c0
      have x1 := R3.out.c1'
      have x2 := R3.out.c2'
      have y0 := R4.out.c0
      have y1 := R4.out.c1'
      have y2 := R4.out.c2'
      have F30 := R3.out.fr 0
      have F31 := R3.out.fr 1
      have F32 := R3.out.fr 2
      have F40 := R4.out.fr 0
      have F41 := R4.out.fr 1
      have F42 := R4.out.fr 2
      have hn34 : N3 ≠ N4 := by omega
      have hn43 : N4 ≠ N3 := by omega
      go_upto_region 4 with fail
      obtain ⟨w2, hw2⟩ : ∃ u, u = ((((((w1.setCell ⟨N3, 0, none⟩ (.bool (decide (b.num < 0)))).setCell ⟨N3, 1, none⟩ (.slice C3 (len b.num.natAbs) j3)).setCell ⟨N3, 2, none⟩ (.slice C4 (len (below b.den)) j4)).setCell ⟨N4, 0, none⟩ (.bool (decide (a.num < 0)))).setCell ⟨N4, 1, none⟩ (.slice C1 (len a.num.natAbs) j1)).setCell ⟨N4, 2, none⟩ (.slice C2 (len (below a.den)) j2)) := ⟨_, rfl⟩
      have hw2' : w2 = put3 (put3 w1 N3 ⟨decide (b.num < 0), C3, len b.num.natAbs, j3, C4, len (below b.den), j4⟩) N4 ⟨decide (a.num < 0), C1, len a.num.natAbs, j1, C2, len (below a.den), j2⟩ := hw2
      rw [← hw2]
      have Q3 : Loc (put3 w1 N3 ⟨decide (b.num < 0), C3, len b.num.natAbs, j3, C4, len (below b.den), j4⟩) N3 ⟨decide (b.num < 0), C3, len b.num.natAbs, j3, C4, len (below b.den), j4⟩ := R3.out.put3
      have Q4 : Loc (put3 w1 N3 ⟨decide (b.num < 0), C3, len b.num.natAbs, j3, C4, len (below b.den), j4⟩) N4 ⟨decide (b.num < 0), C3, len b.num.natAbs, j3, C4, len (below b.den), j4⟩ := R4.out.put3o hn43
      have K2 : Hid (Kept 6 53 wB (w.heap.size + 1) w2) := by rw [hw2']; exact (K1.out.put3 (by omega)).put3 (by omega)
      have T1 : Hid (IsNum w2 (.agg #[.bool (decide (a.num < 0)), .slice C1 (len a.num.natAbs) j1, .slice C2 (len (below a.den)) j2]) a) := by rw [hw2']; exact (IsNum.put3 M1.out R3.out).put3 Q4
      have T2 : Hid (IsNum w2 (.agg #[.bool (decide (b.num < 0)), .slice C3 (len b.num.natAbs) j3, .slice C4 (len (below b.den)) j4]) b) := by rw [hw2']; exact (IsNum.put3 M2.out R3.out).put3 Q4
      have Z3 : Hid (Loc w2 N3 ⟨decide (b.num < 0), C3, len b.num.natAbs, j3, C4, len (below b.den), j4⟩) := by rw [hw2']; exact Q3.put3o hn34
      have Z4 : Hid (Loc w2 N4 ⟨decide (a.num < 0), C1, len a.num.natAbs, j1, C2, len (below a.den), j2⟩) := by rw [hw2']; exact Q4.put3
      clear hw2 hw2' Q3 Q4 K1 M1 M2 R3 R4 F30 F31 F32 F40 F41 F42 x0 x1 x2 y0 y1 y2
      have x0 := Z3.out.c0
      have x1 := Z3.out.c1'
      have x2 := Z3.out.c2'
      have y0 := Z4.out.c0
      have y1 := Z4.out.c1'
      have y2 := Z4.out.c2'
      have HX := hid (span_q HL.out.symm HH.out.symm T2.out T1.out zb.out za.out hle.out)
      go_wp2_with fail
      refine (HX.out).mono ?_
      rintro e w3 ⟨v3, rfl, hv3, b3⟩
      obtain ⟨D1, d1, D2, d2, D3, d3, D4, d4, rfl, hp3, hq3⟩ := hv3.opened
      have K3 := hid (K2.out.call b3)
      clear HX b3
      go_upto_region 5 with fail
      obtain ⟨w4, hw4⟩ : ∃ u, u = w3.alloc (.cells #[.bool (decide (l.num < 0)), .slice D1 (len l.num.natAbs) d1, .slice D2 (len (below l.den)) d2, .bool (decide (h.num < 0)), .slice D3 (len h.num.natAbs) d3, .slice D4 (len (below h.den)) d4] 53) := ⟨_, rfl⟩
      have b4 : Below w3.heap.size w3 w4 := by rw [hw4]; exact (Below.refl _ _).alloc (Nat.le_refl _) _
      have g4 : w4.heap[w3.heap.size]? = some (.cells #[.bool (decide (l.num < 0)), .slice D1 (len l.num.natAbs) d1, .slice D2 (len (below l.den)) d2, .bool (decide (h.num < 0)), .slice D3 (len h.num.natAbs) d3, .slice D4 (len (below h.den)) d4] 53 (0, 0)) := by rw [hw4]; exact heap_alloc_new w3 _
      rw [← hw4]
      clear hw4
      have p0 := cell_of_row _ _ 0 _ _ _ g4
      have p1 := cell_of_row _ _ 1 _ _ _ g4
      have p2 := cell_of_row _ _ 2 _ _ _ g4
      have p3 := cell_of_row _ _ 3 _ _ _ g4
      have p4 := cell_of_row _ _ 4 _ _ _ g4
      have p5 := cell_of_row _ _ 5 _ _ _ g4
      simp only [lg, lz, ls] at p0 p1 p2 p3 p4 p5
      have hk := (K3.out.call b4).held6 (Stay.refl _)
      have hk' := hk
      unfold Held6 at hk'
      have hp4 := hp3.keep b4
      have hq4 := hq3.keep b4
      clear g4 b4 hp3 hq3 hv3
      obtain ⟨-, c0, c1', c2', c3', c4', c5', f0, f1, f2, f3, f4, f5, -⟩ := hk'
      have HD := hk.done (p := l) (q := h) (s1 := decide (l.num < 0)) (A1 := D1) (n1 := len l.num.natAbs) (c1 := d1) (A2 := D2) (n2 := len (below l.den)) (c2 := d2) (s2 := decide (h.num < 0)) (A3 := D3) (n3 := len h.num.natAbs) (c3 := d3) (A4 := D4) (n4 := len (below h.den)) (c4 := d4) (hp4) (hq4)
      obtain ⟨d1, d2, d3⟩ := HD
      have r0 := cell_of_row _ _ 0 _ _ _ d3
      have r1 := cell_of_row _ _ 1 _ _ _ d3
      have r2 := cell_of_row _ _ 2 _ _ _ d3
      have r3 := cell_of_row _ _ 3 _ _ _ d3
      have r4 := cell_of_row _ _ 4 _ _ _ d3
      have r5 := cell_of_row _ _ 5 _ _ _ d3
      simp only [lg, lz, ls] at r0 r1 r2 r3 r4 r5
      have HD := hid (And.intro d1 d2)
      clear d1 d2 d3
      go_wp2_with fail
      refine bodyPost_ret (v := .agg #[.bool (decide (l.num < 0)), .slice (D1) (len l.num.natAbs) (d1), .slice (D2) (len (below l.den)) (d2), .bool (decide (h.num < 0)), .slice (D3) (len h.num.natAbs) (d3), .slice (D4) (len (below h.den)) (d4)]) ?_ rfl ⟨_, rfl, HD.out.1, below_to HB0.out (by omega) HD.out.2⟩
      simp [results, Tryz.results29, go_sem, r0, r1, r2, r3, r4, r5]
    · have hd : decide (cc > 0) = false := decide_eq_false (by rw [hcc.out, cmpQ_gt0]; exact hge)
      have hle : a ≤ b := Rat.not_lt.1 hge
      have HL := hlow.out
      have HH := hhigh.out
      rw [if_neg hge] at HL
      rw [if_neg hge] at HH
      replace HL := hid HL
      replace HH := hid HH
      replace hle := hid hle
      go_wp2_with fail
      refine (HX.out).mono ?_
      rintro e w1 ⟨rfl, b1⟩
      have K1 := hid (HK482.out.call b1)
      have M1 := hid (IsNum.keep N1x483.out b1)
      have M2 := hid (IsNum.keep N2x484.out b1)
      have R3 := hid (Loc.call L3x485.out b1)
      have R4 := hid (Loc.call L4x486.out b1)
      clear HX x0 x1 x2 y0 y1 y2 b1 HK482 N1x483 N2x484 L3x485 L4x486 hge
      have x0 := R3.out.c0
      have x1 := R3.out.c1'
      have x2 := R3.out.c2'
      have y0 := R4.out.c0
      have y1 := R4.out.c1'
      have y2 := R4.out.c2'
      have HX := hid (span_q HL.out.symm HH.out.symm M1.out M2.out za.out zb.out hle.out)
      go_wp2_with fail
      refine (HX.out).mono ?_
      rintro e w3 ⟨v3, rfl, hv3, b3⟩
      obtain ⟨D1, d1, D2, d2, D3, d3, D4, d4, rfl, hp3, hq3⟩ := hv3.opened
      have K3 := hid (K1.out.call b3)
      clear HX b3
      go_upto_region 5 with fail
      obtain ⟨w4, hw4⟩ : ∃ u, u = w3.alloc (.cells #[.bool (decide (l.num < 0)), .slice D1 (len l.num.natAbs) d1, .slice D2 (len (below l.den)) d2, .bool (decide (h.num < 0)), .slice D3 (len h.num.natAbs) d3, .slice D4 (len (below h.den)) d4] 53) := ⟨_, rfl⟩
      have b4 : Below w3.heap.size w3 w4 := by rw [hw4]; exact (Below.refl _ _).alloc (Nat.le_refl _) _
      have g4 : w4.heap[w3.heap.size]? = some (.cells #[.bool (decide (l.num < 0)), .slice D1 (len l.num.natAbs) d1, .slice D2 (len (below l.den)) d2, .bool (decide (h.num < 0)), .slice D3 (len h.num.natAbs) d3, .slice D4 (len (below h.den)) d4] 53 (0, 0)) := by rw [hw4]; exact heap_alloc_new w3 _
      rw [← hw4]
      clear hw4
      have p0 := cell_of_row _ _ 0 _ _ _ g4
      have p1 := cell_of_row _ _ 1 _ _ _ g4
      have p2 := cell_of_row _ _ 2 _ _ _ g4
      have p3 := cell_of_row _ _ 3 _ _ _ g4
      have p4 := cell_of_row _ _ 4 _ _ _ g4
      have p5 := cell_of_row _ _ 5 _ _ _ g4
      simp only [lg, lz, ls] at p0 p1 p2 p3 p4 p5
      have hk := (K3.out.call b4).held6 (Stay.refl _)
      have hk' := hk
      unfold Held6 at hk'
      have hp4 := hp3.keep b4
      have hq4 := hq3.keep b4
      clear g4 b4 hp3 hq3 hv3
      obtain ⟨-, c0, c1', c2', c3', c4', c5', f0, f1, f2, f3, f4, f5, -⟩ := hk'
      have HD := hk.done (p := l) (q := h) (s1 := decide (l.num < 0)) (A1 := D1) (n1 := len l.num.natAbs) (c1 := d1) (A2 := D2) (n2 := len (below l.den)) (c2 := d2) (s2 := decide (h.num < 0)) (A3 := D3) (n3 := len h.num.natAbs) (c3 := d3) (A4 := D4) (n4 := len (below h.den)) (c4 := d4) (hp4) (hq4)
      obtain ⟨d1, d2, d3⟩ := HD
      have r0 := cell_of_row _ _ 0 _ _ _ d3
      have r1 := cell_of_row _ _ 1 _ _ _ d3
      have r2 := cell_of_row _ _ 2 _ _ _ d3
      have r3 := cell_of_row _ _ 3 _ _ _ d3
      have r4 := cell_of_row _ _ 4 _ _ _ d3
      have r5 := cell_of_row _ _ 5 _ _ _ d3
      simp only [lg, lz, ls] at r0 r1 r2 r3 r4 r5
      have HD := hid (And.intro d1 d2)
      clear d1 d2 d3
      go_wp2_with fail
      refine bodyPost_ret (v := .agg #[.bool (decide (l.num < 0)), .slice (D1) (len l.num.natAbs) (d1), .slice (D2) (len (below l.den)) (d2), .bool (decide (h.num < 0)), .slice (D3) (len h.num.natAbs) (d3), .slice (D4) (len (below h.den)) (d4)]) ?_ rfl ⟨_, rfl, HD.out.1, below_to HB0.out (by omega) HD.out.2⟩
      simp [results, Tryz.results29, go_sem, r0, r1, r2, r3, r4, r5]
  simp only [← hA.out, Act.put, lt, ly, lu] at st2_34
  replace st2_34 := hid st2_34
  have st2_3 : ∀ (L : Array Bool) (uw : World) (v9 v12 : Value) (N3 : Nat), L = #[true, true, true, true, true, true, true, false, false, false] → uw.cell? ⟨w.heap.size, 0, none⟩ = some (.string s1) ∧ uw.cell? ⟨w.heap.size, 1, none⟩ = some (.string s2) → Hid (Kept 6 53 wB (w.heap.size + 1) uw) → Hid (uw.cell? ⟨1, 0, none⟩ = some (.int .i64 mx)) → Hid (IsNum uw v9 a) → Hid (IsNum uw v12 b) → Hid (Loc uw N3 ⟨false, none, 0, 0, none, 0, 0⟩) → w.heap.size + 1 < N3 → F 3 L (Act.put (Act.put (Act.put A0 (some 3) (.pointer (some ⟨N3, 0, none⟩))) (some 9) v9) (some 12) v12) uw := by
    intro L uw v9 v12 N3 hLL hS HK HM I1 I2 Z3 hlo3
    subst hLL
    rw [← hF.out, ← hA.out]
    try simp only [Act.put, lt, ly, lu]
    refine wpAnyH_ready (rs := [7]) (by kernel_rfl) (by simp) ?_
    refine AllReadyH.cons (o := ?o7z487) ?e7z487 ?k7z487 AllReadyH.nil
    case e7z487 => simp only [lg, lz, ls] <;> rfl
    case k7z487 =>
      intro K hK
      go_simp
      have hb2 := zero_below uw
      have Z2 := zero_loc uw
      refine hK.out _ _ ?_ (fun hHeld => ?_)
      · (try dsimp only)
        exact two_keep hS hb2
      clear hK K
      try simp only [Act.put, lt, ly, lu]
      rw [hF.out]
      exact st2_34.out _ _ v9 v12 N3 uw.heap.size (by kernel_rfl) (two_keep hS hb2) (HK.out.call hb2) (cell_keep HM.out hb2) (I1.out.keep hb2) (I2.out.keep hb2) (Z3.out.call hb2) hlo3 Z2 HK.out.block_lt (Nat.ne_of_lt Z3.out.lt)
  simp only [← hA.out, Act.put, lt, ly, lu] at st2_3
  replace st2_3 := hid st2_3
  have st2_4 : ∀ (L : Array Bool) (uw : World) (v9 v12 : Value) (N4 : Nat), L = #[true, true, true, true, true, true, false, true, false, false] → uw.cell? ⟨w.heap.size, 0, none⟩ = some (.string s1) ∧ uw.cell? ⟨w.heap.size, 1, none⟩ = some (.string s2) → Hid (Kept 6 53 wB (w.heap.size + 1) uw) → Hid (uw.cell? ⟨1, 0, none⟩ = some (.int .i64 mx)) → Hid (IsNum uw v9 a) → Hid (IsNum uw v12 b) → Hid (Loc uw N4 ⟨false, none, 0, 0, none, 0, 0⟩) → w.heap.size + 1 < N4 → F 3 L (Act.put (Act.put (Act.put A0 (some 4) (.pointer (some ⟨N4, 0, none⟩))) (some 9) v9) (some 12) v12) uw := by
    intro L uw v9 v12 N4 hLL hS HK HM I1 I2 Z4 hlo4
    subst hLL
    rw [← hF.out, ← hA.out]
    try simp only [Act.put, lt, ly, lu]
    refine wpAnyH_ready (rs := [6]) (by kernel_rfl) (by simp) ?_
    refine AllReadyH.cons (o := ?o6z488) ?e6z488 ?k6z488 AllReadyH.nil
    case e6z488 => simp only [lg, lz, ls] <;> rfl
    case k6z488 =>
      intro K hK
      go_simp
      have hb2 := zero_below uw
      have Z2 := zero_loc uw
      refine hK.out _ _ ?_ (fun hHeld => ?_)
      · (try dsimp only)
        exact two_keep hS hb2
      clear hK K
      try simp only [Act.put, lt, ly, lu]
      rw [hF.out]
      exact st2_34.out _ _ v9 v12 uw.heap.size N4 (by kernel_rfl) (two_keep hS hb2) (HK.out.call hb2) (cell_keep HM.out hb2) (I1.out.keep hb2) (I2.out.keep hb2) Z2 HK.out.block_lt (Z4.out.call hb2) hlo4 (Nat.ne_of_gt Z4.out.lt)
  simp only [← hA.out, Act.put, lt, ly, lu] at st2_4
  replace st2_4 := hid st2_4
  have st2_n : ∀ (L : Array Bool) (uw : World) (v9 v12 : Value), L = #[true, true, true, true, true, true, false, false, false, false] → uw.cell? ⟨w.heap.size, 0, none⟩ = some (.string s1) ∧ uw.cell? ⟨w.heap.size, 1, none⟩ = some (.string s2) → Hid (Kept 6 53 wB (w.heap.size + 1) uw) → Hid (uw.cell? ⟨1, 0, none⟩ = some (.int .i64 mx)) → Hid (IsNum uw v9 a) → Hid (IsNum uw v12 b) → F 4 L (Act.put (Act.put A0 (some 9) v9) (some 12) v12) uw := by
    intro L uw v9 v12 hLL hS HK HM I1 I2
    subst hLL
    rw [← hF.out, ← hA.out]
    try simp only [Act.put, lt, ly, lu]
    refine wpAnyH_ready (rs := [6, 7]) (by kernel_rfl) (by simp) ?_
    refine AllReadyH.cons (o := ?o6z489) ?e6z489 ?k6z489 (AllReadyH.cons (o := ?o7z489) ?e7z489 ?k7z489 AllReadyH.nil)
    case e6z489 => simp only [lg, lz, ls] <;> rfl
    case e7z489 => simp only [lg, lz, ls] <;> rfl
    case k6z489 =>
      intro K hK
      go_simp
      have hb2 := zero_below uw
      have Z2 := zero_loc uw
      refine hK.out _ _ ?_ (fun hHeld => ?_)
      · (try dsimp only)
        exact two_keep hS hb2
      clear hK K
      try simp only [Act.put, lt, ly, lu]
      rw [hF.out]
      exact st2_3.out _ _ v9 v12 uw.heap.size (by kernel_rfl) (two_keep hS hb2) (HK.out.call hb2) (cell_keep HM.out hb2) (I1.out.keep hb2) (I2.out.keep hb2) Z2 HK.out.block_lt
    case k7z489 =>
      intro K hK
      go_simp
      have hb2 := zero_below uw
      have Z2 := zero_loc uw
      refine hK.out _ _ ?_ (fun hHeld => ?_)
      · (try dsimp only)
        exact two_keep hS hb2
      clear hK K
      try simp only [Act.put, lt, ly, lu]
      rw [hF.out]
      exact st2_4.out _ _ v9 v12 uw.heap.size (by kernel_rfl) (two_keep hS hb2) (HK.out.call hb2) (cell_keep HM.out hb2) (I1.out.keep hb2) (I2.out.keep hb2) Z2 HK.out.block_lt
  simp only [← hA.out, Act.put, lt, ly, lu] at st2_n
  replace st2_n := hid st2_n
  have st1_34 : ∀ (L : Array Bool) (uw : World) (v9 : Value) (N3 N4 : Nat), L = #[true, true, true, true, true, false, true, true, false, false] → uw.cell? ⟨w.heap.size, 0, none⟩ = some (.string s1) ∧ uw.cell? ⟨w.heap.size, 1, none⟩ = some (.string s2) → Hid (Kept 6 53 wB (w.heap.size + 1) uw) → Hid (uw.cell? ⟨1, 0, none⟩ = some (.int .i64 mx)) → Hid (IsNum uw v9 a) → Hid (Loc uw N3 ⟨false, none, 0, 0, none, 0, 0⟩) → w.heap.size + 1 < N3 → Hid (Loc uw N4 ⟨false, none, 0, 0, none, 0, 0⟩) → w.heap.size + 1 < N4 → N3 ≠ N4 → F 3 L (Act.put (Act.put (Act.put A0 (some 3) (.pointer (some ⟨N3, 0, none⟩))) (some 4) (.pointer (some ⟨N4, 0, none⟩))) (some 9) v9) uw := by
    intro L uw v9 N3 N4 hLL hS HK HM I1 Z3 hlo3 Z4 hlo4 ne34
    subst hLL
    rw [← hF.out, ← hA.out]
    try simp only [Act.put, lt, ly, lu]
    refine wpAnyH_ready (rs := [5]) (by kernel_rfl) (by simp) ?_
    refine AllReadyH.cons (o := ?o5z490) ?e5z490 ?k5z490 AllReadyH.nil
    case e5z490 => simp only [lg, lz, ls] <;> rfl
    case k5z490 =>
      intro K hK
      go_simp
      go_at_call 12
      refine (number_val HM.out eb.out).mono ?_
      rintro e u2 ⟨v2, rfl, hv2, hb2⟩
      refine hK.out _ _ ?_ (fun hHeld => ?_)
      · (try dsimp only)
        exact two_keep hS hb2
      clear hK K
      try simp only [Act.put, lt, ly, lu]
      rw [hF.out]
      exact st2_34.out _ u2 v9 v2 N3 N4 (by kernel_rfl) (two_keep hS hb2) (HK.out.call hb2) (cell_keep HM.out hb2) (I1.out.keep hb2) hv2 (Z3.out.call hb2) hlo3 (Z4.out.call hb2) hlo4 ne34
  simp only [← hA.out, Act.put, lt, ly, lu] at st1_34
  replace st1_34 := hid st1_34
  have st1_3 : ∀ (L : Array Bool) (uw : World) (v9 : Value) (N3 : Nat), L = #[true, true, true, true, true, false, true, false, false, false] → uw.cell? ⟨w.heap.size, 0, none⟩ = some (.string s1) ∧ uw.cell? ⟨w.heap.size, 1, none⟩ = some (.string s2) → Hid (Kept 6 53 wB (w.heap.size + 1) uw) → Hid (uw.cell? ⟨1, 0, none⟩ = some (.int .i64 mx)) → Hid (IsNum uw v9 a) → Hid (Loc uw N3 ⟨false, none, 0, 0, none, 0, 0⟩) → w.heap.size + 1 < N3 → F 4 L (Act.put (Act.put A0 (some 3) (.pointer (some ⟨N3, 0, none⟩))) (some 9) v9) uw := by
    intro L uw v9 N3 hLL hS HK HM I1 Z3 hlo3
    subst hLL
    rw [← hF.out, ← hA.out]
    try simp only [Act.put, lt, ly, lu]
    refine wpAnyH_ready (rs := [5, 7]) (by kernel_rfl) (by simp) ?_
    refine AllReadyH.cons (o := ?o5z491) ?e5z491 ?k5z491 (AllReadyH.cons (o := ?o7z491) ?e7z491 ?k7z491 AllReadyH.nil)
    case e5z491 => simp only [lg, lz, ls] <;> rfl
    case e7z491 => simp only [lg, lz, ls] <;> rfl
    case k5z491 =>
      intro K hK
      go_simp
      go_at_call 12
      refine (number_val HM.out eb.out).mono ?_
      rintro e u2 ⟨v2, rfl, hv2, hb2⟩
      refine hK.out _ _ ?_ (fun hHeld => ?_)
      · (try dsimp only)
        exact two_keep hS hb2
      clear hK K
      try simp only [Act.put, lt, ly, lu]
      rw [hF.out]
      exact st2_3.out _ u2 v9 v2 N3 (by kernel_rfl) (two_keep hS hb2) (HK.out.call hb2) (cell_keep HM.out hb2) (I1.out.keep hb2) hv2 (Z3.out.call hb2) hlo3
    case k7z491 =>
      intro K hK
      go_simp
      have hb2 := zero_below uw
      have Z2 := zero_loc uw
      refine hK.out _ _ ?_ (fun hHeld => ?_)
      · (try dsimp only)
        exact two_keep hS hb2
      clear hK K
      try simp only [Act.put, lt, ly, lu]
      rw [hF.out]
      exact st1_34.out _ _ v9 N3 uw.heap.size (by kernel_rfl) (two_keep hS hb2) (HK.out.call hb2) (cell_keep HM.out hb2) (I1.out.keep hb2) (Z3.out.call hb2) hlo3 Z2 HK.out.block_lt (Nat.ne_of_lt Z3.out.lt)
  simp only [← hA.out, Act.put, lt, ly, lu] at st1_3
  replace st1_3 := hid st1_3
  have st1_4 : ∀ (L : Array Bool) (uw : World) (v9 : Value) (N4 : Nat), L = #[true, true, true, true, true, false, false, true, false, false] → uw.cell? ⟨w.heap.size, 0, none⟩ = some (.string s1) ∧ uw.cell? ⟨w.heap.size, 1, none⟩ = some (.string s2) → Hid (Kept 6 53 wB (w.heap.size + 1) uw) → Hid (uw.cell? ⟨1, 0, none⟩ = some (.int .i64 mx)) → Hid (IsNum uw v9 a) → Hid (Loc uw N4 ⟨false, none, 0, 0, none, 0, 0⟩) → w.heap.size + 1 < N4 → F 4 L (Act.put (Act.put A0 (some 4) (.pointer (some ⟨N4, 0, none⟩))) (some 9) v9) uw := by
    intro L uw v9 N4 hLL hS HK HM I1 Z4 hlo4
    subst hLL
    rw [← hF.out, ← hA.out]
    try simp only [Act.put, lt, ly, lu]
    refine wpAnyH_ready (rs := [5, 6]) (by kernel_rfl) (by simp) ?_
    refine AllReadyH.cons (o := ?o5z492) ?e5z492 ?k5z492 (AllReadyH.cons (o := ?o6z492) ?e6z492 ?k6z492 AllReadyH.nil)
    case e5z492 => simp only [lg, lz, ls] <;> rfl
    case e6z492 => simp only [lg, lz, ls] <;> rfl
    case k5z492 =>
      intro K hK
      go_simp
      go_at_call 12
      refine (number_val HM.out eb.out).mono ?_
      rintro e u2 ⟨v2, rfl, hv2, hb2⟩
      refine hK.out _ _ ?_ (fun hHeld => ?_)
      · (try dsimp only)
        exact two_keep hS hb2
      clear hK K
      try simp only [Act.put, lt, ly, lu]
      rw [hF.out]
      exact st2_4.out _ u2 v9 v2 N4 (by kernel_rfl) (two_keep hS hb2) (HK.out.call hb2) (cell_keep HM.out hb2) (I1.out.keep hb2) hv2 (Z4.out.call hb2) hlo4
    case k6z492 =>
      intro K hK
      go_simp
      have hb2 := zero_below uw
      have Z2 := zero_loc uw
      refine hK.out _ _ ?_ (fun hHeld => ?_)
      · (try dsimp only)
        exact two_keep hS hb2
      clear hK K
      try simp only [Act.put, lt, ly, lu]
      rw [hF.out]
      exact st1_34.out _ _ v9 uw.heap.size N4 (by kernel_rfl) (two_keep hS hb2) (HK.out.call hb2) (cell_keep HM.out hb2) (I1.out.keep hb2) Z2 HK.out.block_lt (Z4.out.call hb2) hlo4 (Nat.ne_of_gt Z4.out.lt)
  simp only [← hA.out, Act.put, lt, ly, lu] at st1_4
  replace st1_4 := hid st1_4
  have st1_n : ∀ (L : Array Bool) (uw : World) (v9 : Value), L = #[true, true, true, true, true, false, false, false, false, false] → uw.cell? ⟨w.heap.size, 0, none⟩ = some (.string s1) ∧ uw.cell? ⟨w.heap.size, 1, none⟩ = some (.string s2) → Hid (Kept 6 53 wB (w.heap.size + 1) uw) → Hid (uw.cell? ⟨1, 0, none⟩ = some (.int .i64 mx)) → Hid (IsNum uw v9 a) → F 5 L (Act.put A0 (some 9) v9) uw := by
    intro L uw v9 hLL hS HK HM I1
    subst hLL
    rw [← hF.out, ← hA.out]
    try simp only [Act.put, lt, ly, lu]
    refine wpAnyH_ready (rs := [5, 6, 7]) (by kernel_rfl) (by simp) ?_
    refine AllReadyH.cons (o := ?o5z493) ?e5z493 ?k5z493 (AllReadyH.cons (o := ?o6z493) ?e6z493 ?k6z493 (AllReadyH.cons (o := ?o7z493) ?e7z493 ?k7z493 AllReadyH.nil))
    case e5z493 => simp only [lg, lz, ls] <;> rfl
    case e6z493 => simp only [lg, lz, ls] <;> rfl
    case e7z493 => simp only [lg, lz, ls] <;> rfl
    case k5z493 =>
      intro K hK
      go_simp
      go_at_call 12
      refine (number_val HM.out eb.out).mono ?_
      rintro e u2 ⟨v2, rfl, hv2, hb2⟩
      refine hK.out _ _ ?_ (fun hHeld => ?_)
      · (try dsimp only)
        exact two_keep hS hb2
      clear hK K
      try simp only [Act.put, lt, ly, lu]
      rw [hF.out]
      exact st2_n.out _ u2 v9 v2 (by kernel_rfl) (two_keep hS hb2) (HK.out.call hb2) (cell_keep HM.out hb2) (I1.out.keep hb2) hv2
    case k6z493 =>
      intro K hK
      go_simp
      have hb2 := zero_below uw
      have Z2 := zero_loc uw
      refine hK.out _ _ ?_ (fun hHeld => ?_)
      · (try dsimp only)
        exact two_keep hS hb2
      clear hK K
      try simp only [Act.put, lt, ly, lu]
      rw [hF.out]
      exact st1_3.out _ _ v9 uw.heap.size (by kernel_rfl) (two_keep hS hb2) (HK.out.call hb2) (cell_keep HM.out hb2) (I1.out.keep hb2) Z2 HK.out.block_lt
    case k7z493 =>
      intro K hK
      go_simp
      have hb2 := zero_below uw
      have Z2 := zero_loc uw
      refine hK.out _ _ ?_ (fun hHeld => ?_)
      · (try dsimp only)
        exact two_keep hS hb2
      clear hK K
      try simp only [Act.put, lt, ly, lu]
      rw [hF.out]
      exact st1_4.out _ _ v9 uw.heap.size (by kernel_rfl) (two_keep hS hb2) (HK.out.call hb2) (cell_keep HM.out hb2) (I1.out.keep hb2) Z2 HK.out.block_lt
  simp only [← hA.out, Act.put, lt, ly, lu] at st1_n
  replace st1_n := hid st1_n
  have st0_34 : ∀ (L : Array Bool) (uw : World) (N3 N4 : Nat), L = #[true, true, false, true, true, false, true, true, false, false] → uw.cell? ⟨w.heap.size, 0, none⟩ = some (.string s1) ∧ uw.cell? ⟨w.heap.size, 1, none⟩ = some (.string s2) → Hid (Kept 6 53 wB (w.heap.size + 1) uw) → Hid (uw.cell? ⟨1, 0, none⟩ = some (.int .i64 mx)) → Hid (Loc uw N3 ⟨false, none, 0, 0, none, 0, 0⟩) → w.heap.size + 1 < N3 → Hid (Loc uw N4 ⟨false, none, 0, 0, none, 0, 0⟩) → w.heap.size + 1 < N4 → N3 ≠ N4 → F 4 L (Act.put (Act.put A0 (some 3) (.pointer (some ⟨N3, 0, none⟩))) (some 4) (.pointer (some ⟨N4, 0, none⟩))) uw := by
    intro L uw N3 N4 hLL hS HK HM Z3 hlo3 Z4 hlo4 ne34
    subst hLL
    rw [← hF.out, ← hA.out]
    try simp only [Act.put, lt, ly, lu]
    refine wpAnyH_ready (rs := [2]) (by kernel_rfl) (by simp) ?_
    refine AllReadyH.cons (o := ?o2z494) ?e2z494 ?k2z494 AllReadyH.nil
    case e2z494 => simp only [lg, lz, ls] <;> rfl
    case k2z494 =>
      intro K hK
      go_simp
      go_at_call 12
      refine (number_val HM.out ea.out).mono ?_
      rintro e u2 ⟨v2, rfl, hv2, hb2⟩
      refine hK.out _ _ ?_ (fun hHeld => ?_)
      · (try dsimp only)
        exact two_keep hS hb2
      clear hK K
      try simp only [Act.put, lt, ly, lu]
      rw [hF.out]
      exact st1_34.out _ u2 v2 N3 N4 (by kernel_rfl) (two_keep hS hb2) (HK.out.call hb2) (cell_keep HM.out hb2) hv2 (Z3.out.call hb2) hlo3 (Z4.out.call hb2) hlo4 ne34
  simp only [← hA.out, Act.put, lt, ly, lu] at st0_34
  replace st0_34 := hid st0_34
  have st0_3 : ∀ (L : Array Bool) (uw : World) (N3 : Nat), L = #[true, true, false, true, true, false, true, false, false, false] → uw.cell? ⟨w.heap.size, 0, none⟩ = some (.string s1) ∧ uw.cell? ⟨w.heap.size, 1, none⟩ = some (.string s2) → Hid (Kept 6 53 wB (w.heap.size + 1) uw) → Hid (uw.cell? ⟨1, 0, none⟩ = some (.int .i64 mx)) → Hid (Loc uw N3 ⟨false, none, 0, 0, none, 0, 0⟩) → w.heap.size + 1 < N3 → F 5 L (Act.put A0 (some 3) (.pointer (some ⟨N3, 0, none⟩))) uw := by
    intro L uw N3 hLL hS HK HM Z3 hlo3
    subst hLL
    rw [← hF.out, ← hA.out]
    try simp only [Act.put, lt, ly, lu]
    refine wpAnyH_ready (rs := [2, 7]) (by kernel_rfl) (by simp) ?_
    refine AllReadyH.cons (o := ?o2z495) ?e2z495 ?k2z495 (AllReadyH.cons (o := ?o7z495) ?e7z495 ?k7z495 AllReadyH.nil)
    case e2z495 => simp only [lg, lz, ls] <;> rfl
    case e7z495 => simp only [lg, lz, ls] <;> rfl
    case k2z495 =>
      intro K hK
      go_simp
      go_at_call 12
      refine (number_val HM.out ea.out).mono ?_
      rintro e u2 ⟨v2, rfl, hv2, hb2⟩
      refine hK.out _ _ ?_ (fun hHeld => ?_)
      · (try dsimp only)
        exact two_keep hS hb2
      clear hK K
      try simp only [Act.put, lt, ly, lu]
      rw [hF.out]
      exact st1_3.out _ u2 v2 N3 (by kernel_rfl) (two_keep hS hb2) (HK.out.call hb2) (cell_keep HM.out hb2) hv2 (Z3.out.call hb2) hlo3
    case k7z495 =>
      intro K hK
      go_simp
      have hb2 := zero_below uw
      have Z2 := zero_loc uw
      refine hK.out _ _ ?_ (fun hHeld => ?_)
      · (try dsimp only)
        exact two_keep hS hb2
      clear hK K
      try simp only [Act.put, lt, ly, lu]
      rw [hF.out]
      exact st0_34.out _ _ N3 uw.heap.size (by kernel_rfl) (two_keep hS hb2) (HK.out.call hb2) (cell_keep HM.out hb2) (Z3.out.call hb2) hlo3 Z2 HK.out.block_lt (Nat.ne_of_lt Z3.out.lt)
  simp only [← hA.out, Act.put, lt, ly, lu] at st0_3
  replace st0_3 := hid st0_3
  have st0_4 : ∀ (L : Array Bool) (uw : World) (N4 : Nat), L = #[true, true, false, true, true, false, false, true, false, false] → uw.cell? ⟨w.heap.size, 0, none⟩ = some (.string s1) ∧ uw.cell? ⟨w.heap.size, 1, none⟩ = some (.string s2) → Hid (Kept 6 53 wB (w.heap.size + 1) uw) → Hid (uw.cell? ⟨1, 0, none⟩ = some (.int .i64 mx)) → Hid (Loc uw N4 ⟨false, none, 0, 0, none, 0, 0⟩) → w.heap.size + 1 < N4 → F 5 L (Act.put A0 (some 4) (.pointer (some ⟨N4, 0, none⟩))) uw := by
    intro L uw N4 hLL hS HK HM Z4 hlo4
    subst hLL
    rw [← hF.out, ← hA.out]
    try simp only [Act.put, lt, ly, lu]
    refine wpAnyH_ready (rs := [2, 6]) (by kernel_rfl) (by simp) ?_
    refine AllReadyH.cons (o := ?o2z496) ?e2z496 ?k2z496 (AllReadyH.cons (o := ?o6z496) ?e6z496 ?k6z496 AllReadyH.nil)
    case e2z496 => simp only [lg, lz, ls] <;> rfl
    case e6z496 => simp only [lg, lz, ls] <;> rfl
    case k2z496 =>
      intro K hK
      go_simp
      go_at_call 12
      refine (number_val HM.out ea.out).mono ?_
      rintro e u2 ⟨v2, rfl, hv2, hb2⟩
      refine hK.out _ _ ?_ (fun hHeld => ?_)
      · (try dsimp only)
        exact two_keep hS hb2
      clear hK K
      try simp only [Act.put, lt, ly, lu]
      rw [hF.out]
      exact st1_4.out _ u2 v2 N4 (by kernel_rfl) (two_keep hS hb2) (HK.out.call hb2) (cell_keep HM.out hb2) hv2 (Z4.out.call hb2) hlo4
    case k6z496 =>
      intro K hK
      go_simp
      have hb2 := zero_below uw
      have Z2 := zero_loc uw
      refine hK.out _ _ ?_ (fun hHeld => ?_)
      · (try dsimp only)
        exact two_keep hS hb2
      clear hK K
      try simp only [Act.put, lt, ly, lu]
      rw [hF.out]
      exact st0_34.out _ _ uw.heap.size N4 (by kernel_rfl) (two_keep hS hb2) (HK.out.call hb2) (cell_keep HM.out hb2) Z2 HK.out.block_lt (Z4.out.call hb2) hlo4 (Nat.ne_of_gt Z4.out.lt)
  simp only [← hA.out, Act.put, lt, ly, lu] at st0_4
  replace st0_4 := hid st0_4
  have st0_n : ∀ (L : Array Bool) (uw : World), L = #[true, true, false, true, true, false, false, false, false, false] → uw.cell? ⟨w.heap.size, 0, none⟩ = some (.string s1) ∧ uw.cell? ⟨w.heap.size, 1, none⟩ = some (.string s2) → Hid (Kept 6 53 wB (w.heap.size + 1) uw) → Hid (uw.cell? ⟨1, 0, none⟩ = some (.int .i64 mx)) → F 6 L A0 uw := by
    intro L uw  hLL hS HK HM
    subst hLL
    rw [← hF.out, ← hA.out]
    try simp only [Act.put, lt, ly, lu]
    refine wpAnyH_ready (rs := [2, 6, 7]) (by kernel_rfl) (by simp) ?_
    refine AllReadyH.cons (o := ?o2z497) ?e2z497 ?k2z497 (AllReadyH.cons (o := ?o6z497) ?e6z497 ?k6z497 (AllReadyH.cons (o := ?o7z497) ?e7z497 ?k7z497 AllReadyH.nil))
    case e2z497 => simp only [lg, lz, ls] <;> rfl
    case e6z497 => simp only [lg, lz, ls] <;> rfl
    case e7z497 => simp only [lg, lz, ls] <;> rfl
    case k2z497 =>
      intro K hK
      go_simp
      go_at_call 12
      refine (number_val HM.out ea.out).mono ?_
      rintro e u2 ⟨v2, rfl, hv2, hb2⟩
      refine hK.out _ _ ?_ (fun hHeld => ?_)
      · (try dsimp only)
        exact two_keep hS hb2
      clear hK K
      try simp only [Act.put, lt, ly, lu]
      rw [hF.out]
      exact st1_n.out _ u2 v2 (by kernel_rfl) (two_keep hS hb2) (HK.out.call hb2) (cell_keep HM.out hb2) hv2
    case k6z497 =>
      intro K hK
      go_simp
      have hb2 := zero_below uw
      have Z2 := zero_loc uw
      refine hK.out _ _ ?_ (fun hHeld => ?_)
      · (try dsimp only)
        exact two_keep hS hb2
      clear hK K
      try simp only [Act.put, lt, ly, lu]
      rw [hF.out]
      exact st0_3.out _ _ uw.heap.size (by kernel_rfl) (two_keep hS hb2) (HK.out.call hb2) (cell_keep HM.out hb2) Z2 HK.out.block_lt
    case k7z497 =>
      intro K hK
      go_simp
      have hb2 := zero_below uw
      have Z2 := zero_loc uw
      refine hK.out _ _ ?_ (fun hHeld => ?_)
      · (try dsimp only)
        exact two_keep hS hb2
      clear hK K
      try simp only [Act.put, lt, ly, lu]
      rw [hF.out]
      exact st0_4.out _ _ uw.heap.size (by kernel_rfl) (two_keep hS hb2) (HK.out.call hb2) (cell_keep HM.out hb2) Z2 HK.out.block_lt
  simp only [← hA.out, Act.put, lt, ly, lu] at st0_n
  replace st0_n := hid st0_n
  have HA := hA.out
  subst HA
  exact st0_n.out _ _ (by kernel_rfl) hS0 HK0 HM0
end Go.Proofs.YtlffafddmmhbmaaGreatDoor
namespace Go.Proofs.YtlffafddmmhbmaaGreatDoor
open Go.RowKit
open Vx

theorem cmpQ_ge0 {x y : Rat} : cmpQ x y ≥ 0 ↔ y ≤ x := by
  have h := cmpQ_lt0 (x := x) (y := y)
  constructor
  · intro h1
    rcases Decidable.em (x < y) with h2 | h2
    · have := h.2 h2; omega
    · exact Rat.not_lt.1 h2
  · intro h1
    rcases Decidable.em (cmpQ x y < 0) with h2 | h2
    · exact absurd (h.1 h2) (Rat.not_lt.2 h1)
    · omega
theorem lo_val {w : World} {v : Value} {a b : Rat} (hv : IsBox w v a b) (hs : siz a ≤ 536870912) :
    Calls Tryz.prog 40 #[v] w (NumRet w a) := boxLo_any hv (Nat.le_trans hs (by omega))
theorem hi_val {w : World} {v : Value} {a b : Rat} (hv : IsBox w v a b) (hs : siz b ≤ 536870912) :
    Calls Tryz.prog 41 #[v] w (NumRet w b) := boxHi_any hv (Nat.le_trans hs (by omega))
theorem cmp_val {w : World} {vx vy : Value} {x y : Rat} {n : Int} (hn : cmpQ x y = n) (hx : IsNum w vx x) (hy : IsNum w vy y) (hs : siz x ≤ 536870912) (ht : siz y ≤ 536870912) :
    Calls Tryz.prog 21 #[vx, vy] w (IntRet w n) := by rw [← hn]; exact numCmp_any hx hy (Nat.le_trans hs (by omega)) (Nat.le_trans ht (by omega))
theorem inside_val {w : World} {v u : Value} {a b c d : Rat} {r : Bool} (hr : decide (c ≤ a ∧ b ≤ d) = r) (hv : IsBox w v a b) (hu : IsBox w u c d) (sa : siz a ≤ 536870912) (sb : siz b ≤ 536870912) (sc : siz c ≤ 536870912) (sd : siz d ≤ 536870912) :
    Calls Tryz.prog 45 #[v, u] w (BoolRet w r) := by
  rw [← hr]; exact boxInside_any hv hu (Nat.le_trans sa (by omega)) (Nat.le_trans sb (by omega)) (Nat.le_trans sc (by omega)) (Nat.le_trans sd (by omega))
theorem width_val {w : World} {v : Value} {a b q : Rat} (hq : b - a = q) (hv : IsBox w v a b) (sa : siz a ≤ 536870912) (sb : siz b ≤ 536870912) :
    Calls Tryz.prog 50 #[v] w (NumRet w q) := by
  rw [← hq]; exact boxWidth_any hv (Nat.le_trans sa (by omega)) (Nat.le_trans sb (by omega))
theorem at_val {w : World} {v : Value} {a b q : Rat} {p : Nat} (hq : a + (b - a) * mkRat ((p : Nat) : Int) 255 = q) (hv : IsBox w v a b) (hp : p ≤ 255) (sa : siz a ≤ 536870912) (sb : siz b ≤ 536870912) :
    Calls Tryz.prog 30 #[v, .int .u8 (p : Nat)] w (NumRet w q) := by
  rw [← hq]; exact at_any hv hp (Nat.le_trans sa (by omega)) (Nat.le_trans sb (by omega))
theorem point_val {w : World} {vx : Value} {x : Rat} (hx : IsNum w vx x) (hs : siz x ≤ 536870912) :
    Calls Tryz.prog 49 #[vx] w (BoxRet w x x) := point_any hx (Nat.le_trans hs (by omega))
theorem Stay.box {wS w : World} {v : Value} {a b : Rat} (h : Stay wS w) (hv : IsBox wS v a b) : IsBox w v a b := by
  obtain ⟨v1, v2, v3, v4, e, h1, h2, h3, h4⟩ := hv
  exact ⟨v1, v2, v3, v4, e, h _ _ h1, h _ _ h2, h _ _ h3, h _ _ h4⟩
theorem Held0.put3 {wB wS w : World} {N b : Nat} {p r : Pt} (h : Held0 wB N wS w) (L : Loc w b p) (hle : N ≤ b) : Held0 wB N wS (Go.Proofs.YtlffafddmmhbmaaGreatDoor.put3 w b r) := by
  have k0 : Kept 3 27 w b w := Kept.start rfl (plain3 _ _ _ _ _ _ _) L
  have k1 := k0.set (i := 0) (bool_plain r.s)
  have k2 := k1.set (i := 1) (slice_plain r.A1 r.n1 r.c1)
  have hB : Below N wB (Go.Proofs.YtlffafddmmhbmaaGreatDoor.put3 w b r) := ((h.2.1.setCell (p := ⟨b, 0, none⟩) hle _).setCell (p := ⟨b, 1, none⟩) hle _).setCell (p := ⟨b, 2, none⟩) hle _
  exact ⟨below_cell hB, hB, ((h.2.2.put k0).put k1).put k2⟩
end Go.Proofs.YtlffafddmmhbmaaGreatDoor
namespace Go.Proofs.YtlffafddmmhbmaaGreatDoor
open Go.RowKit
open Vx

def Zero3 (u : World) (n : Nat) : Prop := u.heap[n]? = some (.cells #[.bool false, .slice none 0 0, .slice none 0 0] 27 (0, 0))
def Zero6 (u : World) (n : Nat) : Prop := u.heap[n]? = some (.cells #[.bool false, .slice none 0 0, .slice none 0 0, .bool false, .slice none 0 0, .slice none 0 0] 53 (0, 0))
theorem hgrow {wB wS w : World} {N : Nat} (h : Held0 wB N wS w) (e : Hid (wB.heap.size = N)) : N ≤ w.heap.size := Nat.le_trans (Nat.le_of_eq e.out.symm) h.2.1.size
theorem put3_all {wB wS w w' : World} {N b : Nat} {s1 : Bool} {A1 A2 : Option Addr} {n1 c1 n2 c2 : Nat} {q : Rat} (hw : w' = (((w.setCell ⟨b, 0, none⟩ (.bool s1)).setCell ⟨b, 1, none⟩ (.slice A1 n1 c1)).setCell ⟨b, 2, none⟩ (.slice A2 n2 c2))) (h : Held0 wB N wS w) (L : w.heap[b]? = some (.cells #[.bool false, .slice none 0 0, .slice none 0 0] 27 (0, 0))) (hle : N ≤ b) (hv : IsNum w (.agg #[.bool s1, .slice A1 n1 c1, .slice A2 n2 c2]) q) :
    Held0 wB N wS w' ∧ w'.heap[b]? = some (.cells #[.bool s1, .slice A1 n1 c1, .slice A2 n2 c2] 27 (0, 0)) ∧ IsNum w' (.agg #[.bool s1, .slice A1 n1 c1, .slice A2 n2 c2]) q ∧ (∀ (n : Nat) (o : Obj), n ≠ b → w.heap[n]? = some o → w'.heap[n]? = some o) ∧ (∀ (v : Value) (x y : Rat), IsBox w v x y → IsBox w' v x y) ∧ (∀ (v : Value) (x : Rat), IsNum w v x → IsNum w' v x) := by
  have k0 : Kept 3 27 w b w := Kept.start rfl (plain3 _ _ _ _ _ _ _) L
  have k1 := k0.set (i := 0) (bool_plain s1)
  have k2 := k1.set (i := 1) (slice_plain A1 n1 c1)
  have S : ∀ wX, Stay wX w → Stay wX w' := fun wX hX => by rw [hw]; exact (((hX.put k0).put k1).put k2)
  have hB : Below N wB w' := by rw [hw]; exact (((h.2.1.setCell (p := ⟨b, 0, none⟩) hle (.bool s1)).setCell (p := ⟨b, 1, none⟩) hle (.slice A1 n1 c1)).setCell (p := ⟨b, 2, none⟩) hle (.slice A2 n2 c2))
  have hO : ∀ (n : Nat) (o : Obj), n ≠ b → w.heap[n]? = some o → w'.heap[n]? = some o := fun n o hne ho => by rw [hw, heap_setCell_other _ _ _ _ hne, heap_setCell_other _ _ _ _ hne, heap_setCell_other _ _ _ _ hne]; exact ho
  exact ⟨⟨below_cell hB, hB, S _ h.2.2⟩, by rw [hw]; exact setcell_heap3 rfl L _ _ _, (S _ (Stay.refl w)).num hv, hO, fun v x y hx => (S _ (Stay.refl w)).box hx, fun v x hx => (S _ (Stay.refl w)).num hx⟩
theorem put6_all {wB wS w w' : World} {N b : Nat} {s1 s2 : Bool} {A1 A2 A3 A4 : Option Addr} {n1 c1 n2 c2 n3 c3 n4 c4 : Nat} {p q : Rat} (hw : w' = ((((((w.setCell ⟨b, 0, none⟩ (.bool s1)).setCell ⟨b, 1, none⟩ (.slice A1 n1 c1)).setCell ⟨b, 2, none⟩ (.slice A2 n2 c2)).setCell ⟨b, 3, none⟩ (.bool s2)).setCell ⟨b, 4, none⟩ (.slice A3 n3 c3)).setCell ⟨b, 5, none⟩ (.slice A4 n4 c4))) (h : Held0 wB N wS w) (L : w.heap[b]? = some (.cells #[.bool false, .slice none 0 0, .slice none 0 0, .bool false, .slice none 0 0, .slice none 0 0] 53 (0, 0))) (hle : N ≤ b) (hv : IsBox w (.agg #[.bool s1, .slice A1 n1 c1, .slice A2 n2 c2, .bool s2, .slice A3 n3 c3, .slice A4 n4 c4]) p q) :
    Held0 wB N wS w' ∧ w'.heap[b]? = some (.cells #[.bool s1, .slice A1 n1 c1, .slice A2 n2 c2, .bool s2, .slice A3 n3 c3, .slice A4 n4 c4] 53 (0, 0)) ∧ IsBox w' (.agg #[.bool s1, .slice A1 n1 c1, .slice A2 n2 c2, .bool s2, .slice A3 n3 c3, .slice A4 n4 c4]) p q ∧ (∀ (n : Nat) (o : Obj), n ≠ b → w.heap[n]? = some o → w'.heap[n]? = some o) ∧ (∀ (v : Value) (x y : Rat), IsBox w v x y → IsBox w' v x y) ∧ (∀ (v : Value) (x : Rat), IsNum w v x → IsNum w' v x) := by
  have k0 : Kept 6 53 w b w := Kept.start rfl plain6 L
  have k1 := k0.set (i := 0) (bool_plain s1)
  have k2 := k1.set (i := 1) (slice_plain A1 n1 c1)
  have k3 := k2.set (i := 2) (slice_plain A2 n2 c2)
  have k4 := k3.set (i := 3) (bool_plain s2)
  have k5 := k4.set (i := 4) (slice_plain A3 n3 c3)
  have S : ∀ wX, Stay wX w → Stay wX w' := fun wX hX => by rw [hw]; exact ((((((hX.put k0).put k1).put k2).put k3).put k4).put k5)
  have hB : Below N wB w' := by rw [hw]; exact ((((((h.2.1.setCell (p := ⟨b, 0, none⟩) hle (.bool s1)).setCell (p := ⟨b, 1, none⟩) hle (.slice A1 n1 c1)).setCell (p := ⟨b, 2, none⟩) hle (.slice A2 n2 c2)).setCell (p := ⟨b, 3, none⟩) hle (.bool s2)).setCell (p := ⟨b, 4, none⟩) hle (.slice A3 n3 c3)).setCell (p := ⟨b, 5, none⟩) hle (.slice A4 n4 c4))
  have hO : ∀ (n : Nat) (o : Obj), n ≠ b → w.heap[n]? = some o → w'.heap[n]? = some o := fun n o hne ho => by rw [hw, heap_setCell_other _ _ _ _ hne, heap_setCell_other _ _ _ _ hne, heap_setCell_other _ _ _ _ hne, heap_setCell_other _ _ _ _ hne, heap_setCell_other _ _ _ _ hne, heap_setCell_other _ _ _ _ hne]; exact ho
  exact ⟨⟨below_cell hB, hB, S _ h.2.2⟩, by rw [hw]; exact setcell_heap6 rfl L _ _ _ _ _ _, (S _ (Stay.refl w)).box hv, hO, fun v x y hx => (S _ (Stay.refl w)).box hx, fun v x hx => (S _ (Stay.refl w)).num hx⟩
theorem zero3_at (u : World) : (u.alloc (.cells #[.bool false, .slice none 0 0, .slice none 0 0] 27)).heap[u.heap.size]? = some (.cells #[.bool false, .slice none 0 0, .slice none 0 0] 27 (0, 0)) := heap_alloc_new u _
theorem zero6_at (u : World) : (u.alloc (.cells #[.bool false, .slice none 0 0, .slice none 0 0, .bool false, .slice none 0 0, .slice none 0 0] 53)).heap[u.heap.size]? = some (.cells #[.bool false, .slice none 0 0, .slice none 0 0, .bool false, .slice none 0 0, .slice none 0 0] 53 (0, 0)) := heap_alloc_new u _
theorem zero6_below (u : World) : Below u.heap.size u (u.alloc (.cells #[.bool false, .slice none 0 0, .slice none 0 0, .bool false, .slice none 0 0, .slice none 0 0] 53)) := (Below.refl _ _).alloc (Nat.le_refl _) _
theorem cells3 {w : World} {b : Nat} {v0 v1 v2 : Value} {ty : TypeId} (h : w.heap[b]? = some (.cells #[v0, v1, v2] ty (0, 0))) : w.cell? ⟨b, 0, none⟩ = some v0 ∧ w.cell? ⟨b, 1, none⟩ = some v1 ∧ w.cell? ⟨b, 2, none⟩ = some v2 := ⟨cell_of_row _ _ 0 _ _ _ h, cell_of_row _ _ 1 _ _ _ h, cell_of_row _ _ 2 _ _ _ h⟩
theorem cells6 {w : World} {b : Nat} {v0 v1 v2 v3 v4 v5 : Value} {ty : TypeId} (h : w.heap[b]? = some (.cells #[v0, v1, v2, v3, v4, v5] ty (0, 0))) : w.cell? ⟨b, 0, none⟩ = some v0 ∧ w.cell? ⟨b, 1, none⟩ = some v1 ∧ w.cell? ⟨b, 2, none⟩ = some v2 ∧ w.cell? ⟨b, 3, none⟩ = some v3 ∧ w.cell? ⟨b, 4, none⟩ = some v4 ∧ w.cell? ⟨b, 5, none⟩ = some v5 := ⟨cell_of_row _ _ 0 _ _ _ h, cell_of_row _ _ 1 _ _ _ h, cell_of_row _ _ 2 _ _ _ h, cell_of_row _ _ 3 _ _ _ h, cell_of_row _ _ 4 _ _ _ h, cell_of_row _ _ 5 _ _ _ h⟩
theorem hcall {wB wS w w' : World} {N : Nat} (h : Held0 wB N wS w) (e : Hid (wB.heap.size = N)) (hb : Below w.heap.size w w') : Held0 wB N wS w' := Held0.call h (Nat.le_of_eq e.out.symm) hb
theorem at_lt {u : World} {n : Nat} {o : Obj} (h : u.heap[n]? = some o) : n < u.heap.size := (Array.getElem?_eq_some_iff.1 h).1
theorem at_keep {u u' : World} {n : Nat} {o : Obj} (h : u.heap[n]? = some o) (hb : Below u.heap.size u u') : u'.heap[n]? = some o := (hb.block _ (at_lt h)).trans h
end Go.Proofs.YtlffafddmmhbmaaGreatDoor
namespace Go.Proofs.YtlffafddmmhbmaaGreatDoor
open Vx

theorem div_nonneg {a g : Rat} (hg : 0 < g) (ha : 0 ≤ a) : 0 ≤ a / g := by
  rw [Rat.div_def]; exact Rat.mul_nonneg ha (Rat.le_of_lt (Rat.inv_pos.2 hg))
theorem nat_le {a b : Nat} (h : a ≤ b) : (a : Rat) ≤ (b : Rat) := Rat.natCast_le_natCast.2 h
theorem div_mono {a b g : Rat} (hg : 0 < g) (h : a ≤ b) : a / g ≤ b / g := by
  rw [Rat.div_def, Rat.div_def]; exact Rat.mul_le_mul_of_nonneg_right h (Rat.le_of_lt (Rat.inv_pos.2 hg))
/-- a place between the ends -/
theorem place_frac {p : Nat} (hp : p ≤ 255) : 0 ≤ mkRat ((p : Nat) : Int) 255 ∧ mkRat ((p : Nat) : Int) 255 ≤ 1 := by
  have e : mkRat ((p : Nat) : Int) 255 = (p : Rat) / ((255 : Nat) : Rat) := by rw [Rat.mkRat_eq_div]; rfl
  have h255 : (0 : Rat) < ((255 : Nat) : Rat) := by decide +kernel
  have h0 : (0 : Rat) ≤ (p : Rat) := nat_le (Nat.zero_le p)
  rw [e]
  refine ⟨div_nonneg h255 h0, ?_⟩
  have h1 := div_mono h255 (nat_le hp)
  rw [show ((255 : Nat) : Rat) / ((255 : Nat) : Rat) = 1 by decide +kernel] at h1
  exact h1
theorem place_between {a b : Rat} {p : Nat} (hp : p ≤ 255) (h : a ≤ b) : a ≤ a + (b - a) * mkRat ((p : Nat) : Int) 255 ∧ a + (b - a) * mkRat ((p : Nat) : Int) 255 ≤ b := by
  obtain ⟨h0, h1⟩ := place_frac hp
  have hd : 0 ≤ b - a := by grind
  have h2 := Rat.mul_nonneg hd h0
  have h3 := Rat.mul_le_mul_of_nonneg_left h1 hd
  constructor <;> grind
end Go.Proofs.YtlffafddmmhbmaaGreatDoor
namespace Go.Proofs.YtlffafddmmhbmaaGreatDoor
open Go.RowKit
open Vx

theorem any40_take {l : List ByteArray} {i : Nat} {s : ByteArray} (h : l[i]? = some s) (ha : (l.take i).any (fun s => decide (40 < s.size)) = false) (hs : ¬ 40 < s.size) : (l.take (i + 1)).any (fun s => decide (40 < s.size)) = false := by
  rw [List.take_add_one, h, List.any_append, ha]
  simp [hs]
theorem any40_hit {l : List ByteArray} {i : Nat} {s : ByteArray} (h : l[i]? = some s) (hs : 40 < s.size) : l.any (fun s => decide (40 < s.size)) = true := by
  rw [List.any_eq_true]
  exact ⟨s, List.mem_of_getElem? h, decide_eq_true hs⟩
set_option maxRecDepth 100000 in
set_option maxHeartbeats 2000000 in
theorem wide_any {w : World} {s1 s2 s3 s4 s5 s6 : ByteArray} {m n p : Nat} :
    Calls Tryz.prog 28 #[.agg #[.string s1, .string s2, .string s3, .string s4, .string s5, .string s6, .int .u8 (m : Nat), .int .u8 (n : Nat), .int .u8 (p : Nat)]] w (fun e w' => e = .returned (.bool ([s1, s2, s3, s4, s5, s6].any (fun s => decide (40 < s.size)))) ∧ Below w.heap.size w w') := by
  obtain ⟨l, hl⟩ : ∃ l, l = [s1, s2, s3, s4, s5, s6] := ⟨_, rfl⟩
  obtain ⟨r, hr⟩ : ∃ r, r = l.any (fun s => decide (40 < s.size)) := ⟨_, rfl⟩
  rw [← hl, ← hr]
  obtain ⟨w1, hw1⟩ : ∃ u, u = w.alloc (.cells #[.string s1, .string s2, .string s3, .string s4, .string s5, .string s6, .int .u8 (m : Nat), .int .u8 (n : Nat), .int .u8 (p : Nat)] 50) := ⟨_, rfl⟩
  have b1 : Below w.heap.size w w1 := by rw [hw1]; exact (Below.refl _ _).alloc (Nat.le_refl _) _
  have gA : w1.heap[w.heap.size]? = some (.cells #[.string s1, .string s2, .string s3, .string s4, .string s5, .string s6, .int .u8 (m : Nat), .int .u8 (n : Nat), .int .u8 (p : Nat)] 50 (0, 0)) := by rw [hw1]; exact heap_alloc_new w _
  have k0 : w1.cell? ⟨w.heap.size, 0, none⟩ = some (.string s1) := cell_of_row _ _ _ _ _ _ gA
  have k1 : w1.cell? ⟨w.heap.size, 1, none⟩ = some (.string s2) := cell_of_row _ _ _ _ _ _ gA
  have k2 : w1.cell? ⟨w.heap.size, 2, none⟩ = some (.string s3) := cell_of_row _ _ _ _ _ _ gA
  have k3 : w1.cell? ⟨w.heap.size, 3, none⟩ = some (.string s4) := cell_of_row _ _ _ _ _ _ gA
  have k4 : w1.cell? ⟨w.heap.size, 4, none⟩ = some (.string s5) := cell_of_row _ _ _ _ _ _ gA
  have k5 : w1.cell? ⟨w.heap.size, 5, none⟩ = some (.string s6) := cell_of_row _ _ _ _ _ _ gA
  obtain ⟨w2, hw2⟩ : ∃ u, u = w1.alloc (.cells #[.string s1, .string s2, .string s3, .string s4, .string s5, .string s6] 9) := ⟨_, rfl⟩
  have b2 : Below w1.heap.size w1 w2 := by rw [hw2]; exact (Below.refl _ _).alloc (Nat.le_refl _) _
  have gB : w2.heap[w1.heap.size]? = some (.cells #[.string s1, .string s2, .string s3, .string s4, .string s5, .string s6] 9 (0, 0)) := by rw [hw2]; exact heap_alloc_new w1 _
  have HE := Lib.hid (Below.step b1 b2)
  have hst : ∀ (i : Nat) (s : ByteArray), l[i]? = some s → w2.cell? ⟨w1.heap.size, i, none⟩ = some (.string s) := by
    intro i s hi
    rw [hl] at hi
    match i, hi with
    | 0, hi => obtain rfl := Option.some.inj hi; exact cell_of_row _ _ 0 _ _ _ gB
    | 1, hi => obtain rfl := Option.some.inj hi; exact cell_of_row _ _ 1 _ _ _ gB
    | 2, hi => obtain rfl := Option.some.inj hi; exact cell_of_row _ _ 2 _ _ _ gB
    | 3, hi => obtain rfl := Option.some.inj hi; exact cell_of_row _ _ 3 _ _ _ gB
    | 4, hi => obtain rfl := Option.some.inj hi; exact cell_of_row _ _ 4 _ _ _ gB
    | 5, hi => obtain rfl := Option.some.inj hi; exact cell_of_row _ _ 5 _ _ _ gB
    | _ + 6, hi => exact absurd hi (by simp)
  have hlen : l.length = 6 := by rw [hl]; rfl
  replace hst := Lib.hid hst
  replace hr := Lib.hid hr
  replace hl := Lib.hid hl
  clear gA gB b1 b2
  go_enter Tryz.func28, Tryz.ntmps28
  go_upto_region 1 with fail
  rw [← hw1]
  clear hw1
  go_upto_region 2 with fail
  rw [← hw2]
  clear hw2 k0 k1 k2 k3 k4 k5
  go_wp2_with fail
  go_loopw [4] (fun i wr => ∃ k : Nat, k ≤ 6 ∧ i = .int .i64 k ∧ wr = w2 ∧ Hid ((l.take k).any (fun s => decide (40 < s.size)) = false)) (fun i _ => 6 - (intOf i).toNat)
  case atStart => exact ⟨0, Nat.zero_le _, rfl, rfl, rfl⟩
  case round =>
    obtain ⟨k, hk, rfl, rfl, ha⟩ := hrel
    rcases Nat.lt_or_ge k 6 with hlt | hge
    · obtain ⟨s, hs⟩ : ∃ s, l[k]? = some s := ⟨_, List.getElem?_eq_getElem (by omega)⟩
      have z0 := hst.out k s hs
      replace hs := Lib.hid hs
      rcases Decidable.em (40 < s.size) with h | h
      · have hd : decide (((s.size : Nat) : Int) > 40) = true := decide_eq_true (by omega)
        have hfin := any40_hit hs.out h
        rw [← hr.out] at hfin
        subst hfin
        go_wp2_with fail
        go_ret
        exact ⟨rfl, HE.out⟩
      · have hd : decide (((s.size : Nat) : Int) > 40) = false := decide_eq_false (by omega)
        have ha2 := Lib.hid (any40_take hs.out ha.out h)
        clear hr hst hs ha hl
        go_wp2_with fail
        go_roundw
        case rel => exact ⟨k + 1, by omega, by simp, trivial, ha2⟩
        case measure => simp [intOf]; omega
    · have hkl : k = l.length := by omega
      have ha2 := ha.out
      rw [hkl, List.take_length, ← hr.out] at ha2
      subst ha2
      go_wp2_with fail
      go_ret
      exact ⟨rfl, HE.out⟩
end Go.Proofs.YtlffafddmmhbmaaGreatDoor
