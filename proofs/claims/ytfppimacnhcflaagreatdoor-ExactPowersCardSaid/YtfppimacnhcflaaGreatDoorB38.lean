/-
  The statement of the claim: the law returns true for every input, and each argument reads afterwards as it read before. Condition: the listed variables of the library (a table of math/bits, two tables of unicode/utf8) read at the start as the text of the program lays them; the card ties this to that text.
-/
import Derived.Test.YtfppimacnhcflaaGreatDoorB37
import Derived.Test.YtfppimacnhcflaaGreatDoorB31
set_option linter.all false
namespace Go.Proofs.YtfppimacnhcflaaGreatDoor.Rf
open Go.RowKit
open Rx
open Lib (hid)
open Vx (siz siz_num siz_den)
open List renaming getElem?_toArray → lg, getElem?_cons_zero → lz, getElem?_cons_succ → ls, setIfInBounds_toArray → lt, set_cons_zero → ly, set_cons_succ → lu
/-- Naturals of the program and of the document stay what they are. -/
def Live (w w' : World) : Prop := Stay w w' ∧ ∀ v z, IsBig w v z → IsBig w' v z
theorem Live.refl (w : World) : Live w w := ⟨fun _ _ h => h, fun _ _ h => h⟩
theorem Live.trans {w w' w'' : World} (h : Live w w') (k : Live w' w'') : Live w w'' := ⟨fun v q a => k.1 v q (h.1 v q a), fun v q a => k.2 v q (h.2 v q a)⟩
theorem Live.of_below {w w' : World} (h : Below w.heap.size w w') : Live w w' := ⟨fun _ _ a => a.keep h, fun _ _ a => a.keep h⟩
theorem stay_trans {w w' w'' : World} (h : Stay w w') (k : Live w' w'') : Stay w w'' := fun v q a => k.1 v q (h v q a)
theorem Live.num {w w' : World} {v : Value} {q : Rat} (h : Live w w') (hq : IsNum w v q) : IsNum w' v q := h.1.num hq
theorem Live.rat {w w' : World} {v : Value} {q : Rat} (h : Live w w') (hq : IsRat w v q) : IsRat w' v q := by
  obtain ⟨v1, v2, e, h1, h2⟩ := hq
  exact ⟨v1, v2, e, h.2 _ _ h1, h.2 _ _ h2⟩
theorem Live.box {w w' : World} {v : Value} {a b : Rat} (h : Live w w') (hq : IsBox w v a b) : IsBox w' v a b := by
  obtain ⟨v1, v2, v3, v4, e, h1, h2, h3, h4⟩ := hq
  exact ⟨v1, v2, v3, v4, e, h.1 _ _ h1, h.1 _ _ h2, h.1 _ _ h3, h.1 _ _ h4⟩
/-- A box of the document: two ends, six parts in a row. -/
def IsRBox (w : World) (v : Value) (a b : Rat) : Prop :=
  ∃ v1 v2 v3 v4, v = .agg #[.bool (decide (a.num < 0)), v1, v2, .bool (decide (b.num < 0)), v3, v4] ∧ IsBig w v1 a.num.natAbs ∧ IsBig w v2 a.den ∧ IsBig w v3 b.num.natAbs ∧ IsBig w v4 b.den
theorem IsRBox.keep {w w' : World} {v : Value} {a b : Rat} (h : IsRBox w v a b) (hb : Below w.heap.size w w') : IsRBox w' v a b := by
  obtain ⟨v1, v2, v3, v4, h0, h1, h2, h3, h4⟩ := h
  exact ⟨v1, v2, v3, v4, h0, h1.keep hb, h2.keep hb, h3.keep hb, h4.keep hb⟩
theorem Live.rbox {w w' : World} {v : Value} {a b : Rat} (h : Live w w') (hq : IsRBox w v a b) : IsRBox w' v a b := by
  obtain ⟨v1, v2, v3, v4, e, h1, h2, h3, h4⟩ := hq
  exact ⟨v1, v2, v3, v4, e, h.2 _ _ h1, h.2 _ _ h2, h.2 _ _ h3, h.2 _ _ h4⟩
theorem IsRBox.opened {w : World} {v : Value} {a b : Rat} (h : IsRBox w v a b) : ∃ A1 c1 A2 c2 A3 c3 A4 c4,
    v = .agg #[.bool (decide (a.num < 0)), .slice A1 (len a.num.natAbs) c1, .slice A2 (len a.den) c2, .bool (decide (b.num < 0)), .slice A3 (len b.num.natAbs) c3, .slice A4 (len b.den) c4] ∧
    IsRat w (.agg #[.bool (decide (a.num < 0)), .slice A1 (len a.num.natAbs) c1, .slice A2 (len a.den) c2]) a ∧ IsRat w (.agg #[.bool (decide (b.num < 0)), .slice A3 (len b.num.natAbs) c3, .slice A4 (len b.den) c4]) b := by
  obtain ⟨v1, v2, v3, v4, rfl, h1, h2, h3, h4⟩ := h
  obtain ⟨A1, c1, rfl, -⟩ := id h1
  obtain ⟨A2, c2, rfl, -⟩ := id h2
  obtain ⟨A3, c3, rfl, -⟩ := id h3
  obtain ⟨A4, c4, rfl, -⟩ := id h4
  exact ⟨A1, c1, A2, c2, A3, c3, A4, c4, rfl, ⟨_, _, rfl, h1, h2⟩, ⟨_, _, rfl, h3, h4⟩⟩
theorem IsRat.pair {w : World} {A1 c1 A2 c2 A3 c3 A4 c4} {a b : Rat} {n1 n2 n3 n4 : Nat} {s1 s2 : Bool} (h1 : IsRat w (.agg #[.bool s1, .slice A1 n1 c1, .slice A2 n2 c2]) a) (h2 : IsRat w (.agg #[.bool s2, .slice A3 n3 c3, .slice A4 n4 c4]) b) :
    IsRBox w (.agg #[.bool s1, .slice A1 n1 c1, .slice A2 n2 c2, .bool s2, .slice A3 n3 c3, .slice A4 n4 c4]) a b := by
  obtain ⟨u1, u2, e1, h3, h4⟩ := h1
  obtain ⟨u3, u4, e2, h5, h6⟩ := h2
  simp only [Value.agg.injEq, Array.mk.injEq, List.cons.injEq, Value.bool.injEq, and_true] at e1 e2
  obtain ⟨rfl, rfl, rfl⟩ := e1
  obtain ⟨rfl, rfl, rfl⟩ := e2
  exact ⟨_, _, _, _, rfl, h3, h4, h5, h6⟩
def RBoxRet (w : World) (a b : Rat) (e : Ending) (w' : World) : Prop := ∃ v, e = .returned v ∧ IsRBox w' v a b ∧ Below w.heap.size w w'
/-- A box and a yes or no. -/
def RBoxBoolRet (w : World) (a b : Rat) (r : Bool) (e : Ending) (w' : World) : Prop := ∃ v, e = .returned (.tuple #[v, .bool r]) ∧ IsRBox w' v a b ∧ Below w.heap.size w w'
theorem plain6v {b b' : Bool} {A1 A2 A3 A4 : Option Addr} {n1 c1 n2 c2 n3 c3 n4 c4 : Nat} : Plain #[.bool b, .slice A1 n1 c1, .slice A2 n2 c2, .bool b', .slice A3 n3 c3, .slice A4 n4 c4] := by
  intro i k n
  match i with
  | 0 => simp
  | 1 => simp
  | 2 => simp
  | 3 => simp
  | 4 => simp
  | 5 => simp
  | i + 6 => simp
theorem plain_row6 {b b' : Bool} {A1 A2 A3 A4 : Option Addr} {n1 c1 n2 c2 n3 c3 n4 c4 : Nat} : ∀ (i : Nat) (k : Int), (#[.bool b, .slice A1 n1 c1, .slice A2 n2 c2, .bool b', .slice A3 n3 c3, .slice A4 n4 c4] : Array Value)[i]? ≠ some (.int .i64 k) := by
  intro i k
  match i with
  | 0 => simp
  | 1 => simp
  | 2 => simp
  | 3 => simp
  | 4 => simp
  | 5 => simp
  | i + 6 => simp
theorem stored3 {w w' : World} {b : Nat} {T : TypeId} {s1 t1 : Bool} {A1 B1 A2 B2 : Option Addr} {n1 c1 m1 d1 n2 c2 m2 d2 : Nat} (L : w.heap[b]? = some (.cells #[.bool t1, .slice B1 m1 d1, .slice B2 m2 d2] T (0, 0))) (hw : w' = (((w.setCell ⟨b, 0, none⟩ (.bool s1)).setCell ⟨b, 1, none⟩ (.slice A1 n1 c1)).setCell ⟨b, 2, none⟩ (.slice A2 n2 c2))) :
    w'.heap[b]? = some (.cells #[.bool s1, .slice A1 n1 c1, .slice A2 n2 c2] T (0, 0)) ∧ (∀ (n : Nat) (o : Obj), n ≠ b → w.heap[n]? = some o → w'.heap[n]? = some o) ∧ Live w w' ∧ (∀ (N : Nat) (wB : World), N ≤ b → Below N wB w → Below N wB w') := by
  have g1 := heap_setCell_same w b 0 _ _ (.bool s1) L
  have g2 := heap_setCell_same _ b 1 _ _ (.slice A1 n1 c1) g1
  have g3 := heap_setCell_same _ b 2 _ _ (.slice A2 n2 c2) g2
  have k0 : Kept 3 T w b w := Kept.start rfl (plain3 _ _ _ _ _ _ _) L
  have k1 := k0.set (i := 0) (bool_plain s1)
  have k2 := k1.set (i := 1) (slice_plain A1 n1 c1)
  have S : Stay w w' := by rw [hw]; exact ((((Stay.refl w).put k0).put k1).put k2)
  have R : ∀ v z, IsBig w v z → IsBig w' v z := fun v z hv => by rw [hw]; exact (((hv.other (i := 0) (u := .bool s1) L plain_row).other (i := 1) (u := .slice A1 n1 c1) g1 plain_row).other (i := 2) (u := .slice A2 n2 c2) g2 plain_row)
  refine ⟨by rw [hw, g3]; rfl, fun n o hne ho => by rw [hw, heap_setCell_other _ _ _ _ hne, heap_setCell_other _ _ _ _ hne, heap_setCell_other _ _ _ _ hne]; exact ho, ⟨S, R⟩, fun N wB hN hB => ?_⟩
  rw [hw]; exact (((hB.setCell (p := ⟨b, 0, none⟩) hN _).setCell (p := ⟨b, 1, none⟩) hN _).setCell (p := ⟨b, 2, none⟩) hN _)
theorem stored6 {w w' : World} {b : Nat} {T : TypeId} {s1 t1 s2 t2 : Bool} {A1 B1 A2 B2 A3 B3 A4 B4 : Option Addr} {n1 c1 m1 d1 n2 c2 m2 d2 n3 c3 m3 d3 n4 c4 m4 d4 : Nat} (L : w.heap[b]? = some (.cells #[.bool t1, .slice B1 m1 d1, .slice B2 m2 d2, .bool t2, .slice B3 m3 d3, .slice B4 m4 d4] T (0, 0))) (hw : w' = ((((((w.setCell ⟨b, 0, none⟩ (.bool s1)).setCell ⟨b, 1, none⟩ (.slice A1 n1 c1)).setCell ⟨b, 2, none⟩ (.slice A2 n2 c2)).setCell ⟨b, 3, none⟩ (.bool s2)).setCell ⟨b, 4, none⟩ (.slice A3 n3 c3)).setCell ⟨b, 5, none⟩ (.slice A4 n4 c4))) :
    w'.heap[b]? = some (.cells #[.bool s1, .slice A1 n1 c1, .slice A2 n2 c2, .bool s2, .slice A3 n3 c3, .slice A4 n4 c4] T (0, 0)) ∧ (∀ (n : Nat) (o : Obj), n ≠ b → w.heap[n]? = some o → w'.heap[n]? = some o) ∧ Live w w' ∧ (∀ (N : Nat) (wB : World), N ≤ b → Below N wB w → Below N wB w') := by
  have g1 := heap_setCell_same w b 0 _ _ (.bool s1) L
  have g2 := heap_setCell_same _ b 1 _ _ (.slice A1 n1 c1) g1
  have g3 := heap_setCell_same _ b 2 _ _ (.slice A2 n2 c2) g2
  have g4 := heap_setCell_same _ b 3 _ _ (.bool s2) g3
  have g5 := heap_setCell_same _ b 4 _ _ (.slice A3 n3 c3) g4
  have g6 := heap_setCell_same _ b 5 _ _ (.slice A4 n4 c4) g5
  have k0 : Kept 6 T w b w := Kept.start rfl plain6v L
  have k1 := k0.set (i := 0) (bool_plain s1)
  have k2 := k1.set (i := 1) (slice_plain A1 n1 c1)
  have k3 := k2.set (i := 2) (slice_plain A2 n2 c2)
  have k4 := k3.set (i := 3) (bool_plain s2)
  have k5 := k4.set (i := 4) (slice_plain A3 n3 c3)
  have S : Stay w w' := by rw [hw]; exact (((((((Stay.refl w).put k0).put k1).put k2).put k3).put k4).put k5)
  have R : ∀ v z, IsBig w v z → IsBig w' v z := fun v z hv => by rw [hw]; exact ((((((hv.other (i := 0) (u := .bool s1) L plain_row6).other (i := 1) (u := .slice A1 n1 c1) g1 plain_row6).other (i := 2) (u := .slice A2 n2 c2) g2 plain_row6).other (i := 3) (u := .bool s2) g3 plain_row6).other (i := 4) (u := .slice A3 n3 c3) g4 plain_row6).other (i := 5) (u := .slice A4 n4 c4) g5 plain_row6)
  refine ⟨by rw [hw, g6]; rfl, fun n o hne ho => by rw [hw, heap_setCell_other _ _ _ _ hne, heap_setCell_other _ _ _ _ hne, heap_setCell_other _ _ _ _ hne, heap_setCell_other _ _ _ _ hne, heap_setCell_other _ _ _ _ hne, heap_setCell_other _ _ _ _ hne]; exact ho, ⟨S, R⟩, fun N wB hN hB => ?_⟩
  rw [hw]; exact ((((((hB.setCell (p := ⟨b, 0, none⟩) hN _).setCell (p := ⟨b, 1, none⟩) hN _).setCell (p := ⟨b, 2, none⟩) hN _).setCell (p := ⟨b, 3, none⟩) hN _).setCell (p := ⟨b, 4, none⟩) hN _).setCell (p := ⟨b, 5, none⟩) hN _)

set_option maxRecDepth 100000 in
set_option maxHeartbeats 8000000 in
theorem both_any {w : World} {s : ByteArray} {mx : Int} {q : Rat} (hq : (parseV s).1 = q) (hs : s.size ≤ 1048576) (hM : w.cell? ⟨3, 0, none⟩ = some (.int .i64 mx)) :
    Calls Tryz.prog 22 #[.string s] w (BothRet w q) := by
  obtain ⟨c, hc⟩ : ∃ c, (parseV s).2 = c := ⟨_, rfl⟩
  obtain ⟨w1, hw1⟩ : ∃ u, u = (w.alloc (.cells #[.bool false, .slice none 0 0, .slice none 0 0] 25)).alloc (.cells #[.bool false, .slice none 0 0, .slice none 0 0] 33) := ⟨_, rfl⟩
  obtain ⟨b1, g1, g2⟩ := news2 w (.cells #[.bool false, .slice none 0 0, .slice none 0 0] 25) (.cells #[.bool false, .slice none 0 0, .slice none 0 0] 33)
  rw [← hw1] at b1 g1 g2
  replace b1 := hid b1
  replace g1 := hid g1
  replace g2 := hid g2
  replace hq := hid hq
  replace hc := hid hc
  replace hM := hid hM
  replace hs := hid hs
  go_enter Tryz.func22, Tryz.ntmps22
  go_upto_region 1 with fail
  rw [← hw1]
  clear hw1
  have HX := hid (exact_parse hq.out hc.out (cell_keep hM.out b1.out))
  go_wp2_with fail
  refine (HX.out).mono ?_
  rintro e w2 ⟨v2, rfl, hv2, b2⟩
  obtain ⟨C1, j1, C2, j2, rfl, -, -⟩ := id hv2.opened
  replace hv2 := hid hv2
  replace b2 := hid b2
  clear HX
  go_upto_region 2 with fail
  obtain ⟨w3, hw3⟩ : ∃ u, u = w2.alloc (.cells #[.bool (decide (q.num < 0)), .slice C1 (Vx.len q.num.natAbs) j1, .slice C2 (Vx.len (below q.den)) j2] 25) := ⟨_, rfl⟩
  have b3 : Hid (Below w2.heap.size w2 w3) := by rw [hw3]; exact (Below.refl _ _).alloc (Nat.le_refl _) _
  have L3 : Hid (w3.heap[w2.heap.size]? = some (.cells #[.bool (decide (q.num < 0)), .slice C1 (Vx.len q.num.natAbs) j1, .slice C2 (Vx.len (below q.den)) j2] 25 (0, 0))) := by rw [hw3]; exact heap_alloc_new w2 _
  rw [← hw3]
  clear hw3
  have HX := hid (ref_parse (w := w3) hq.out hc.out hs.out)
  go_wp2_with fail
  refine (HX.out).mono ?_
  rintro e w4 ⟨v4, rfl, hv4, b4⟩
  obtain ⟨C3, j3, C4, j4, rfl, -, -⟩ := id hv4.opened
  replace hv4 := hid hv4
  replace b4 := hid b4
  clear HX
  go_upto_region 3 with fail
  obtain ⟨w5, hw5⟩ : ∃ u, u = w4.alloc (.cells #[.bool (decide (q.num < 0)), .slice C3 (len q.num.natAbs) j3, .slice C4 (len q.den) j4] 33) := ⟨_, rfl⟩
  have b5 : Hid (Below w4.heap.size w4 w5) := by rw [hw5]; exact (Below.refl _ _).alloc (Nat.le_refl _) _
  have L5 : Hid (w5.heap[w4.heap.size]? = some (.cells #[.bool (decide (q.num < 0)), .slice C3 (len q.num.natAbs) j3, .slice C4 (len q.den) j4] 33 (0, 0))) := by rw [hw5]; exact heap_alloc_new w4 _
  rw [← hw5]
  clear hw5
  have hg : w5.heap[w2.heap.size]? = some (.cells #[.bool (decide (q.num < 0)), .slice C1 (Vx.len q.num.natAbs) j1, .slice C2 (Vx.len (below q.den)) j2] 25 (0, 0)) := ((Below.step b4.out b5.out).block _ (Array.getElem?_eq_some_iff.1 L3.out).1).trans L3.out
  obtain ⟨z_x_0, z_x_1, z_x_2⟩ := cells3 hg
  clear hg
  have hg : w5.heap[w4.heap.size]? = some (.cells #[.bool (decide (q.num < 0)), .slice C3 (len q.num.natAbs) j3, .slice C4 (len q.den) j4] 33 (0, 0)) := ((Below.refl _ w5).block _ (Array.getElem?_eq_some_iff.1 L5.out).1).trans L5.out
  obtain ⟨z_p_0, z_p_1, z_p_2⟩ := cells3 hg
  clear hg
  have hp0 := hid (hv4.out.keep b5.out)
  have hx0 := hid (hv2.out.keep (Below.step (Below.step b3.out b4.out) b5.out))
  have G1 : Hid (w5.heap[w.heap.size]? = _) := hid (at_keep g1.out (Below.step (Below.step (Below.step b2.out b3.out) b4.out) b5.out))
  have G2 : Hid (w5.heap[w.heap.size + 1]? = _) := hid (at_keep g2.out (Below.step (Below.step (Below.step b2.out b3.out) b4.out) b5.out))
  have HB := hid (Below.step (Below.step (Below.step (Below.step b1.out b2.out) b3.out) b4.out) b5.out)
  obtain ⟨X, hX⟩ : ∃ n, w2.heap.size = n := ⟨_, rfl⟩
  obtain ⟨Y, hY⟩ : ∃ n, w4.heap.size = n := ⟨_, rfl⟩
  have hlX : w.heap.size + 1 < X := by rw [← hX]; have := at_lt (at_keep g2.out b2.out); omega
  have hlY : w.heap.size + 1 < Y := by rw [← hY]; have := at_lt (at_keep g2.out (Below.step (Below.step b2.out b3.out) b4.out)); omega
  have GX : Hid (w5.heap[X]? = some (.cells #[.bool (decide (q.num < 0)), .slice C1 (Vx.len q.num.natAbs) j1, .slice C2 (Vx.len (below q.den)) j2] 25 (0, 0))) := hid (by rw [← hX]; exact at_keep L3.out (Below.step b4.out b5.out))
  have GY : Hid (w5.heap[Y]? = some (.cells #[.bool (decide (q.num < 0)), .slice C3 (len q.num.natAbs) j3, .slice C4 (len q.den) j4] 33 (0, 0))) := hid (by rw [← hY]; exact L5.out)
  rw [hX] at z_x_0 z_x_1 z_x_2 ⊢
  rw [hY] at z_p_0 z_p_1 z_p_2 ⊢
  clear b1 b2 b3 b4 b5 L3 L5 g1 g2 hX hY
  go_wp2_with fail
  refine wp_region_held_drew (S := (fun w' => (w'.cell? ⟨X, 0, none⟩ = w5.cell? ⟨X, 0, none⟩ ∧ w'.cell? ⟨X, 1, none⟩ = w5.cell? ⟨X, 1, none⟩ ∧ w'.cell? ⟨X, 2, none⟩ = w5.cell? ⟨X, 2, none⟩ ∧ w'.cell? ⟨Y, 0, none⟩ = w5.cell? ⟨Y, 0, none⟩ ∧ w'.cell? ⟨Y, 1, none⟩ = w5.cell? ⟨Y, 1, none⟩ ∧ w'.cell? ⟨Y, 2, none⟩ = w5.cell? ⟨Y, 2, none⟩))) (by kernel_rfl) ?_ (fun hHeld => ?_)
  · (try dsimp only)
    exact ⟨rfl, rfl, rfl, rfl, rfl, rfl⟩
  obtain ⟨u0, hu0⟩ : ∃ u, u = w5.drew := ⟨_, rfl⟩
  have bd : Below w5.heap.size w5 u0 := by rw [hu0]; exact ⟨rfl, rfl, rfl, Nat.le_refl _, fun _ _ => rfl⟩
  rw [← hu0] at hHeld ⊢
  clear hu0
  have hx1 := hid (hx0.out.keep bd)
  have hp1 := hid (hp0.out.keep bd)
  have D1 := hid (at_keep G1.out bd)
  have D2 := hid (at_keep G2.out bd)
  have DX := hid (at_keep GX.out bd)
  have DY := hid (at_keep GY.out bd)
  have DB := hid (chain HB.out bd)
  clear bd hx0 hp0 G1 G2 HB
  refine tk (i := 0) (h := ?_)
  try simp only [Act.put, lt, ly, lu]
  refine tk (i := 1) (h := ?_)
  try simp only [Act.put, lt, ly, lu]
  refine wpAnyH_ready (rs := [2]) (by kernel_rfl) (by simp) (AllReadyH.cons (o := ?oq3) ?eq3 ?kq3 AllReadyH.nil)
  case eq3 => simp only [lg, lz, ls]; rfl
  intro K hK
  have q0 : u0.cell? ⟨w.heap.size, 0, none⟩ = some (.bool false) := cell_of_row _ _ _ _ _ _ D1.out
  have F0 : u0.frozen? ⟨w.heap.size, 0, none⟩ = false := frozen_of_row u0 (w.heap.size) 0 _ _ D1.out
  have q1 : u0.cell? ⟨w.heap.size, 1, none⟩ = some (.slice none 0 0) := cell_of_row _ _ _ _ _ _ D1.out
  have F1 : u0.frozen? ⟨w.heap.size, 1, none⟩ = false := frozen_of_row u0 (w.heap.size) 1 _ _ D1.out
  have q2 : u0.cell? ⟨w.heap.size, 2, none⟩ = some (.slice none 0 0) := cell_of_row _ _ _ _ _ _ D1.out
  have F2 : u0.frozen? ⟨w.heap.size, 2, none⟩ = false := frozen_of_row u0 (w.heap.size) 2 _ _ D1.out
  go_simp
  clear q0 F0 q1 F1 q2 F2
  obtain ⟨u1, hw⟩ : ∃ z, z = (((u0.setCell ⟨w.heap.size, 0, none⟩ (.bool (decide (q.num < 0)))).setCell ⟨w.heap.size, 1, none⟩ (.slice C1 (Vx.len q.num.natAbs) j1)).setCell ⟨w.heap.size, 2, none⟩ (.slice C2 (Vx.len (below q.den)) j2)) := ⟨_, rfl⟩
  obtain ⟨E_u1, OT, LV, BL⟩ := stored3 D1.out hw
  rw [← hw]
  clear hw
  replace E_u1 := hid E_u1
  replace D2 := hid (OT _ _ (by omega) D2.out)
  replace DX := hid (OT _ _ (by omega) DX.out)
  replace DY := hid (OT _ _ (by omega) DY.out)
  replace DB := hid (BL _ _ (by omega) DB.out)
  replace hx1 := hid (LV.num hx1.out)
  replace hp1 := hid (LV.rat hp1.out)
  have QX := cells3 DX.out
  have QX0 := cells3 GX.out
  have QY := cells3 DY.out
  have QY0 := cells3 GY.out
  refine hK.out _ _ ?_ (fun hHeld2 => ?_)
  · (try dsimp only)
    exact ⟨QX.1.trans QX0.1.symm, QX.2.1.trans QX0.2.1.symm, QX.2.2.trans QX0.2.2.symm, QY.1.trans QY0.1.symm, QY.2.1.trans QY0.2.1.symm, QY.2.2.trans QY0.2.2.symm⟩
  clear hK K hHeld OT LV BL QX QX0 QY QY0
  try simp only [Act.put, lt, ly, lu]
  have hHeld := hHeld2
  clear hHeld2
  refine wpAnyH_ready (rs := [3]) (by kernel_rfl) (by simp) (AllReadyH.cons (o := ?oq4) ?eq4 ?kq4 AllReadyH.nil)
  case eq4 => simp only [lg, lz, ls]; rfl
  intro K hK
  have q0 : u1.cell? ⟨w.heap.size + 1, 0, none⟩ = some (.bool false) := cell_of_row _ _ _ _ _ _ D2.out
  have F0 : u1.frozen? ⟨w.heap.size + 1, 0, none⟩ = false := frozen_of_row u1 (w.heap.size + 1) 0 _ _ D2.out
  have q1 : u1.cell? ⟨w.heap.size + 1, 1, none⟩ = some (.slice none 0 0) := cell_of_row _ _ _ _ _ _ D2.out
  have F1 : u1.frozen? ⟨w.heap.size + 1, 1, none⟩ = false := frozen_of_row u1 (w.heap.size + 1) 1 _ _ D2.out
  have q2 : u1.cell? ⟨w.heap.size + 1, 2, none⟩ = some (.slice none 0 0) := cell_of_row _ _ _ _ _ _ D2.out
  have F2 : u1.frozen? ⟨w.heap.size + 1, 2, none⟩ = false := frozen_of_row u1 (w.heap.size + 1) 2 _ _ D2.out
  go_simp
  clear q0 F0 q1 F1 q2 F2
  obtain ⟨u2, hw⟩ : ∃ z, z = (((u1.setCell ⟨w.heap.size + 1, 0, none⟩ (.bool (decide (q.num < 0)))).setCell ⟨w.heap.size + 1, 1, none⟩ (.slice C3 (len q.num.natAbs) j3)).setCell ⟨w.heap.size + 1, 2, none⟩ (.slice C4 (len q.den) j4)) := ⟨_, rfl⟩
  obtain ⟨E_u2, OT, LV, BL⟩ := stored3 D2.out hw
  rw [← hw]
  clear hw
  replace E_u2 := hid E_u2
  replace E_u1 := hid (OT _ _ (by omega) E_u1.out)
  replace DX := hid (OT _ _ (by omega) DX.out)
  replace DY := hid (OT _ _ (by omega) DY.out)
  replace DB := hid (BL _ _ (by omega) DB.out)
  replace hx1 := hid (LV.num hx1.out)
  replace hp1 := hid (LV.rat hp1.out)
  have QX := cells3 DX.out
  have QX0 := cells3 GX.out
  have QY := cells3 DY.out
  have QY0 := cells3 GY.out
  refine hK.out _ _ ?_ (fun hHeld2 => ?_)
  · (try dsimp only)
    exact ⟨QX.1.trans QX0.1.symm, QX.2.1.trans QX0.2.1.symm, QX.2.2.trans QX0.2.2.symm, QY.1.trans QY0.1.symm, QY.2.1.trans QY0.2.1.symm, QY.2.2.trans QY0.2.2.symm⟩
  clear hK K hHeld OT LV BL QX QX0 QY QY0
  try simp only [Act.put, lt, ly, lu]
  have hHeld := hHeld2
  clear hHeld2
  refine wpAnyH_done (by kernel_rfl) ?_ _
  clear hHeld
  obtain ⟨p0, p1, p2⟩ := cells3 E_u1.out
  obtain ⟨r0, r1, r2⟩ := cells3 E_u2.out
  clear z_x_0 z_x_1 z_x_2 z_p_0 z_p_1 z_p_2
  go_wp2_with fail
  refine bodyPost_ret (v := .tuple #[.agg #[.bool (decide (q.num < 0)), .slice C1 (Vx.len q.num.natAbs) j1, .slice C2 (Vx.len (below q.den)) j2], .agg #[.bool (decide (q.num < 0)), .slice C3 (len q.num.natAbs) j3, .slice C4 (len q.den) j4]]) ?_ rfl ⟨_, _, rfl, hx1.out, hp1.out, DB.out⟩
  simp [results, Tryz.results22, go_sem, p0, p1, p2, r0, r1, r2]
end Go.Proofs.YtfppimacnhcflaaGreatDoor.Rf
