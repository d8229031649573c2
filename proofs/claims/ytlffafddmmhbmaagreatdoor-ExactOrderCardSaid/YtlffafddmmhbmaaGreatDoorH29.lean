/-
  Contracts of the functions that the law calls, for every input (PairO BoxI BoxJ BoxK).
-/
import Derived.Test.YtlffafddmmhbmaaGreatDoorH28
import Derived.Lib.SmallJoins
import Derived.Carry
import Derived.Test.YtlffafddmmhbmaaGreatDoorH26
import Derived.Test.YtlffafddmmhbmaaGreatDoorH22
set_option linter.all false
namespace Go.Proofs.YtlffafddmmhbmaaGreatDoor
open Go.ChangeShapes Go.WideShapes Go.ChangeAt Go.RowKit
open Go.ChangeMaps (open_string shut_string)
theorem laidOut : laidOutB Tryz.prog = true := by kernel_rfl
theorem array9 {α : Type} {cs : Array α} (h : cs.size = 9) : ∃ c0 c1 c2 c3 c4 c5 c6 c7 c8, cs = #[c0, c1, c2, c3, c4, c5, c6, c7, c8] := by
  obtain ⟨l⟩ := cs
  match l, h with
  | [c0, c1, c2, c3, c4, c5, c6, c7, c8], _ => exact ⟨c0, c1, c2, c3, c4, c5, c6, c7, c8, rfl⟩
section
variable {H : Type} {enc : TypeId × Value → H} {w : World} {base : Nat} {spare : Nat → Bool} {held : Bool}
set_option maxRecDepth 100000 in
theorem ends_open {n : Nat} {c d : Value} {y : DataW H × List MemPlace} (h : DataW.trod enc Tryz.prog w base spare held n 48 [c, d] = some y) : ∃ s t : ByteArray, c = .string s ∧ d = .string t := by
  obtain ⟨y0, y1, k, -, -, h0, h1⟩ := trod_struct2 Tryz.underlying48 h
  have e0 : DataW.trod enc Tryz.prog w base spare held k 9 [c] = some y0 := h0
  have e1 : DataW.trod enc Tryz.prog w base spare held k 9 [d] = some y1 := h1
  obtain ⟨s, es, -, -⟩ := DataW.trod_string (t := 9) Tryz.underlying9 e0
  obtain ⟨t, et, -, -⟩ := DataW.trod_string (t := 9) Tryz.underlying9 e1
  simp only [List.cons.injEq, and_true] at es et
  exact ⟨s, t, es, et⟩
set_option maxRecDepth 100000 in
theorem byte_open {n : Nat} {c : Value} {y : DataW H × List MemPlace} (h : DataW.trod enc Tryz.prog w base spare held n 5 [c] = some y) : ∃ m : Nat, c = .int .u8 (m : Nat) ∧ m ≤ 255 := by
  obtain ⟨m, e, -, wm⟩ := DataW.trod_int (t := 5) Tryz.underlying5 h
  have hm : 0 ≤ m ∧ m ≤ 255 := by simpa [Lit.wf, IntKind.min, IntKind.max, IntKind.signed, IntKind.bits] using wm
  simp only [List.cons.injEq, and_true] at e
  exact ⟨m.toNat, by rw [e, Int.toNat_of_nonneg hm.1], by omega⟩
theorem some_of {α : Type} {x : Option α} {l : List α} {i : Nat} (h : x = l[i]?) (hi : i < l.length) : ∃ y, x = some y := ⟨l[i], by rw [h, List.getElem?_eq_getElem hi]⟩
set_option maxRecDepth 100000 in
theorem pair_open {r : Reach} {b0 : Nat} {v : Value} {d : DataW H} {p : List MemPlace} (hv : Value.okWide Tryz.prog w r b0 50 v) (h : DataW.Trod enc Tryz.prog w base spare held 50 v d p) :
    ∃ (s1 s2 s3 s4 s5 s6 : ByteArray) (m n k : Nat), v = .agg #[.string s1, .string s2, .string s3, .string s4, .string s5, .string s6, .int .u8 (m : Nat), .int .u8 (n : Nat), .int .u8 (k : Nat)] ∧ m ≤ 255 ∧ n ≤ 255 ∧ k ≤ 255 := by
  obtain ⟨cs, rfl, hsz⟩ := okWide_struct Tryz.underlying50 hv
  obtain ⟨c0, c1, c2, c3, c4, c5, c6, c7, c8, rfl⟩ := array9 (hsz.trans (by kernel_rfl))
  obtain ⟨fuel, hf⟩ := h
  obtain ⟨xs, n, -, -, -, hlen, hff⟩ := DataW.trod_struct Tryz.underlying50 hf
  have hl : xs.length = 6 := hlen
  obtain ⟨y0, h0⟩ := some_of (hff 0 _ rfl) (by omega)
  obtain ⟨y1, h1⟩ := some_of (hff 1 _ rfl) (by omega)
  obtain ⟨y2, h2⟩ := some_of (hff 2 _ rfl) (by omega)
  obtain ⟨y3, h3⟩ := some_of (hff 3 _ rfl) (by omega)
  obtain ⟨y4, h4⟩ := some_of (hff 4 _ rfl) (by omega)
  obtain ⟨y5, h5⟩ := some_of (hff 5 _ rfl) (by omega)
  obtain ⟨s1, s2, rfl, rfl⟩ := ends_open (c := c0) (d := c1) h0
  obtain ⟨s3, s4, rfl, rfl⟩ := ends_open (c := c2) (d := c3) h1
  obtain ⟨s5, s6, rfl, rfl⟩ := ends_open (c := c4) (d := c5) h2
  obtain ⟨m, rfl, hm⟩ := byte_open (c := c6) h3
  obtain ⟨n', rfl, hn⟩ := byte_open (c := c7) h4
  obtain ⟨k, rfl, hk⟩ := byte_open (c := c8) h5
  exact ⟨s1, s2, s3, s4, s5, s6, m, n', k, rfl, hm, hn, hk⟩
end
end Go.Proofs.YtlffafddmmhbmaaGreatDoor
namespace Go.Proofs.YtlffafddmmhbmaaGreatDoor
open Go.RowKit
open Vx

set_option maxRecDepth 100000 in
set_option maxHeartbeats 2000000 in
theorem boxAdd_any {w : World} {v0 : Value} {v1 : Value} {a b : Rat} {c d : Rat} (hv : IsBox w v0 a b) (hu : IsBox w v1 c d) (sa : siz a ≤ 34359738368) (sb : siz b ≤ 34359738368) (sc : siz c ≤ 34359738368) (sd : siz d ≤ 34359738368) :
    Calls Tryz.prog 33 #[v0, v1] w (BoxRet w (a + c) (b + d)) := by
  obtain ⟨A1, c1, A2, c2, A3, c3, A4, c4, rfl, ha, hb⟩ := hv.opened
  obtain ⟨A5, c5, A6, c6, A7, c7, A8, c8, rfl, hc, hd⟩ := hu.opened
  obtain ⟨wB, hwB⟩ : ∃ u, u = ((w.alloc (.cells #[.bool (decide (a.num < 0)), .slice A1 (len a.num.natAbs) c1, .slice A2 (len (below a.den)) c2, .bool (decide (b.num < 0)), .slice A3 (len b.num.natAbs) c3, .slice A4 (len (below b.den)) c4] 53)).alloc (.cells #[.bool (decide (c.num < 0)), .slice A5 (len c.num.natAbs) c5, .slice A6 (len (below c.den)) c6, .bool (decide (d.num < 0)), .slice A7 (len d.num.natAbs) c7, .slice A8 (len (below d.den)) c8] 53)).alloc (.cells #[.bool false, .slice none 0 0, .slice none 0 0, .bool false, .slice none 0 0, .slice none 0 0] 53) := ⟨_, rfl⟩
  obtain ⟨b0, g0, g1, g2⟩ := news3 w (.cells #[.bool (decide (a.num < 0)), .slice A1 (len a.num.natAbs) c1, .slice A2 (len (below a.den)) c2, .bool (decide (b.num < 0)), .slice A3 (len b.num.natAbs) c3, .slice A4 (len (below b.den)) c4] 53) (.cells #[.bool (decide (c.num < 0)), .slice A5 (len c.num.natAbs) c5, .slice A6 (len (below c.den)) c6, .bool (decide (d.num < 0)), .slice A7 (len d.num.natAbs) c7, .slice A8 (len (below d.den)) c8] 53) (.cells #[.bool false, .slice none 0 0, .slice none 0 0, .bool false, .slice none 0 0, .slice none 0 0] 53)
  rw [← hwB] at b0 g0 g1 g2
  have k0 : wB.cell? ⟨w.heap.size, 0, none⟩ = some (.bool (decide (a.num < 0))) := cell_of_row _ _ _ _ _ _ g0
  have k1 : wB.cell? ⟨w.heap.size, 1, none⟩ = some (.slice A1 (len a.num.natAbs) c1) := cell_of_row _ _ _ _ _ _ g0
  have k2 : wB.cell? ⟨w.heap.size, 2, none⟩ = some (.slice A2 (len (below a.den)) c2) := cell_of_row _ _ _ _ _ _ g0
  have k3 : wB.cell? ⟨w.heap.size, 3, none⟩ = some (.bool (decide (b.num < 0))) := cell_of_row _ _ _ _ _ _ g0
  have k4 : wB.cell? ⟨w.heap.size, 4, none⟩ = some (.slice A3 (len b.num.natAbs) c3) := cell_of_row _ _ _ _ _ _ g0
  have k5 : wB.cell? ⟨w.heap.size, 5, none⟩ = some (.slice A4 (len (below b.den)) c4) := cell_of_row _ _ _ _ _ _ g0
  have k6 : wB.cell? ⟨w.heap.size + 1, 0, none⟩ = some (.bool (decide (c.num < 0))) := cell_of_row _ _ _ _ _ _ g1
  have k7 : wB.cell? ⟨w.heap.size + 1, 1, none⟩ = some (.slice A5 (len c.num.natAbs) c5) := cell_of_row _ _ _ _ _ _ g1
  have k8 : wB.cell? ⟨w.heap.size + 1, 2, none⟩ = some (.slice A6 (len (below c.den)) c6) := cell_of_row _ _ _ _ _ _ g1
  have k9 : wB.cell? ⟨w.heap.size + 1, 3, none⟩ = some (.bool (decide (d.num < 0))) := cell_of_row _ _ _ _ _ _ g1
  have k10 : wB.cell? ⟨w.heap.size + 1, 4, none⟩ = some (.slice A7 (len d.num.natAbs) c7) := cell_of_row _ _ _ _ _ _ g1
  have k11 : wB.cell? ⟨w.heap.size + 1, 5, none⟩ = some (.slice A8 (len (below d.den)) c8) := cell_of_row _ _ _ _ _ _ g1
  have HK0 := Lib.hid (Kept.start (T := 53) rfl plain6 g2)
  have HB0 := Lib.hid b0
  have hlt1 : w.heap.size < w.heap.size + 2 := by omega
  have hlt2 : w.heap.size + 1 < w.heap.size + 2 := by omega
  clear g0 g1 g2 b0
  obtain ⟨qq, eq⟩ : ∃ z : Rat, z = a + c := ⟨_, rfl⟩
  obtain ⟨rr, er⟩ : ∃ z : Rat, z = b + d := ⟨_, rfl⟩
  have HX := fun (w' : World) (hk : Held6 wB (w.heap.size + 2) wB w') => Lib.hid (numAdd_any (hk.stay.num (ha.keep HB0.out)) (hk.stay.num (hc.keep HB0.out)) sa sc)
  have HY := fun (w' : World) (hk : Held6 wB (w.heap.size + 2) wB w') => Lib.hid (numAdd_any (hk.stay.num (hb.keep HB0.out)) (hk.stay.num (hd.keep HB0.out)) sb sd)
  rw [← eq] at HX ⊢
  rw [← er] at HY ⊢
  have H0 := HK0.out.begin6
  have H0' := H0
  unfold Held6 at H0'
  clear eq er hv ha hb hu hc hd sa sb sc sd
  go_enter Tryz.func33, Tryz.ntmps33
  go_upto_region 1 with fail
  rw [← hwB]
  clear hwB
  go_wp2_with fail
  go_region_held3 (fun w' => (∀ b o, b < w.heap.size + 2 → w'.cell? ⟨b, o, none⟩ = wB.cell? ⟨b, o, none⟩) ∧ w'.cell? ⟨w.heap.size + 2, 0, none⟩ = some (cur w' ⟨w.heap.size + 2, 0, none⟩) ∧ w'.cell? ⟨w.heap.size + 2, 1, none⟩ = some (cur w' ⟨w.heap.size + 2, 1, none⟩) ∧ w'.cell? ⟨w.heap.size + 2, 2, none⟩ = some (cur w' ⟨w.heap.size + 2, 2, none⟩) ∧ w'.cell? ⟨w.heap.size + 2, 3, none⟩ = some (cur w' ⟨w.heap.size + 2, 3, none⟩) ∧ w'.cell? ⟨w.heap.size + 2, 4, none⟩ = some (cur w' ⟨w.heap.size + 2, 4, none⟩) ∧ w'.cell? ⟨w.heap.size + 2, 5, none⟩ = some (cur w' ⟨w.heap.size + 2, 5, none⟩) ∧ w'.frozen? ⟨w.heap.size + 2, 0, none⟩ = false ∧ w'.frozen? ⟨w.heap.size + 2, 1, none⟩ = false ∧ w'.frozen? ⟨w.heap.size + 2, 2, none⟩ = false ∧ w'.frozen? ⟨w.heap.size + 2, 3, none⟩ = false ∧ w'.frozen? ⟨w.heap.size + 2, 4, none⟩ = false ∧ w'.frozen? ⟨w.heap.size + 2, 5, none⟩ = false ∧ Kept 6 53 wB (w.heap.size + 2) w' ∧ Stay wB w')
    (first | with_reducible exact H0' | with_reducible exact hk1' | with_reducible exact hk2' | exact hk2.store)
    (first | (go_at_call 14; refine ((HY _ hk1).out).mono ?_; rintro e w2 ⟨v2, rfl, hv2, hbl2⟩; obtain ⟨C3, j3, C4, j4, rfl, -, -⟩ := id hv2.opened; have hk2 := hk1.call hbl2; have hk2' := hk2; unfold Held6 at hk2') | (go_at_call 14; refine ((HX _ H0).out).mono ?_; rintro e w1 ⟨v1, rfl, hv1, hbl1⟩; obtain ⟨C1, j1, C2, j2, rfl, -, -⟩ := id hv1.opened; have hk1 := H0.call hbl1; have hk1' := hk1; unfold Held6 at hk1'))
  rename_i hHl
  clear hHl
  have hv1' := hv1.keep hbl2
  have HD := hk2.done (p := qq) (q := rr) (s1 := decide (qq.num < 0)) (A1 := C1) (n1 := len qq.num.natAbs) (c1 := j1) (A2 := C2) (n2 := len (below qq.den)) (c2 := j2) (s2 := decide (rr.num < 0)) (A3 := C3) (n3 := len rr.num.natAbs) (c3 := j3) (A4 := C4) (n4 := len (below rr.den)) (c4 := j4) (hv1') (hv2)
  obtain ⟨d1, d2, d3⟩ := HD
  have r0 := cell_of_row _ _ 0 _ _ _ d3
  have r1 := cell_of_row _ _ 1 _ _ _ d3
  have r2 := cell_of_row _ _ 2 _ _ _ d3
  have r3 := cell_of_row _ _ 3 _ _ _ d3
  have r4 := cell_of_row _ _ 4 _ _ _ d3
  have r5 := cell_of_row _ _ 5 _ _ _ d3
  simp only [List.getElem?_toArray, List.getElem?_cons_zero, List.getElem?_cons_succ] at r0 r1 r2 r3 r4 r5
  have HD := Lib.hid (And.intro d1 d2)
  clear d1 d2 d3
  go_wp2_with fail
  refine bodyPost_ret (v := .agg #[.bool (decide (qq.num < 0)), .slice (C1) (len qq.num.natAbs) (j1), .slice (C2) (len (below qq.den)) (j2), .bool (decide (rr.num < 0)), .slice (C3) (len rr.num.natAbs) (j3), .slice (C4) (len (below rr.den)) (j4)]) ?_ rfl ⟨_, rfl, HD.out.1, below_to HB0.out (by omega) HD.out.2⟩
  simp [results, Tryz.results33, go_sem, r0, r1, r2, r3, r4, r5]

set_option maxRecDepth 100000 in
set_option maxHeartbeats 2000000 in
theorem boxSub_any {w : World} {v0 : Value} {v1 : Value} {a b : Rat} {c d : Rat} (hv : IsBox w v0 a b) (hu : IsBox w v1 c d) (sa : siz a ≤ 34359738368) (sb : siz b ≤ 34359738368) (sc : siz c ≤ 34359738368) (sd : siz d ≤ 34359738368) :
    Calls Tryz.prog 34 #[v0, v1] w (BoxRet w (a - d) (b - c)) := by
  obtain ⟨A1, c1, A2, c2, A3, c3, A4, c4, rfl, ha, hb⟩ := hv.opened
  obtain ⟨A5, c5, A6, c6, A7, c7, A8, c8, rfl, hc, hd⟩ := hu.opened
  obtain ⟨wB, hwB⟩ : ∃ u, u = ((w.alloc (.cells #[.bool (decide (a.num < 0)), .slice A1 (len a.num.natAbs) c1, .slice A2 (len (below a.den)) c2, .bool (decide (b.num < 0)), .slice A3 (len b.num.natAbs) c3, .slice A4 (len (below b.den)) c4] 53)).alloc (.cells #[.bool (decide (c.num < 0)), .slice A5 (len c.num.natAbs) c5, .slice A6 (len (below c.den)) c6, .bool (decide (d.num < 0)), .slice A7 (len d.num.natAbs) c7, .slice A8 (len (below d.den)) c8] 53)).alloc (.cells #[.bool false, .slice none 0 0, .slice none 0 0, .bool false, .slice none 0 0, .slice none 0 0] 53) := ⟨_, rfl⟩
  obtain ⟨b0, g0, g1, g2⟩ := news3 w (.cells #[.bool (decide (a.num < 0)), .slice A1 (len a.num.natAbs) c1, .slice A2 (len (below a.den)) c2, .bool (decide (b.num < 0)), .slice A3 (len b.num.natAbs) c3, .slice A4 (len (below b.den)) c4] 53) (.cells #[.bool (decide (c.num < 0)), .slice A5 (len c.num.natAbs) c5, .slice A6 (len (below c.den)) c6, .bool (decide (d.num < 0)), .slice A7 (len d.num.natAbs) c7, .slice A8 (len (below d.den)) c8] 53) (.cells #[.bool false, .slice none 0 0, .slice none 0 0, .bool false, .slice none 0 0, .slice none 0 0] 53)
  rw [← hwB] at b0 g0 g1 g2
  have k0 : wB.cell? ⟨w.heap.size, 0, none⟩ = some (.bool (decide (a.num < 0))) := cell_of_row _ _ _ _ _ _ g0
  have k1 : wB.cell? ⟨w.heap.size, 1, none⟩ = some (.slice A1 (len a.num.natAbs) c1) := cell_of_row _ _ _ _ _ _ g0
  have k2 : wB.cell? ⟨w.heap.size, 2, none⟩ = some (.slice A2 (len (below a.den)) c2) := cell_of_row _ _ _ _ _ _ g0
  have k3 : wB.cell? ⟨w.heap.size, 3, none⟩ = some (.bool (decide (b.num < 0))) := cell_of_row _ _ _ _ _ _ g0
  have k4 : wB.cell? ⟨w.heap.size, 4, none⟩ = some (.slice A3 (len b.num.natAbs) c3) := cell_of_row _ _ _ _ _ _ g0
  have k5 : wB.cell? ⟨w.heap.size, 5, none⟩ = some (.slice A4 (len (below b.den)) c4) := cell_of_row _ _ _ _ _ _ g0
  have k6 : wB.cell? ⟨w.heap.size + 1, 0, none⟩ = some (.bool (decide (c.num < 0))) := cell_of_row _ _ _ _ _ _ g1
  have k7 : wB.cell? ⟨w.heap.size + 1, 1, none⟩ = some (.slice A5 (len c.num.natAbs) c5) := cell_of_row _ _ _ _ _ _ g1
  have k8 : wB.cell? ⟨w.heap.size + 1, 2, none⟩ = some (.slice A6 (len (below c.den)) c6) := cell_of_row _ _ _ _ _ _ g1
  have k9 : wB.cell? ⟨w.heap.size + 1, 3, none⟩ = some (.bool (decide (d.num < 0))) := cell_of_row _ _ _ _ _ _ g1
  have k10 : wB.cell? ⟨w.heap.size + 1, 4, none⟩ = some (.slice A7 (len d.num.natAbs) c7) := cell_of_row _ _ _ _ _ _ g1
  have k11 : wB.cell? ⟨w.heap.size + 1, 5, none⟩ = some (.slice A8 (len (below d.den)) c8) := cell_of_row _ _ _ _ _ _ g1
  have HK0 := Lib.hid (Kept.start (T := 53) rfl plain6 g2)
  have HB0 := Lib.hid b0
  have hlt1 : w.heap.size < w.heap.size + 2 := by omega
  have hlt2 : w.heap.size + 1 < w.heap.size + 2 := by omega
  clear g0 g1 g2 b0
  obtain ⟨qq, eq⟩ : ∃ z : Rat, z = a - d := ⟨_, rfl⟩
  obtain ⟨rr, er⟩ : ∃ z : Rat, z = b - c := ⟨_, rfl⟩
  have HX := fun (w' : World) (hk : Held6 wB (w.heap.size + 2) wB w') => Lib.hid (numSub_any (hk.stay.num (ha.keep HB0.out)) (hk.stay.num (hd.keep HB0.out)) sa sd)
  have HY := fun (w' : World) (hk : Held6 wB (w.heap.size + 2) wB w') => Lib.hid (numSub_any (hk.stay.num (hb.keep HB0.out)) (hk.stay.num (hc.keep HB0.out)) sb sc)
  rw [← eq] at HX ⊢
  rw [← er] at HY ⊢
  have H0 := HK0.out.begin6
  have H0' := H0
  unfold Held6 at H0'
  clear eq er hv ha hb hu hc hd sa sb sc sd
  go_enter Tryz.func34, Tryz.ntmps34
  go_upto_region 1 with fail
  rw [← hwB]
  clear hwB
  go_wp2_with fail
  go_region_held3 (fun w' => (∀ b o, b < w.heap.size + 2 → w'.cell? ⟨b, o, none⟩ = wB.cell? ⟨b, o, none⟩) ∧ w'.cell? ⟨w.heap.size + 2, 0, none⟩ = some (cur w' ⟨w.heap.size + 2, 0, none⟩) ∧ w'.cell? ⟨w.heap.size + 2, 1, none⟩ = some (cur w' ⟨w.heap.size + 2, 1, none⟩) ∧ w'.cell? ⟨w.heap.size + 2, 2, none⟩ = some (cur w' ⟨w.heap.size + 2, 2, none⟩) ∧ w'.cell? ⟨w.heap.size + 2, 3, none⟩ = some (cur w' ⟨w.heap.size + 2, 3, none⟩) ∧ w'.cell? ⟨w.heap.size + 2, 4, none⟩ = some (cur w' ⟨w.heap.size + 2, 4, none⟩) ∧ w'.cell? ⟨w.heap.size + 2, 5, none⟩ = some (cur w' ⟨w.heap.size + 2, 5, none⟩) ∧ w'.frozen? ⟨w.heap.size + 2, 0, none⟩ = false ∧ w'.frozen? ⟨w.heap.size + 2, 1, none⟩ = false ∧ w'.frozen? ⟨w.heap.size + 2, 2, none⟩ = false ∧ w'.frozen? ⟨w.heap.size + 2, 3, none⟩ = false ∧ w'.frozen? ⟨w.heap.size + 2, 4, none⟩ = false ∧ w'.frozen? ⟨w.heap.size + 2, 5, none⟩ = false ∧ Kept 6 53 wB (w.heap.size + 2) w' ∧ Stay wB w')
    (first | with_reducible exact H0' | with_reducible exact hk1' | with_reducible exact hk2' | exact hk2.store)
    (first | (go_at_call 16; refine ((HY _ hk1).out).mono ?_; rintro e w2 ⟨v2, rfl, hv2, hbl2⟩; obtain ⟨C3, j3, C4, j4, rfl, -, -⟩ := id hv2.opened; have hk2 := hk1.call hbl2; have hk2' := hk2; unfold Held6 at hk2') | (go_at_call 16; refine ((HX _ H0).out).mono ?_; rintro e w1 ⟨v1, rfl, hv1, hbl1⟩; obtain ⟨C1, j1, C2, j2, rfl, -, -⟩ := id hv1.opened; have hk1 := H0.call hbl1; have hk1' := hk1; unfold Held6 at hk1'))
  rename_i hHl
  clear hHl
  have hv1' := hv1.keep hbl2
  have HD := hk2.done (p := qq) (q := rr) (s1 := decide (qq.num < 0)) (A1 := C1) (n1 := len qq.num.natAbs) (c1 := j1) (A2 := C2) (n2 := len (below qq.den)) (c2 := j2) (s2 := decide (rr.num < 0)) (A3 := C3) (n3 := len rr.num.natAbs) (c3 := j3) (A4 := C4) (n4 := len (below rr.den)) (c4 := j4) (hv1') (hv2)
  obtain ⟨d1, d2, d3⟩ := HD
  have r0 := cell_of_row _ _ 0 _ _ _ d3
  have r1 := cell_of_row _ _ 1 _ _ _ d3
  have r2 := cell_of_row _ _ 2 _ _ _ d3
  have r3 := cell_of_row _ _ 3 _ _ _ d3
  have r4 := cell_of_row _ _ 4 _ _ _ d3
  have r5 := cell_of_row _ _ 5 _ _ _ d3
  simp only [List.getElem?_toArray, List.getElem?_cons_zero, List.getElem?_cons_succ] at r0 r1 r2 r3 r4 r5
  have HD := Lib.hid (And.intro d1 d2)
  clear d1 d2 d3
  go_wp2_with fail
  refine bodyPost_ret (v := .agg #[.bool (decide (qq.num < 0)), .slice (C1) (len qq.num.natAbs) (j1), .slice (C2) (len (below qq.den)) (j2), .bool (decide (rr.num < 0)), .slice (C3) (len rr.num.natAbs) (j3), .slice (C4) (len (below rr.den)) (j4)]) ?_ rfl ⟨_, rfl, HD.out.1, below_to HB0.out (by omega) HD.out.2⟩
  simp [results, Tryz.results34, go_sem, r0, r1, r2, r3, r4, r5]

set_option maxRecDepth 100000 in
set_option maxHeartbeats 2000000 in
theorem boxNeg_any {w : World} {v0 : Value} {a b : Rat} (hv : IsBox w v0 a b) (sa : siz a ≤ 34359738368) (sb : siz b ≤ 34359738368) :
    Calls Tryz.prog 36 #[v0] w (BoxRet w (-b) (-a)) := by
  obtain ⟨A1, c1, A2, c2, A3, c3, A4, c4, rfl, ha, hb⟩ := hv.opened
  obtain ⟨wB, hwB⟩ : ∃ u, u = (w.alloc (.cells #[.bool (decide (a.num < 0)), .slice A1 (len a.num.natAbs) c1, .slice A2 (len (below a.den)) c2, .bool (decide (b.num < 0)), .slice A3 (len b.num.natAbs) c3, .slice A4 (len (below b.den)) c4] 53)).alloc (.cells #[.bool false, .slice none 0 0, .slice none 0 0, .bool false, .slice none 0 0, .slice none 0 0] 53) := ⟨_, rfl⟩
  obtain ⟨b0, g0, g1⟩ := news2 w (.cells #[.bool (decide (a.num < 0)), .slice A1 (len a.num.natAbs) c1, .slice A2 (len (below a.den)) c2, .bool (decide (b.num < 0)), .slice A3 (len b.num.natAbs) c3, .slice A4 (len (below b.den)) c4] 53) (.cells #[.bool false, .slice none 0 0, .slice none 0 0, .bool false, .slice none 0 0, .slice none 0 0] 53)
  rw [← hwB] at b0 g0 g1
  have k0 : wB.cell? ⟨w.heap.size, 0, none⟩ = some (.bool (decide (a.num < 0))) := cell_of_row _ _ _ _ _ _ g0
  have k1 : wB.cell? ⟨w.heap.size, 1, none⟩ = some (.slice A1 (len a.num.natAbs) c1) := cell_of_row _ _ _ _ _ _ g0
  have k2 : wB.cell? ⟨w.heap.size, 2, none⟩ = some (.slice A2 (len (below a.den)) c2) := cell_of_row _ _ _ _ _ _ g0
  have k3 : wB.cell? ⟨w.heap.size, 3, none⟩ = some (.bool (decide (b.num < 0))) := cell_of_row _ _ _ _ _ _ g0
  have k4 : wB.cell? ⟨w.heap.size, 4, none⟩ = some (.slice A3 (len b.num.natAbs) c3) := cell_of_row _ _ _ _ _ _ g0
  have k5 : wB.cell? ⟨w.heap.size, 5, none⟩ = some (.slice A4 (len (below b.den)) c4) := cell_of_row _ _ _ _ _ _ g0
  have HK0 := Lib.hid (Kept.start (T := 53) rfl plain6 g1)
  have HB0 := Lib.hid b0
  have hlt1 : w.heap.size < w.heap.size + 1 := by omega
  clear g0 g1 b0
  obtain ⟨qq, eq⟩ : ∃ z : Rat, z = -b := ⟨_, rfl⟩
  obtain ⟨rr, er⟩ : ∃ z : Rat, z = -a := ⟨_, rfl⟩
  have HX := fun (w' : World) (hk : Held6 wB (w.heap.size + 1) wB w') => Lib.hid (numNeg_any (hk.stay.num (hb.keep HB0.out)) (Nat.le_trans sb (by omega)))
  have HY := fun (w' : World) (hk : Held6 wB (w.heap.size + 1) wB w') => Lib.hid (numNeg_any (hk.stay.num (ha.keep HB0.out)) (Nat.le_trans sa (by omega)))
  rw [← eq] at HX ⊢
  rw [← er] at HY ⊢
  have H0 := HK0.out.begin6
  have H0' := H0
  unfold Held6 at H0'
  clear eq er hv ha hb sa sb
  go_enter Tryz.func36, Tryz.ntmps36
  go_upto_region 1 with fail
  rw [← hwB]
  clear hwB
  go_wp2_with fail
  go_region_held3 (fun w' => (∀ b o, b < w.heap.size + 1 → w'.cell? ⟨b, o, none⟩ = wB.cell? ⟨b, o, none⟩) ∧ w'.cell? ⟨w.heap.size + 1, 0, none⟩ = some (cur w' ⟨w.heap.size + 1, 0, none⟩) ∧ w'.cell? ⟨w.heap.size + 1, 1, none⟩ = some (cur w' ⟨w.heap.size + 1, 1, none⟩) ∧ w'.cell? ⟨w.heap.size + 1, 2, none⟩ = some (cur w' ⟨w.heap.size + 1, 2, none⟩) ∧ w'.cell? ⟨w.heap.size + 1, 3, none⟩ = some (cur w' ⟨w.heap.size + 1, 3, none⟩) ∧ w'.cell? ⟨w.heap.size + 1, 4, none⟩ = some (cur w' ⟨w.heap.size + 1, 4, none⟩) ∧ w'.cell? ⟨w.heap.size + 1, 5, none⟩ = some (cur w' ⟨w.heap.size + 1, 5, none⟩) ∧ w'.frozen? ⟨w.heap.size + 1, 0, none⟩ = false ∧ w'.frozen? ⟨w.heap.size + 1, 1, none⟩ = false ∧ w'.frozen? ⟨w.heap.size + 1, 2, none⟩ = false ∧ w'.frozen? ⟨w.heap.size + 1, 3, none⟩ = false ∧ w'.frozen? ⟨w.heap.size + 1, 4, none⟩ = false ∧ w'.frozen? ⟨w.heap.size + 1, 5, none⟩ = false ∧ Kept 6 53 wB (w.heap.size + 1) w' ∧ Stay wB w')
    (first | with_reducible exact H0' | with_reducible exact hk1' | with_reducible exact hk2' | exact hk2.store)
    (first | (go_at_call 17; refine ((HY _ hk1).out).mono ?_; rintro e w2 ⟨v2, rfl, hv2, hbl2⟩; obtain ⟨C3, j3, C4, j4, rfl, -, -⟩ := id hv2.opened; have hk2 := hk1.call hbl2; have hk2' := hk2; unfold Held6 at hk2') | (go_at_call 17; refine ((HX _ H0).out).mono ?_; rintro e w1 ⟨v1, rfl, hv1, hbl1⟩; obtain ⟨C1, j1, C2, j2, rfl, -, -⟩ := id hv1.opened; have hk1 := H0.call hbl1; have hk1' := hk1; unfold Held6 at hk1'))
  rename_i hHl
  clear hHl
  have hv1' := hv1.keep hbl2
  have HD := hk2.done (p := qq) (q := rr) (s1 := decide (qq.num < 0)) (A1 := C1) (n1 := len qq.num.natAbs) (c1 := j1) (A2 := C2) (n2 := len (below qq.den)) (c2 := j2) (s2 := decide (rr.num < 0)) (A3 := C3) (n3 := len rr.num.natAbs) (c3 := j3) (A4 := C4) (n4 := len (below rr.den)) (c4 := j4) (hv1') (hv2)
  obtain ⟨d1, d2, d3⟩ := HD
  have r0 := cell_of_row _ _ 0 _ _ _ d3
  have r1 := cell_of_row _ _ 1 _ _ _ d3
  have r2 := cell_of_row _ _ 2 _ _ _ d3
  have r3 := cell_of_row _ _ 3 _ _ _ d3
  have r4 := cell_of_row _ _ 4 _ _ _ d3
  have r5 := cell_of_row _ _ 5 _ _ _ d3
  simp only [List.getElem?_toArray, List.getElem?_cons_zero, List.getElem?_cons_succ] at r0 r1 r2 r3 r4 r5
  have HD := Lib.hid (And.intro d1 d2)
  clear d1 d2 d3
  go_wp2_with fail
  refine bodyPost_ret (v := .agg #[.bool (decide (qq.num < 0)), .slice (C1) (len qq.num.natAbs) (j1), .slice (C2) (len (below qq.den)) (j2), .bool (decide (rr.num < 0)), .slice (C3) (len rr.num.natAbs) (j3), .slice (C4) (len (below rr.den)) (j4)]) ?_ rfl ⟨_, rfl, HD.out.1, below_to HB0.out (by omega) HD.out.2⟩
  simp [results, Tryz.results36, go_sem, r0, r1, r2, r3, r4, r5]

set_option maxRecDepth 100000 in
set_option maxHeartbeats 2000000 in
theorem boxWidth_any {w : World} {v : Value} {a b : Rat} (hv : IsBox w v a b) (sa : siz a ≤ 34359738368) (sb : siz b ≤ 34359738368) :
    Calls Tryz.prog 50 #[v] w (NumRet w (b - a)) := by
  obtain ⟨A1, c1, A2, c2, A3, c3, A4, c4, rfl, ha, hb⟩ := hv.opened
  obtain ⟨wB, hwB⟩ : ∃ u, u = (w.alloc (.cells #[.bool (decide (a.num < 0)), .slice A1 (len a.num.natAbs) c1, .slice A2 (len (below a.den)) c2, .bool (decide (b.num < 0)), .slice A3 (len b.num.natAbs) c3, .slice A4 (len (below b.den)) c4] 53)).alloc (.cells #[.bool false, .slice none 0 0, .slice none 0 0] 27) := ⟨_, rfl⟩
  obtain ⟨b0, g0, g1⟩ := news2 w (.cells #[.bool (decide (a.num < 0)), .slice A1 (len a.num.natAbs) c1, .slice A2 (len (below a.den)) c2, .bool (decide (b.num < 0)), .slice A3 (len b.num.natAbs) c3, .slice A4 (len (below b.den)) c4] 53) (.cells #[.bool false, .slice none 0 0, .slice none 0 0] 27)
  rw [← hwB] at b0 g0 g1
  have k0 : wB.cell? ⟨w.heap.size, 0, none⟩ = some (.bool (decide (a.num < 0))) := cell_of_row _ _ _ _ _ _ g0
  have k1 : wB.cell? ⟨w.heap.size, 1, none⟩ = some (.slice A1 (len a.num.natAbs) c1) := cell_of_row _ _ _ _ _ _ g0
  have k2 : wB.cell? ⟨w.heap.size, 2, none⟩ = some (.slice A2 (len (below a.den)) c2) := cell_of_row _ _ _ _ _ _ g0
  have k3 : wB.cell? ⟨w.heap.size, 3, none⟩ = some (.bool (decide (b.num < 0))) := cell_of_row _ _ _ _ _ _ g0
  have k4 : wB.cell? ⟨w.heap.size, 4, none⟩ = some (.slice A3 (len b.num.natAbs) c3) := cell_of_row _ _ _ _ _ _ g0
  have k5 : wB.cell? ⟨w.heap.size, 5, none⟩ = some (.slice A4 (len (below b.den)) c4) := cell_of_row _ _ _ _ _ _ g0
  have HK0 := Lib.hid (Kept.start (T := 27) rfl (plain3 _ _ _ _ _ _ _) g1)
  have HB0 := Lib.hid b0
  have hlt1 : w.heap.size < w.heap.size + 1 := by omega
  clear g0 g1 b0
  obtain ⟨q, hq⟩ : ∃ q : Rat, q = b - a := ⟨_, rfl⟩
  have HX := Lib.hid (numSub_any (hb.keep HB0.out) (ha.keep HB0.out) sb sa)
  rw [← hq] at HX ⊢
  clear hq sa sb hv ha hb
  go_enter Tryz.func50, Tryz.ntmps50
  go_upto_region 1 with fail
  rw [← hwB]
  clear hwB
  go_wp2_with fail
  refine (HX.out).mono ?_
  rintro e w5 ⟨v5, rfl, hv5, b5⟩
  obtain ⟨C1, j1, C2, j2, rfl, -, -⟩ := hv5.opened
  have hk := (HK0.out.call b5).held (Stay.refl _)
  clear b5 HX
  obtain ⟨-, c0, c1', c2', f0, f1, f2, -⟩ := id hk
  have HD := hk.done (q := q) (b := decide (q.num < 0)) (A1 := C1) (n1 := len q.num.natAbs) (c1 := j1) (A2 := C2) (n2 := len (below q.den)) (c2 := j2) (hv5)
  obtain ⟨d1, d2, d3⟩ := HD
  have r0 := cell_of_row _ _ 0 _ _ _ d3
  have r1 := cell_of_row _ _ 1 _ _ _ d3
  have r2 := cell_of_row _ _ 2 _ _ _ d3
  simp only [List.getElem?_toArray, List.getElem?_cons_zero, List.getElem?_cons_succ] at r0 r1 r2
  have HD := Lib.hid (And.intro d1 d2)
  clear d1 d2 d3
  go_wp2_with fail
  refine bodyPost_ret (v := .agg #[.bool (decide (q.num < 0)), .slice (C1) (len q.num.natAbs) (j1), .slice (C2) (len (below q.den)) (j2)]) ?_ rfl ⟨_, rfl, HD.out.1, below_to HB0.out (by omega) HD.out.2⟩
  simp [results, Tryz.results50, go_sem, r0, r1, r2]
end Go.Proofs.YtlffafddmmhbmaaGreatDoor
namespace Go.Proofs.YtlffafddmmhbmaaGreatDoor
open Go.RowKit
open Vx

theorem cmpQ_le0 {x y : Rat} : cmpQ x y ≤ 0 ↔ x ≤ y := by
  constructor
  · intro h
    rcases Decidable.em (x ≤ y) with h2 | h2
    · exact h2
    · have := cmpQ_gt h2; omega
  · intro h
    have := cmpQ_le h; omega

set_option maxRecDepth 100000 in
set_option maxHeartbeats 2000000 in
theorem boxHas_any {w : World} {v vx : Value} {a b x : Rat} (hv : IsBox w v a b) (hx : IsNum w vx x) (sa : siz a ≤ 34359738368) (sb : siz b ≤ 34359738368) (sx : siz x ≤ 34359738368) :
    Calls Tryz.prog 32 #[v, vx] w (BoolRet w (decide (a ≤ x ∧ x ≤ b))) := by
  obtain ⟨A1, c1, A2, c2, A3, c3, A4, c4, rfl, ha, hb_⟩ := hv.opened
  obtain ⟨A5, c5, A6, c6, rfl, -, -⟩ := id hx.opened
  obtain ⟨wB, hwB⟩ : ∃ u, u = (w.alloc (.cells #[.bool (decide (a.num < 0)), .slice A1 (len a.num.natAbs) c1, .slice A2 (len (below a.den)) c2, .bool (decide (b.num < 0)), .slice A3 (len b.num.natAbs) c3, .slice A4 (len (below b.den)) c4] 53)).alloc (.cells #[.bool (decide (x.num < 0)), .slice A5 (len x.num.natAbs) c5, .slice A6 (len (below x.den)) c6] 27) := ⟨_, rfl⟩
  obtain ⟨b0, g0, g1⟩ := news2 w (.cells #[.bool (decide (a.num < 0)), .slice A1 (len a.num.natAbs) c1, .slice A2 (len (below a.den)) c2, .bool (decide (b.num < 0)), .slice A3 (len b.num.natAbs) c3, .slice A4 (len (below b.den)) c4] 53) (.cells #[.bool (decide (x.num < 0)), .slice A5 (len x.num.natAbs) c5, .slice A6 (len (below x.den)) c6] 27)
  rw [← hwB] at b0 g0 g1
  have k0 : wB.cell? ⟨w.heap.size, 0, none⟩ = some (.bool (decide (a.num < 0))) := cell_of_row _ _ _ _ _ _ g0
  have k1 : wB.cell? ⟨w.heap.size, 1, none⟩ = some (.slice A1 (len a.num.natAbs) c1) := cell_of_row _ _ _ _ _ _ g0
  have k2 : wB.cell? ⟨w.heap.size, 2, none⟩ = some (.slice A2 (len (below a.den)) c2) := cell_of_row _ _ _ _ _ _ g0
  have k3 : wB.cell? ⟨w.heap.size, 3, none⟩ = some (.bool (decide (b.num < 0))) := cell_of_row _ _ _ _ _ _ g0
  have k4 : wB.cell? ⟨w.heap.size, 4, none⟩ = some (.slice A3 (len b.num.natAbs) c3) := cell_of_row _ _ _ _ _ _ g0
  have k5 : wB.cell? ⟨w.heap.size, 5, none⟩ = some (.slice A4 (len (below b.den)) c4) := cell_of_row _ _ _ _ _ _ g0
  have k6 : wB.cell? ⟨w.heap.size + 1, 0, none⟩ = some (.bool (decide (x.num < 0))) := cell_of_row _ _ _ _ _ _ g1
  have k7 : wB.cell? ⟨w.heap.size + 1, 1, none⟩ = some (.slice A5 (len x.num.natAbs) c5) := cell_of_row _ _ _ _ _ _ g1
  have k8 : wB.cell? ⟨w.heap.size + 1, 2, none⟩ = some (.slice A6 (len (below x.den)) c6) := cell_of_row _ _ _ _ _ _ g1
  have HB0 := Lib.hid b0
  have hlt1 : w.heap.size < wB.heap.size := World.block_lt_of_cell? _ _ k0
  have hlt2 : w.heap.size + 1 < wB.heap.size := (Array.getElem?_eq_some_iff.1 g1).1
  clear g0 g1 b0
  have HX := Lib.hid (numCmp_any (ha.keep HB0.out) (hx.keep HB0.out) sa sx)
  have HY := fun (w1 : World) (hb : Below wB.heap.size wB w1) => Lib.hid (numCmp_any ((hx.keep HB0.out).keep hb) ((hb_.keep HB0.out).keep hb) sx sb)
  obtain ⟨z1, hz1⟩ : ∃ z : Int, z = cmpQ a x := ⟨_, rfl⟩
  obtain ⟨z2, hz2⟩ : ∃ z : Int, z = cmpQ x b := ⟨_, rfl⟩
  have e1 : (z1 ≤ 0) ↔ a ≤ x := by rw [hz1]; exact cmpQ_le0
  have e2 : (z2 ≤ 0) ↔ x ≤ b := by rw [hz2]; exact cmpQ_le0
  rw [← hz1] at HX
  rw [← hz2] at HY
  obtain ⟨r, hr⟩ : ∃ r : Bool, r = decide (a ≤ x ∧ x ≤ b) := ⟨_, rfl⟩
  rw [← hr]
  clear hz1 hz2 sa sb sx hv ha hb_ hx
  rcases Decidable.em (z1 ≤ 0) with h1 | h1
  · rcases Decidable.em (z2 ≤ 0) with h2 | h2
    · have d1 : decide (z1 ≤ 0) = true := decide_eq_true h1
      have d2 : decide (z2 ≤ 0) = true := decide_eq_true h2
      have d3 : r = true := by rw [hr]; exact decide_eq_true ⟨e1.1 h1, e2.1 h2⟩
      subst d3
      replace h1 := Lib.hid h1
      replace h2 := Lib.hid h2
      clear hr e1 e2
      go_enter Tryz.func32, Tryz.ntmps32
      go_upto_region 1 with fail
      rw [← hwB]
      clear hwB
      go_wp2_with fail
      refine (HX.out).mono ?_
      rintro e w1 ⟨rfl, b1⟩
      have hbc := below_cell b1
      have HY1 := HY w1 b1
      have HB1 := Lib.hid (Go.Proofs.YtlffafddmmhbmaaGreatDoor.below_to HB0.out (Nat.le_of_lt hlt1) b1)
      clear HY HX b1
      go_wp2_with fail
      refine (HY1.out).mono ?_
      rintro e w2 ⟨rfl, b2⟩
      have HE := Lib.hid (HB1.out.trans (b2.mono HB1.out.size))
      clear HY1 b2 hbc
      go_wp2_with fail
      go_ret
      exact ⟨rfl, HE.out⟩
    · have d1 : decide (z1 ≤ 0) = true := decide_eq_true h1
      have d2 : decide (z2 ≤ 0) = false := decide_eq_false h2
      have d3 : r = false := by rw [hr]; exact decide_eq_false (fun h => h2 (e2.2 h.2))
      subst d3
      replace h1 := Lib.hid h1
      replace h2 := Lib.hid h2
      clear hr e1 e2
      go_enter Tryz.func32, Tryz.ntmps32
      go_upto_region 1 with fail
      rw [← hwB]
      clear hwB
      go_wp2_with fail
      refine (HX.out).mono ?_
      rintro e w1 ⟨rfl, b1⟩
      have hbc := below_cell b1
      have HY1 := HY w1 b1
      have HB1 := Lib.hid (Go.Proofs.YtlffafddmmhbmaaGreatDoor.below_to HB0.out (Nat.le_of_lt hlt1) b1)
      clear HY HX b1
      go_wp2_with fail
      refine (HY1.out).mono ?_
      rintro e w2 ⟨rfl, b2⟩
      have HE := Lib.hid (HB1.out.trans (b2.mono HB1.out.size))
      clear HY1 b2 hbc
      go_wp2_with fail
      go_ret
      exact ⟨rfl, HE.out⟩
  · have d1 : decide (z1 ≤ 0) = false := decide_eq_false h1
    have d2 : r = false := by rw [hr]; exact decide_eq_false (fun h => h1 (e1.2 h.1))
    subst d2
    replace h1 := Lib.hid h1
    clear HY hr e1 e2
    go_enter Tryz.func32, Tryz.ntmps32
    go_upto_region 1 with fail
    rw [← hwB]
    clear hwB
    go_wp2_with fail
    refine (HX.out).mono ?_
    rintro e w1 ⟨rfl, b1⟩
    have HE := Lib.hid (Go.Proofs.YtlffafddmmhbmaaGreatDoor.below_to HB0.out (Nat.le_of_lt hlt1) b1)
    clear HX b1
    go_wp2_with fail
    go_ret
    exact ⟨rfl, HE.out⟩

set_option maxRecDepth 100000 in
set_option maxHeartbeats 2000000 in
theorem boxInside_any {w : World} {v u : Value} {a b c d : Rat} (hv : IsBox w v a b) (hu : IsBox w u c d) (sa : siz a ≤ 34359738368) (sb : siz b ≤ 34359738368) (sc : siz c ≤ 34359738368) (sd : siz d ≤ 34359738368) :
    Calls Tryz.prog 45 #[v, u] w (BoolRet w (decide (c ≤ a ∧ b ≤ d))) := by
  obtain ⟨A1, c1, A2, c2, A3, c3, A4, c4, rfl, ha, hb_⟩ := hv.opened
  obtain ⟨A5, c5, A6, c6, A7, c7, A8, c8, rfl, hc, hd⟩ := hu.opened
  obtain ⟨wB, hwB⟩ : ∃ u, u = (w.alloc (.cells #[.bool (decide (a.num < 0)), .slice A1 (len a.num.natAbs) c1, .slice A2 (len (below a.den)) c2, .bool (decide (b.num < 0)), .slice A3 (len b.num.natAbs) c3, .slice A4 (len (below b.den)) c4] 53)).alloc (.cells #[.bool (decide (c.num < 0)), .slice A5 (len c.num.natAbs) c5, .slice A6 (len (below c.den)) c6, .bool (decide (d.num < 0)), .slice A7 (len d.num.natAbs) c7, .slice A8 (len (below d.den)) c8] 53) := ⟨_, rfl⟩
  obtain ⟨b0, g0, g1⟩ := news2 w (.cells #[.bool (decide (a.num < 0)), .slice A1 (len a.num.natAbs) c1, .slice A2 (len (below a.den)) c2, .bool (decide (b.num < 0)), .slice A3 (len b.num.natAbs) c3, .slice A4 (len (below b.den)) c4] 53) (.cells #[.bool (decide (c.num < 0)), .slice A5 (len c.num.natAbs) c5, .slice A6 (len (below c.den)) c6, .bool (decide (d.num < 0)), .slice A7 (len d.num.natAbs) c7, .slice A8 (len (below d.den)) c8] 53)
  rw [← hwB] at b0 g0 g1
  have k0 : wB.cell? ⟨w.heap.size, 0, none⟩ = some (.bool (decide (a.num < 0))) := cell_of_row _ _ _ _ _ _ g0
  have k1 : wB.cell? ⟨w.heap.size, 1, none⟩ = some (.slice A1 (len a.num.natAbs) c1) := cell_of_row _ _ _ _ _ _ g0
  have k2 : wB.cell? ⟨w.heap.size, 2, none⟩ = some (.slice A2 (len (below a.den)) c2) := cell_of_row _ _ _ _ _ _ g0
  have k3 : wB.cell? ⟨w.heap.size, 3, none⟩ = some (.bool (decide (b.num < 0))) := cell_of_row _ _ _ _ _ _ g0
  have k4 : wB.cell? ⟨w.heap.size, 4, none⟩ = some (.slice A3 (len b.num.natAbs) c3) := cell_of_row _ _ _ _ _ _ g0
  have k5 : wB.cell? ⟨w.heap.size, 5, none⟩ = some (.slice A4 (len (below b.den)) c4) := cell_of_row _ _ _ _ _ _ g0
  have k6 : wB.cell? ⟨w.heap.size + 1, 0, none⟩ = some (.bool (decide (c.num < 0))) := cell_of_row _ _ _ _ _ _ g1
  have k7 : wB.cell? ⟨w.heap.size + 1, 1, none⟩ = some (.slice A5 (len c.num.natAbs) c5) := cell_of_row _ _ _ _ _ _ g1
  have k8 : wB.cell? ⟨w.heap.size + 1, 2, none⟩ = some (.slice A6 (len (below c.den)) c6) := cell_of_row _ _ _ _ _ _ g1
  have k9 : wB.cell? ⟨w.heap.size + 1, 3, none⟩ = some (.bool (decide (d.num < 0))) := cell_of_row _ _ _ _ _ _ g1
  have k10 : wB.cell? ⟨w.heap.size + 1, 4, none⟩ = some (.slice A7 (len d.num.natAbs) c7) := cell_of_row _ _ _ _ _ _ g1
  have k11 : wB.cell? ⟨w.heap.size + 1, 5, none⟩ = some (.slice A8 (len (below d.den)) c8) := cell_of_row _ _ _ _ _ _ g1
  have HB0 := Lib.hid b0
  have hlt1 : w.heap.size < wB.heap.size := World.block_lt_of_cell? _ _ k0
  have hlt2 : w.heap.size + 1 < wB.heap.size := (Array.getElem?_eq_some_iff.1 g1).1
  clear g0 g1 b0
  have HX := Lib.hid (numCmp_any (hc.keep HB0.out) (ha.keep HB0.out) sc sa)
  have HY := fun (w1 : World) (hb : Below wB.heap.size wB w1) => Lib.hid (numCmp_any ((hb_.keep HB0.out).keep hb) ((hd.keep HB0.out).keep hb) sb sd)
  obtain ⟨z1, hz1⟩ : ∃ z : Int, z = cmpQ c a := ⟨_, rfl⟩
  obtain ⟨z2, hz2⟩ : ∃ z : Int, z = cmpQ b d := ⟨_, rfl⟩
  have e1 : (z1 ≤ 0) ↔ c ≤ a := by rw [hz1]; exact cmpQ_le0
  have e2 : (z2 ≤ 0) ↔ b ≤ d := by rw [hz2]; exact cmpQ_le0
  rw [← hz1] at HX
  rw [← hz2] at HY
  obtain ⟨r, hr⟩ : ∃ r : Bool, r = decide (c ≤ a ∧ b ≤ d) := ⟨_, rfl⟩
  rw [← hr]
  clear hz1 hz2 sa sb sc sd hv hu ha hb_ hc hd
  rcases Decidable.em (z1 ≤ 0) with h1 | h1
  · rcases Decidable.em (z2 ≤ 0) with h2 | h2
    · have d1 : decide (z1 ≤ 0) = true := decide_eq_true h1
      have d2 : decide (z2 ≤ 0) = true := decide_eq_true h2
      have d3 : r = true := by rw [hr]; exact decide_eq_true ⟨e1.1 h1, e2.1 h2⟩
      subst d3
      replace h1 := Lib.hid h1
      replace h2 := Lib.hid h2
      clear hr e1 e2
      go_enter Tryz.func45, Tryz.ntmps45
      go_upto_region 1 with fail
      rw [← hwB]
      clear hwB
      go_wp2_with fail
      refine (HX.out).mono ?_
      rintro e w1 ⟨rfl, b1⟩
      have hbc := below_cell b1
      have HY1 := HY w1 b1
      have HB1 := Lib.hid (Go.Proofs.YtlffafddmmhbmaaGreatDoor.below_to HB0.out (Nat.le_of_lt hlt1) b1)
      clear HY HX b1
      go_wp2_with fail
      refine (HY1.out).mono ?_
      rintro e w2 ⟨rfl, b2⟩
      have HE := Lib.hid (HB1.out.trans (b2.mono HB1.out.size))
      clear HY1 b2 hbc
      go_wp2_with fail
      go_ret
      exact ⟨rfl, HE.out⟩
    · have d1 : decide (z1 ≤ 0) = true := decide_eq_true h1
      have d2 : decide (z2 ≤ 0) = false := decide_eq_false h2
      have d3 : r = false := by rw [hr]; exact decide_eq_false (fun h => h2 (e2.2 h.2))
      subst d3
      replace h1 := Lib.hid h1
      replace h2 := Lib.hid h2
      clear hr e1 e2
      go_enter Tryz.func45, Tryz.ntmps45
      go_upto_region 1 with fail
      rw [← hwB]
      clear hwB
      go_wp2_with fail
      refine (HX.out).mono ?_
      rintro e w1 ⟨rfl, b1⟩
      have hbc := below_cell b1
      have HY1 := HY w1 b1
      have HB1 := Lib.hid (Go.Proofs.YtlffafddmmhbmaaGreatDoor.below_to HB0.out (Nat.le_of_lt hlt1) b1)
      clear HY HX b1
      go_wp2_with fail
      refine (HY1.out).mono ?_
      rintro e w2 ⟨rfl, b2⟩
      have HE := Lib.hid (HB1.out.trans (b2.mono HB1.out.size))
      clear HY1 b2 hbc
      go_wp2_with fail
      go_ret
      exact ⟨rfl, HE.out⟩
  · have d1 : decide (z1 ≤ 0) = false := decide_eq_false h1
    have d2 : r = false := by rw [hr]; exact decide_eq_false (fun h => h1 (e1.2 h.1))
    subst d2
    replace h1 := Lib.hid h1
    clear HY hr e1 e2
    go_enter Tryz.func45, Tryz.ntmps45
    go_upto_region 1 with fail
    rw [← hwB]
    clear hwB
    go_wp2_with fail
    refine (HX.out).mono ?_
    rintro e w1 ⟨rfl, b1⟩
    have HE := Lib.hid (Go.Proofs.YtlffafddmmhbmaaGreatDoor.below_to HB0.out (Nat.le_of_lt hlt1) b1)
    clear HX b1
    go_wp2_with fail
    go_ret
    exact ⟨rfl, HE.out⟩
end Go.Proofs.YtlffafddmmhbmaaGreatDoor
namespace Go.Proofs.YtlffafddmmhbmaaGreatDoor
open Go.RowKit
open Vx

set_option maxRecDepth 100000 in
set_option maxHeartbeats 2000000 in
theorem boxHull_any {w : World} {v u : Value} {a b c d : Rat} (hv : IsBox w v a b) (hu : IsBox w u c d) (sa : siz a ≤ 34359738368) (sb : siz b ≤ 34359738368) (sc : siz c ≤ 34359738368) (sd : siz d ≤ 34359738368) :
    Calls Tryz.prog 39 #[v, u] w (BoxRet w (leastOf a [b, c, d]) (greatestOf a [b, c, d])) := by
  obtain ⟨A1, c1, A2, c2, A3, c3, A4, c4, rfl, ha, hb⟩ := hv.opened
  obtain ⟨A5, c5, A6, c6, A7, c7, A8, c8, rfl, hc, hd⟩ := hu.opened
  obtain ⟨wB, hwB⟩ : ∃ u, u = ((w.alloc (.cells #[.bool (decide (a.num < 0)), .slice A1 (len a.num.natAbs) c1, .slice A2 (len (below a.den)) c2, .bool (decide (b.num < 0)), .slice A3 (len b.num.natAbs) c3, .slice A4 (len (below b.den)) c4] 53)).alloc (.cells #[.bool (decide (c.num < 0)), .slice A5 (len c.num.natAbs) c5, .slice A6 (len (below c.den)) c6, .bool (decide (d.num < 0)), .slice A7 (len d.num.natAbs) c7, .slice A8 (len (below d.den)) c8] 53)).alloc (.cells #[.bool false, .slice none 0 0, .slice none 0 0, .bool false, .slice none 0 0, .slice none 0 0] 53) := ⟨_, rfl⟩
  obtain ⟨b0, g0, g1, g2⟩ := news3 w (.cells #[.bool (decide (a.num < 0)), .slice A1 (len a.num.natAbs) c1, .slice A2 (len (below a.den)) c2, .bool (decide (b.num < 0)), .slice A3 (len b.num.natAbs) c3, .slice A4 (len (below b.den)) c4] 53) (.cells #[.bool (decide (c.num < 0)), .slice A5 (len c.num.natAbs) c5, .slice A6 (len (below c.den)) c6, .bool (decide (d.num < 0)), .slice A7 (len d.num.natAbs) c7, .slice A8 (len (below d.den)) c8] 53) (.cells #[.bool false, .slice none 0 0, .slice none 0 0, .bool false, .slice none 0 0, .slice none 0 0] 53)
  rw [← hwB] at b0 g0 g1 g2
  have k0 : wB.cell? ⟨w.heap.size, 0, none⟩ = some (.bool (decide (a.num < 0))) := cell_of_row _ _ _ _ _ _ g0
  have k1 : wB.cell? ⟨w.heap.size, 1, none⟩ = some (.slice A1 (len a.num.natAbs) c1) := cell_of_row _ _ _ _ _ _ g0
  have k2 : wB.cell? ⟨w.heap.size, 2, none⟩ = some (.slice A2 (len (below a.den)) c2) := cell_of_row _ _ _ _ _ _ g0
  have k3 : wB.cell? ⟨w.heap.size, 3, none⟩ = some (.bool (decide (b.num < 0))) := cell_of_row _ _ _ _ _ _ g0
  have k4 : wB.cell? ⟨w.heap.size, 4, none⟩ = some (.slice A3 (len b.num.natAbs) c3) := cell_of_row _ _ _ _ _ _ g0
  have k5 : wB.cell? ⟨w.heap.size, 5, none⟩ = some (.slice A4 (len (below b.den)) c4) := cell_of_row _ _ _ _ _ _ g0
  have k6 : wB.cell? ⟨w.heap.size + 1, 0, none⟩ = some (.bool (decide (c.num < 0))) := cell_of_row _ _ _ _ _ _ g1
  have k7 : wB.cell? ⟨w.heap.size + 1, 1, none⟩ = some (.slice A5 (len c.num.natAbs) c5) := cell_of_row _ _ _ _ _ _ g1
  have k8 : wB.cell? ⟨w.heap.size + 1, 2, none⟩ = some (.slice A6 (len (below c.den)) c6) := cell_of_row _ _ _ _ _ _ g1
  have k9 : wB.cell? ⟨w.heap.size + 1, 3, none⟩ = some (.bool (decide (d.num < 0))) := cell_of_row _ _ _ _ _ _ g1
  have k10 : wB.cell? ⟨w.heap.size + 1, 4, none⟩ = some (.slice A7 (len d.num.natAbs) c7) := cell_of_row _ _ _ _ _ _ g1
  have k11 : wB.cell? ⟨w.heap.size + 1, 5, none⟩ = some (.slice A8 (len (below d.den)) c8) := cell_of_row _ _ _ _ _ _ g1
  have HK0 := Lib.hid (Kept.start (T := 53) rfl plain6 g2)
  have HB0 := Lib.hid b0
  have hlt1 : w.heap.size < w.heap.size + 2 := by omega
  have hlt2 : w.heap.size + 1 < w.heap.size + 2 := by omega
  clear g0 g1 g2 b0
  have HX := Lib.hid (span_three (ha.keep HB0.out) sa (hb.keep HB0.out) sb (hc.keep HB0.out) sc (hd.keep HB0.out) sd)
  obtain ⟨q, hq⟩ : ∃ z : Rat, z = leastOf a [b, c, d] := ⟨_, rfl⟩
  obtain ⟨r, hr⟩ : ∃ z : Rat, z = greatestOf a [b, c, d] := ⟨_, rfl⟩
  rw [← hq, ← hr] at HX ⊢
  have HK1 := Lib.hid (HK0.out.alloc (o := (.cells #[.bool (decide (b.num < 0)), .slice A3 (len b.num.natAbs) c3, .slice A4 (len (below b.den)) c4, .bool (decide (c.num < 0)), .slice A5 (len c.num.natAbs) c5, .slice A6 (len (below c.den)) c6, .bool (decide (d.num < 0)), .slice A7 (len d.num.natAbs) c7, .slice A8 (len (below d.den)) c8] 27)))
  clear hq hr hv hu ha hb hc hd sa sb sc sd
  go_enter Tryz.func39, Tryz.ntmps39
  go_upto_region 1 with fail
  rw [← hwB]
  clear hwB
  go_wp2_with fail
  refine (HX.out).mono ?_
  rintro e w5 ⟨v5, rfl, hv5, b5⟩
  obtain ⟨C1, j1, C2, j2, C3, j3, C4, j4, rfl, hq1, hr1⟩ := hv5.opened
  have hk := (HK1.out.call b5).held6 (Stay.refl _)
  have hk' := hk
  unfold Held6 at hk'
  clear b5 HX HK1
  obtain ⟨-, c0, c1', c2', c3', c4', c5', f0, f1, f2, f3, f4, f5, -⟩ := hk'
  have HD := hk.done (p := q) (q := r) (s1 := decide (q.num < 0)) (A1 := C1) (n1 := len q.num.natAbs) (c1 := j1) (A2 := C2) (n2 := len (below q.den)) (c2 := j2) (s2 := decide (r.num < 0)) (A3 := C3) (n3 := len r.num.natAbs) (c3 := j3) (A4 := C4) (n4 := len (below r.den)) (c4 := j4) (hq1) (hr1)
  obtain ⟨d1, d2, d3⟩ := HD
  have r0 := cell_of_row _ _ 0 _ _ _ d3
  have r1 := cell_of_row _ _ 1 _ _ _ d3
  have r2 := cell_of_row _ _ 2 _ _ _ d3
  have r3 := cell_of_row _ _ 3 _ _ _ d3
  have r4 := cell_of_row _ _ 4 _ _ _ d3
  have r5 := cell_of_row _ _ 5 _ _ _ d3
  simp only [List.getElem?_toArray, List.getElem?_cons_zero, List.getElem?_cons_succ] at r0 r1 r2 r3 r4 r5
  have HD := Lib.hid (And.intro d1 d2)
  clear d1 d2 d3
  go_wp2_with fail
  refine bodyPost_ret (v := .agg #[.bool (decide (q.num < 0)), .slice (C1) (len q.num.natAbs) (j1), .slice (C2) (len (below q.den)) (j2), .bool (decide (r.num < 0)), .slice (C3) (len r.num.natAbs) (j3), .slice (C4) (len (below r.den)) (j4)]) ?_ rfl ⟨_, rfl, HD.out.1, below_to HB0.out (by omega) HD.out.2⟩
  simp [results, Tryz.results39, go_sem, r0, r1, r2, r3, r4, r5]

theorem siz_abs (x : Rat) : siz x.abs = siz x := by
  unfold Rat.abs
  split
  · rfl
  · exact siz_neg x

set_option maxRecDepth 100000 in
set_option maxHeartbeats 2000000 in
theorem boxAbs_zero {w : World} {v : Value} {a b : Rat} (hv : IsBox w v a b) (sa : siz a ≤ 34359738368) (sb : siz b ≤ 34359738368) (h : (a ≤ 0 ∧ 0 ≤ b)) :
    Calls Tryz.prog 37 #[v] w (BoxRet w (leastOf 0 [a.abs, b.abs]) (greatestOf 0 [a.abs, b.abs])) := by
  obtain ⟨A1, c1, A2, c2, A3, c3, A4, c4, rfl, ha, hb⟩ := hv.opened
  obtain ⟨wB, hwB⟩ : ∃ u, u = (w.alloc (.cells #[.bool (decide (a.num < 0)), .slice A1 (len a.num.natAbs) c1, .slice A2 (len (below a.den)) c2, .bool (decide (b.num < 0)), .slice A3 (len b.num.natAbs) c3, .slice A4 (len (below b.den)) c4] 53)).alloc (.cells #[.bool false, .slice none 0 0, .slice none 0 0, .bool false, .slice none 0 0, .slice none 0 0] 53) := ⟨_, rfl⟩
  obtain ⟨b0, g0, g1⟩ := news2 w (.cells #[.bool (decide (a.num < 0)), .slice A1 (len a.num.natAbs) c1, .slice A2 (len (below a.den)) c2, .bool (decide (b.num < 0)), .slice A3 (len b.num.natAbs) c3, .slice A4 (len (below b.den)) c4] 53) (.cells #[.bool false, .slice none 0 0, .slice none 0 0, .bool false, .slice none 0 0, .slice none 0 0] 53)
  rw [← hwB] at b0 g0 g1
  have k0 : wB.cell? ⟨w.heap.size, 0, none⟩ = some (.bool (decide (a.num < 0))) := cell_of_row _ _ _ _ _ _ g0
  have k1 : wB.cell? ⟨w.heap.size, 1, none⟩ = some (.slice A1 (len a.num.natAbs) c1) := cell_of_row _ _ _ _ _ _ g0
  have k2 : wB.cell? ⟨w.heap.size, 2, none⟩ = some (.slice A2 (len (below a.den)) c2) := cell_of_row _ _ _ _ _ _ g0
  have k3 : wB.cell? ⟨w.heap.size, 3, none⟩ = some (.bool (decide (b.num < 0))) := cell_of_row _ _ _ _ _ _ g0
  have k4 : wB.cell? ⟨w.heap.size, 4, none⟩ = some (.slice A3 (len b.num.natAbs) c3) := cell_of_row _ _ _ _ _ _ g0
  have k5 : wB.cell? ⟨w.heap.size, 5, none⟩ = some (.slice A4 (len (below b.den)) c4) := cell_of_row _ _ _ _ _ _ g0
  have HK0 := Lib.hid (Kept.start (T := 53) rfl plain6 g1)
  have HB0 := Lib.hid b0
  have hlt1 : w.heap.size < w.heap.size + 1 := by omega
  clear g0 g1 b0
  obtain ⟨qa, eqa⟩ : ∃ q : Rat, q = a.abs := ⟨_, rfl⟩
  obtain ⟨qb, eqb⟩ : ∃ q : Rat, q = b.abs := ⟨_, rfl⟩
  have HSa : Hid (siz qa ≤ 34359738368) := by show _ ≤ _; rw [eqa, siz_abs]; exact sa
  have HSb : Hid (siz qb ≤ 34359738368) := by show _ ≤ _; rw [eqb, siz_abs]; exact sb
  have HZ : Hid (siz 0 ≤ 34359738368) := Nat.le_trans (show siz 0 ≤ 3 by decide +kernel) (by omega)
  have HH := Lib.hid (boxHas_any (x := 0) (IsNum.pair (ha.keep HB0.out) (hb.keep HB0.out)) (zero_num wB) sa sb HZ.out)
  have hdec : decide (a ≤ 0 ∧ 0 ≤ b) = true := decide_eq_true h
  rw [hdec] at HH
  have HQ1 := fun (w1 w' : World) (hb1 : Below w.heap.size w w1) (hk : Held6 wB (w.heap.size + 1) w1 w') => Lib.hid (numAbs_any (hk.stay.num (ha.keep hb1)) (Nat.le_trans sa (by omega)))
  have HQ2 := fun (w1 w' : World) (hb1 : Below w.heap.size w w1) (hk : Held6 wB (w.heap.size + 1) w1 w') => Lib.hid (numAbs_any (hk.stay.num (hb.keep hb1)) (Nat.le_trans sb (by omega)))
  rw [← eqa] at HQ1 ⊢
  rw [← eqb] at HQ2 ⊢
  obtain ⟨xl, hxl⟩ : ∃ z : Rat, z = leastOf 0 [qa, qb] := ⟨_, rfl⟩
  obtain ⟨xg, hxg⟩ : ∃ z : Rat, z = greatestOf 0 [qa, qb] := ⟨_, rfl⟩
  rw [← hxl, ← hxg]
  replace hxl := Lib.hid hxl
  replace hxg := Lib.hid hxg
  clear eqa eqb hv ha hb sa sb h hdec
  go_enter Tryz.func37, Tryz.ntmps37
  go_upto_region 1 with fail
  rw [← hwB]
  clear hwB
  go_wp2_with fail
  refine (HH.out).mono ?_
  rintro e w0 ⟨rfl, b1⟩
  have HK1 := Lib.hid (HK0.out.call b1)
  have HB1 := below_to HB0.out (by omega) HK1.out.1
  have Hqa := fun (w' : World) (hk : Held6 wB (w.heap.size + 1) w0 w') => HQ1 w0 w' HB1 hk
  have Hqb := fun (w' : World) (hk : Held6 wB (w.heap.size + 1) w0 w') => HQ2 w0 w' HB1 hk
  have H0 := HK1.out.begin6
  have H0' := H0
  unfold Held6 at H0'
  clear HH HQ1 HQ2 b1
  go_wp2_with fail
  go_region_held3 (fun w' => (∀ b o, b < w.heap.size + 1 → w'.cell? ⟨b, o, none⟩ = wB.cell? ⟨b, o, none⟩) ∧ w'.cell? ⟨w.heap.size + 1, 0, none⟩ = some (cur w' ⟨w.heap.size + 1, 0, none⟩) ∧ w'.cell? ⟨w.heap.size + 1, 1, none⟩ = some (cur w' ⟨w.heap.size + 1, 1, none⟩) ∧ w'.cell? ⟨w.heap.size + 1, 2, none⟩ = some (cur w' ⟨w.heap.size + 1, 2, none⟩) ∧ w'.cell? ⟨w.heap.size + 1, 3, none⟩ = some (cur w' ⟨w.heap.size + 1, 3, none⟩) ∧ w'.cell? ⟨w.heap.size + 1, 4, none⟩ = some (cur w' ⟨w.heap.size + 1, 4, none⟩) ∧ w'.cell? ⟨w.heap.size + 1, 5, none⟩ = some (cur w' ⟨w.heap.size + 1, 5, none⟩) ∧ w'.frozen? ⟨w.heap.size + 1, 0, none⟩ = false ∧ w'.frozen? ⟨w.heap.size + 1, 1, none⟩ = false ∧ w'.frozen? ⟨w.heap.size + 1, 2, none⟩ = false ∧ w'.frozen? ⟨w.heap.size + 1, 3, none⟩ = false ∧ w'.frozen? ⟨w.heap.size + 1, 4, none⟩ = false ∧ w'.frozen? ⟨w.heap.size + 1, 5, none⟩ = false ∧ Kept 6 53 wB (w.heap.size + 1) w' ∧ Stay w0 w')
    (first | with_reducible exact H0' | with_reducible exact hk1' | with_reducible exact hk2' | with_reducible exact hk3' | exact hk3.store | (have hkb := hk2.call ((Below.refl w2.heap.size w2).alloc (Nat.le_refl _) (.cells #[.bool (decide (qa.num < 0)), .slice C1 (len qa.num.natAbs) j1, .slice C2 (len (below qa.den)) j2, .bool (decide (qb.num < 0)), .slice C3 (len qb.num.natAbs) j3, .slice C4 (len (below qb.den)) j4] 27)); unfold Held6 at hkb; exact hkb))
    (first | (go_at_call 86; have hc := span_two (zero_num _) HZ.out (hv1.keep hbl2) HSa.out hv2 HSb.out; rw [← hxl.out, ← hxg.out] at hc; refine hc.mono ?_; clear hc; rintro e w5 ⟨v5, rfl, hv5, hbl5⟩; obtain ⟨E1, i1, E2, i2, E3, i3, E4, i4, rfl, hp1, hp2⟩ := hv5.opened; have hk3 := (hk2.call ((Below.refl w2.heap.size w2).alloc (Nat.le_refl _) (.cells #[.bool (decide (qa.num < 0)), .slice C1 (len qa.num.natAbs) j1, .slice C2 (len (below qa.den)) j2, .bool (decide (qb.num < 0)), .slice C3 (len qb.num.natAbs) j3, .slice C4 (len (below qb.den)) j4] 27))).call hbl5; have hk3' := hk3; unfold Held6 at hk3') | (go_at_call 38; refine ((Hqb _ hk1).out).mono ?_; rintro e w2 ⟨v2, rfl, hv2, hbl2⟩; obtain ⟨C3, j3, C4, j4, rfl, -, -⟩ := id hv2.opened; have hk2 := hk1.call hbl2; have hk2' := hk2; unfold Held6 at hk2') | (go_at_call 38; refine ((Hqa _ H0).out).mono ?_; rintro e w1 ⟨v1, rfl, hv1, hbl1⟩; obtain ⟨C1, j1, C2, j2, rfl, -, -⟩ := id hv1.opened; have hk1 := H0.call hbl1; have hk1' := hk1; unfold Held6 at hk1'))
  rename_i hHl
  clear hHl
  have HD := hk3.done (p := xl) (q := xg) (s1 := decide (xl.num < 0)) (A1 := E1) (n1 := len xl.num.natAbs) (c1 := i1) (A2 := E2) (n2 := len (below xl.den)) (c2 := i2) (s2 := decide (xg.num < 0)) (A3 := E3) (n3 := len xg.num.natAbs) (c3 := i3) (A4 := E4) (n4 := len (below xg.den)) (c4 := i4) (hp1) (hp2)
  obtain ⟨d1, d2, d3⟩ := HD
  have r0 := cell_of_row _ _ 0 _ _ _ d3
  have r1 := cell_of_row _ _ 1 _ _ _ d3
  have r2 := cell_of_row _ _ 2 _ _ _ d3
  have r3 := cell_of_row _ _ 3 _ _ _ d3
  have r4 := cell_of_row _ _ 4 _ _ _ d3
  have r5 := cell_of_row _ _ 5 _ _ _ d3
  simp only [List.getElem?_toArray, List.getElem?_cons_zero, List.getElem?_cons_succ] at r0 r1 r2 r3 r4 r5
  have HD := Lib.hid (And.intro d1 d2)
  clear d1 d2 d3
  go_wp2_with fail
  refine bodyPost_ret (v := .agg #[.bool (decide (xl.num < 0)), .slice (E1) (len xl.num.natAbs) (i1), .slice (E2) (len (below xl.den)) (i2), .bool (decide (xg.num < 0)), .slice (E3) (len xg.num.natAbs) (i3), .slice (E4) (len (below xg.den)) (i4)]) ?_ rfl ⟨_, rfl, HD.out.1, below_to HB0.out (by omega) HD.out.2⟩
  simp [results, Tryz.results37, go_sem, r0, r1, r2, r3, r4, r5]

set_option maxRecDepth 100000 in
set_option maxHeartbeats 2000000 in
theorem boxAbs_one {w : World} {v : Value} {a b : Rat} (hv : IsBox w v a b) (sa : siz a ≤ 34359738368) (sb : siz b ≤ 34359738368) (h : ¬ (a ≤ 0 ∧ 0 ≤ b)) :
    Calls Tryz.prog 37 #[v] w (BoxRet w (leastOf (a.abs) [b.abs]) (greatestOf (a.abs) [b.abs])) := by
  obtain ⟨A1, c1, A2, c2, A3, c3, A4, c4, rfl, ha, hb⟩ := hv.opened
  obtain ⟨wB, hwB⟩ : ∃ u, u = (w.alloc (.cells #[.bool (decide (a.num < 0)), .slice A1 (len a.num.natAbs) c1, .slice A2 (len (below a.den)) c2, .bool (decide (b.num < 0)), .slice A3 (len b.num.natAbs) c3, .slice A4 (len (below b.den)) c4] 53)).alloc (.cells #[.bool false, .slice none 0 0, .slice none 0 0, .bool false, .slice none 0 0, .slice none 0 0] 53) := ⟨_, rfl⟩
  obtain ⟨b0, g0, g1⟩ := news2 w (.cells #[.bool (decide (a.num < 0)), .slice A1 (len a.num.natAbs) c1, .slice A2 (len (below a.den)) c2, .bool (decide (b.num < 0)), .slice A3 (len b.num.natAbs) c3, .slice A4 (len (below b.den)) c4] 53) (.cells #[.bool false, .slice none 0 0, .slice none 0 0, .bool false, .slice none 0 0, .slice none 0 0] 53)
  rw [← hwB] at b0 g0 g1
  have k0 : wB.cell? ⟨w.heap.size, 0, none⟩ = some (.bool (decide (a.num < 0))) := cell_of_row _ _ _ _ _ _ g0
  have k1 : wB.cell? ⟨w.heap.size, 1, none⟩ = some (.slice A1 (len a.num.natAbs) c1) := cell_of_row _ _ _ _ _ _ g0
  have k2 : wB.cell? ⟨w.heap.size, 2, none⟩ = some (.slice A2 (len (below a.den)) c2) := cell_of_row _ _ _ _ _ _ g0
  have k3 : wB.cell? ⟨w.heap.size, 3, none⟩ = some (.bool (decide (b.num < 0))) := cell_of_row _ _ _ _ _ _ g0
  have k4 : wB.cell? ⟨w.heap.size, 4, none⟩ = some (.slice A3 (len b.num.natAbs) c3) := cell_of_row _ _ _ _ _ _ g0
  have k5 : wB.cell? ⟨w.heap.size, 5, none⟩ = some (.slice A4 (len (below b.den)) c4) := cell_of_row _ _ _ _ _ _ g0
  have HK0 := Lib.hid (Kept.start (T := 53) rfl plain6 g1)
  have HB0 := Lib.hid b0
  have hlt1 : w.heap.size < w.heap.size + 1 := by omega
  clear g0 g1 b0
  obtain ⟨qa, eqa⟩ : ∃ q : Rat, q = a.abs := ⟨_, rfl⟩
  obtain ⟨qb, eqb⟩ : ∃ q : Rat, q = b.abs := ⟨_, rfl⟩
  have HSa : Hid (siz qa ≤ 34359738368) := by show _ ≤ _; rw [eqa, siz_abs]; exact sa
  have HSb : Hid (siz qb ≤ 34359738368) := by show _ ≤ _; rw [eqb, siz_abs]; exact sb
  have HZ : Hid (siz 0 ≤ 34359738368) := Nat.le_trans (show siz 0 ≤ 3 by decide +kernel) (by omega)
  have HH := Lib.hid (boxHas_any (x := 0) (IsNum.pair (ha.keep HB0.out) (hb.keep HB0.out)) (zero_num wB) sa sb HZ.out)
  have hdec : decide (a ≤ 0 ∧ 0 ≤ b) = false := decide_eq_false h
  rw [hdec] at HH
  have HQ1 := fun (w1 w' : World) (hb1 : Below w.heap.size w w1) (hk : Held6 wB (w.heap.size + 1) w1 w') => Lib.hid (numAbs_any (hk.stay.num (ha.keep hb1)) (Nat.le_trans sa (by omega)))
  have HQ2 := fun (w1 w' : World) (hb1 : Below w.heap.size w w1) (hk : Held6 wB (w.heap.size + 1) w1 w') => Lib.hid (numAbs_any (hk.stay.num (hb.keep hb1)) (Nat.le_trans sb (by omega)))
  rw [← eqa] at HQ1 ⊢
  rw [← eqb] at HQ2 ⊢
  obtain ⟨xl, hxl⟩ : ∃ z : Rat, z = leastOf qa [qb] := ⟨_, rfl⟩
  obtain ⟨xg, hxg⟩ : ∃ z : Rat, z = greatestOf qa [qb] := ⟨_, rfl⟩
  rw [← hxl, ← hxg]
  replace hxl := Lib.hid hxl
  replace hxg := Lib.hid hxg
  clear eqa eqb hv ha hb sa sb h hdec
  go_enter Tryz.func37, Tryz.ntmps37
  go_upto_region 1 with fail
  rw [← hwB]
  clear hwB
  go_wp2_with fail
  refine (HH.out).mono ?_
  rintro e w0 ⟨rfl, b1⟩
  have HK1 := Lib.hid (HK0.out.call b1)
  have HB1 := below_to HB0.out (by omega) HK1.out.1
  have Hqa := fun (w' : World) (hk : Held6 wB (w.heap.size + 1) w0 w') => HQ1 w0 w' HB1 hk
  have Hqb := fun (w' : World) (hk : Held6 wB (w.heap.size + 1) w0 w') => HQ2 w0 w' HB1 hk
  have H0 := HK1.out.begin6
  have H0' := H0
  unfold Held6 at H0'
  clear HH HQ1 HQ2 b1
  go_wp2_with fail
  go_region_held3 (fun w' => (∀ b o, b < w.heap.size + 1 → w'.cell? ⟨b, o, none⟩ = wB.cell? ⟨b, o, none⟩) ∧ w'.cell? ⟨w.heap.size + 1, 0, none⟩ = some (cur w' ⟨w.heap.size + 1, 0, none⟩) ∧ w'.cell? ⟨w.heap.size + 1, 1, none⟩ = some (cur w' ⟨w.heap.size + 1, 1, none⟩) ∧ w'.cell? ⟨w.heap.size + 1, 2, none⟩ = some (cur w' ⟨w.heap.size + 1, 2, none⟩) ∧ w'.cell? ⟨w.heap.size + 1, 3, none⟩ = some (cur w' ⟨w.heap.size + 1, 3, none⟩) ∧ w'.cell? ⟨w.heap.size + 1, 4, none⟩ = some (cur w' ⟨w.heap.size + 1, 4, none⟩) ∧ w'.cell? ⟨w.heap.size + 1, 5, none⟩ = some (cur w' ⟨w.heap.size + 1, 5, none⟩) ∧ w'.frozen? ⟨w.heap.size + 1, 0, none⟩ = false ∧ w'.frozen? ⟨w.heap.size + 1, 1, none⟩ = false ∧ w'.frozen? ⟨w.heap.size + 1, 2, none⟩ = false ∧ w'.frozen? ⟨w.heap.size + 1, 3, none⟩ = false ∧ w'.frozen? ⟨w.heap.size + 1, 4, none⟩ = false ∧ w'.frozen? ⟨w.heap.size + 1, 5, none⟩ = false ∧ Kept 6 53 wB (w.heap.size + 1) w' ∧ Stay w0 w')
    (first | with_reducible exact H0' | with_reducible exact hk1' | with_reducible exact hk2' | with_reducible exact hk3' | exact hk3.store | (have hkb := hk2.call ((Below.refl w2.heap.size w2).alloc (Nat.le_refl _) (.cells #[.bool (decide (qb.num < 0)), .slice C3 (len qb.num.natAbs) j3, .slice C4 (len (below qb.den)) j4] 27)); unfold Held6 at hkb; exact hkb))
    (first | (go_at_call 86; have hc := span_one (hv1.keep hbl2) HSa.out hv2 HSb.out; rw [← hxl.out, ← hxg.out] at hc; refine hc.mono ?_; clear hc; rintro e w5 ⟨v5, rfl, hv5, hbl5⟩; obtain ⟨E1, i1, E2, i2, E3, i3, E4, i4, rfl, hp1, hp2⟩ := hv5.opened; have hk3 := (hk2.call ((Below.refl w2.heap.size w2).alloc (Nat.le_refl _) (.cells #[.bool (decide (qb.num < 0)), .slice C3 (len qb.num.natAbs) j3, .slice C4 (len (below qb.den)) j4] 27))).call hbl5; have hk3' := hk3; unfold Held6 at hk3') | (go_at_call 38; refine ((Hqb _ hk1).out).mono ?_; rintro e w2 ⟨v2, rfl, hv2, hbl2⟩; obtain ⟨C3, j3, C4, j4, rfl, -, -⟩ := id hv2.opened; have hk2 := hk1.call hbl2; have hk2' := hk2; unfold Held6 at hk2') | (go_at_call 38; refine ((Hqa _ H0).out).mono ?_; rintro e w1 ⟨v1, rfl, hv1, hbl1⟩; obtain ⟨C1, j1, C2, j2, rfl, -, -⟩ := id hv1.opened; have hk1 := H0.call hbl1; have hk1' := hk1; unfold Held6 at hk1'))
  rename_i hHl
  clear hHl
  have HD := hk3.done (p := xl) (q := xg) (s1 := decide (xl.num < 0)) (A1 := E1) (n1 := len xl.num.natAbs) (c1 := i1) (A2 := E2) (n2 := len (below xl.den)) (c2 := i2) (s2 := decide (xg.num < 0)) (A3 := E3) (n3 := len xg.num.natAbs) (c3 := i3) (A4 := E4) (n4 := len (below xg.den)) (c4 := i4) (hp1) (hp2)
  obtain ⟨d1, d2, d3⟩ := HD
  have r0 := cell_of_row _ _ 0 _ _ _ d3
  have r1 := cell_of_row _ _ 1 _ _ _ d3
  have r2 := cell_of_row _ _ 2 _ _ _ d3
  have r3 := cell_of_row _ _ 3 _ _ _ d3
  have r4 := cell_of_row _ _ 4 _ _ _ d3
  have r5 := cell_of_row _ _ 5 _ _ _ d3
  simp only [List.getElem?_toArray, List.getElem?_cons_zero, List.getElem?_cons_succ] at r0 r1 r2 r3 r4 r5
  have HD := Lib.hid (And.intro d1 d2)
  clear d1 d2 d3
  go_wp2_with fail
  refine bodyPost_ret (v := .agg #[.bool (decide (xl.num < 0)), .slice (E1) (len xl.num.natAbs) (i1), .slice (E2) (len (below xl.den)) (i2), .bool (decide (xg.num < 0)), .slice (E3) (len xg.num.natAbs) (i3), .slice (E4) (len (below xg.den)) (i4)]) ?_ rfl ⟨_, rfl, HD.out.1, below_to HB0.out (by omega) HD.out.2⟩
  simp [results, Tryz.results37, go_sem, r0, r1, r2, r3, r4, r5]
end Go.Proofs.YtlffafddmmhbmaaGreatDoor
