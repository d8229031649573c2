/-
  Contracts of the functions that the law calls, for every input (Ru LawA NumK NumL NumM BoxA BoxB).
-/
import Derived.Test.YtfppimacnhcflaaGreatDoorB30
import Derived.Test.YtfppimacnhcflaaGreatDoorB28
import Derived.Test.YtfppimacnhcflaaGreatDoorB20
import Derived.Test.YtfppimacnhcflaaGreatDoorB26
import Derived.Test.YtfppimacnhcflaaGreatDoorB19
import Derived.Test.YtfppimacnhcflaaGreatDoorB13
import Derived.Test.YtfppimacnhcflaaGreatDoorB18
import Derived.Test.YtfppimacnhcflaaGreatDoorB16
set_option linter.all false
namespace Go.Proofs.YtfppimacnhcflaaGreatDoor.Rf
open Go.RowKit
open Rx
open Lib (hid)

set_option maxRecDepth 100000 in
set_option maxHeartbeats 8000000 in
theorem parse_main {w : World} {s : ByteArray} (hs : s.size ≤ 2000) : Calls Tryz.prog 101 #[.string s] w (RatErrRet w (parseV s).1 (parseV s).2) := by
  obtain ⟨neg, t, hng, htl, hts, hcase⟩ := sign_off s
  have hpv : parseV s = (match parseT neg t.data.toList with | none => ((0 : Rat), (4 : Int)) | some q => (q, 0)) := by
    unfold parseV
    rw [if_neg (by omega), parseT_is, hng, ← htl]; rfl
  obtain ⟨PV, hPV⟩ : ∃ P, RatErrRet w (parseV s).1 (parseV s).2 = P := ⟨_, rfl⟩
  rw [hPV]
  rw [hpv] at hPV
  replace hPV := hid hPV.symm
  have e1 : decide (((s.size : Nat) : Int) > 2000) = false := decide_eq_false (by omega)
  have e0 : ((s.size : Nat) : Int) ≤ 2000 := by omega
  have et : t.size ≤ 2000 := by omega
  clear hng htl hpv hts
  obtain ⟨wB, hwB⟩ : ∃ u, u = w.alloc (.cells #[.bool false, .slice none 0 0, .slice none 0 0] 33) := ⟨_, rfl⟩
  have hRB := RB.start w
  have hbB := alloc_below w (.cells #[.bool false, .slice none 0 0, .slice none 0 0] 33)
  rw [← hwB] at hRB hbB
  obtain ⟨R, hR⟩ : ∃ R, w.heap.size = R := ⟨_, rfl⟩
  rw [hR] at hRB
  replace hRB := hid hRB
  replace hbB := hid hbB
  go_enter Tryz.func101, Tryz.ntmps101
  go_upto_region 1 with fail
  rw [← hwB]
  replace hR := hid hR
  clear hwB
  obtain ⟨l, hl⟩ : ∃ l, t.data.toList = l := ⟨_, rfl⟩
  rw [hl] at hPV
  replace hl := hid hl
  rcases hcase with ⟨rfl, h0, h45, hex⟩ | ⟨rfl, hst, h9⟩
  · have g1 : decide (0 < s.size) = true := decide_eq_true h0
    have g2 : (0 : Int) < ((s.size : Nat) : Int) := by omega
    have g3 : (((s[0].toNat : Nat) : Int) == 45) = true := by rw [beq_iff_eq]; omega
    have g4 : (1 : Int) ≤ ((s.size : Nat) : Int) := by omega
    go_upto_region 4 with fail
    rename_i G4 hG4 Gb hGb
    replace hG4 := hid hG4
    go_wp2_with fail
    refine hG4.out _ _ ?_
    exact parse_back et hl.out hPV.out hRB.out hR.out
  · rcases h9 with h0 | ⟨h0, h45⟩
    · have g1 : decide (0 < s.size) = false := decide_eq_false (by omega)
      have g2 : ((s.size : Nat) : Int) ≤ 0 := by omega
      replace hst := hid hst
      go_upto_region 4 with fail
      rename_i G4 hG4 Gb hGb
      replace hG4 := hid hG4
      go_wp2_with fail
      refine hG4.out _ _ ?_
      exact parse_back (by rw [← hst.out]; exact et) (by rw [← hst.out]; exact hl.out) hPV.out hRB.out hR.out
    · have g1 : decide (0 < s.size) = true := decide_eq_true h0
      have g2 : (0 : Int) < ((s.size : Nat) : Int) := by omega
      have g3 : (((s[0].toNat : Nat) : Int) == 45) = false := by rw [beq_eq_false_iff_ne]; omega
      replace hst := hid hst
      go_upto_region 4 with fail
      rename_i G4 hG4 Gb hGb
      replace hG4 := hid hG4
      go_wp2_with fail
      refine hG4.out _ _ ?_
      exact parse_back (by rw [← hst.out]; exact et) (by rw [← hst.out]; exact hl.out) hPV.out hRB.out hR.out
theorem parse_ref {w : World} {s : ByteArray} (hs : s.size ≤ 1048576) : Calls Tryz.prog 101 #[.string s] w (RatErrRet w (parseV s).1 (parseV s).2) := by
  rcases Nat.lt_or_ge 2000 s.size with h | h
  · exact parse_long h hs
  · exact parse_main h
end Go.Proofs.YtfppimacnhcflaaGreatDoor.Rf
namespace Go.Proofs.YtfppimacnhcflaaGreatDoor
open Go.RowKit
open Vx

def BoolRet (w : World) (b : Bool) (e : Ending) (w' : World) : Prop := e = .returned (.bool b) ∧ Below w.heap.size w w'
theorem below_eq {G : Nat} {w w' : World} (h : Below G w w') (e : w.heap.size = G) : Below w.heap.size w w' := by rw [e]; exact h
theorem cmpQ_same (x : Rat) : cmpQ x x = 0 := by
  unfold cmpQ
  rw [if_neg (by rw [Rat.not_lt]; exact Rat.le_refl), if_pos rfl]
end Go.Proofs.YtfppimacnhcflaaGreatDoor
namespace Go.Proofs.YtfppimacnhcflaaGreatDoor
open Go.RowKit
open Vx

theorem fl_nonneg {n : Int} {d : Nat} (h : ¬ n < 0) : ((n.natAbs / d : Nat) : Int) = n / (d : Int) := by
  rw [Int.natCast_ediv, Int.natAbs_of_nonneg (by omega)]
theorem fl_neg {n : Int} {d : Nat} (h : n < 0) (hd : 0 < d) (hr : n.natAbs % d = 0) : -((n.natAbs / d : Nat) : Int) = n / (d : Int) := by
  obtain ⟨k, hk⟩ := Nat.dvd_of_mod_eq_zero hr
  have e : n = -((d : Int) * (k : Int)) := by
    have : ((n.natAbs : Nat) : Int) = ((d * k : Nat) : Int) := by rw [hk]
    rw [Int.natCast_mul] at this
    omega
  rw [hk, Nat.mul_div_cancel_left _ hd, e, ← Int.mul_neg, Int.mul_ediv_cancel_left _ (by omega)]
theorem fl_down {n : Int} {d : Nat} (h : n < 0) (hd : 0 < d) (hr : 0 < n.natAbs % d) : -((n.natAbs / d + 1 : Nat) : Int) = n / (d : Int) := by
  have h1 := Nat.div_add_mod n.natAbs d
  have h2 := Nat.mod_lt n.natAbs hd
  obtain ⟨q, hq⟩ : ∃ q, q = n.natAbs / d := ⟨_, rfl⟩
  obtain ⟨r, hr2⟩ : ∃ r, r = n.natAbs % d := ⟨_, rfl⟩
  rw [← hq, ← hr2] at h1
  rw [← hr2] at h2 hr
  rw [← hq]
  have e : n = ((d - r : Nat) : Int) + (d : Int) * -((q + 1 : Nat) : Int) := by
    have h3 : ((d * q + r : Nat) : Int) = ((n.natAbs : Nat) : Int) := by rw [h1]
    have h4 : (d : Int) * -((q + 1 : Nat) : Int) = -((d * q : Nat) : Int) - d := by
      rw [Int.natCast_add, Int.natCast_mul, Int.mul_neg, Int.mul_add]; simp; omega
    rw [h4]
    omega
  rw [e, Int.add_mul_ediv_left _ _ (by omega), Int.ediv_eq_zero_of_lt (by omega) (by omega), Int.zero_add]

set_option maxRecDepth 100000 in
set_option maxHeartbeats 2000000 in
theorem floor_pos {w : World} {vx : Value} {x q : Rat} (hx : IsNum w vx x) (hq : q = mkRat (x.num / (x.den : Int)) 1) (hs : siz x ≤ 34359738368) (h : ¬ x.num < 0) :
    Calls Tryz.prog 39 #[vx] w (NumRet w q) := by
  obtain ⟨A1, c1, A2, c2, rfl, hx1, hx2⟩ := hx.opened
  obtain ⟨wB, hwB⟩ : ∃ u, u = (w.alloc (.cells #[.bool (decide (x.num < 0)), .slice A1 (len x.num.natAbs) c1, .slice A2 (len (below x.den)) c2] 25)).alloc (.cells #[.bool false, .slice none 0 0, .slice none 0 0] 25) := ⟨_, rfl⟩
  obtain ⟨b0, gA, gB⟩ := news2 w (.cells #[.bool (decide (x.num < 0)), .slice A1 (len x.num.natAbs) c1, .slice A2 (len (below x.den)) c2] 25) (.cells #[.bool false, .slice none 0 0, .slice none 0 0] 25)
  rw [← hwB] at b0 gA gB
  have k0 : wB.cell? ⟨w.heap.size, 0, none⟩ = some (.bool (decide (x.num < 0))) := cell_of_row _ _ _ _ _ _ gA
  have k1 : wB.cell? ⟨w.heap.size, 1, none⟩ = some (.slice A1 (len x.num.natAbs) c1) := cell_of_row _ _ _ _ _ _ gA
  have k2 : wB.cell? ⟨w.heap.size, 2, none⟩ = some (.slice A2 (len (below x.den)) c2) := cell_of_row _ _ _ _ _ _ gA
  have HK0 := Lib.hid (Kept.start (T := 25) rfl (plain3 _ _ _ _ _ _ _) gB)
  have HB0 := Lib.hid b0
  have hlt1 : w.heap.size < w.heap.size + 1 := by omega
  clear gA gB b0
  have hd : decide (x.num < 0) = false := decide_eq_false h
  rw [hd] at k0 hwB hx ⊢
  clear hd
  have hl1 := siz_num x
  have hl2 := siz_den x
  have HS := Lib.hid (And.intro (Nat.le_trans hl1 hs) (Nat.le_trans hl2 hs))
  have HV := Lib.hid (show mkRat (sgn false (x.num.natAbs / x.den)) 1 = q by rw [hq]; congr 1; exact fl_nonneg h)
  have H0 := HK0.out.begin
  have hx1' := hx1.keep HB0.out
  have HY := fun (w' : World) (hk : Held3 wB (w.heap.size + 1) wB w') => Lib.hid (bottom_any (hx.keep (below_to HB0.out (by omega) hk.kept.1)))
  have hdp : 0 < x.den := x.den_pos
  clear hq hs hl1 hl2
  go_enter Tryz.func39, Tryz.ntmps39
  go_upto_region 1 with fail
  rw [← hwB]
  clear hwB
  go_wp2_with fail
  clear h
  go_region_held3 (fun w' => (∀ b o, b < w.heap.size + 1 → w'.cell? ⟨b, o, none⟩ = wB.cell? ⟨b, o, none⟩) ∧ w'.cell? ⟨w.heap.size + 1, 0, none⟩ = some (cur w' ⟨w.heap.size + 1, 0, none⟩) ∧ w'.cell? ⟨w.heap.size + 1, 1, none⟩ = some (cur w' ⟨w.heap.size + 1, 1, none⟩) ∧ w'.cell? ⟨w.heap.size + 1, 2, none⟩ = some (cur w' ⟨w.heap.size + 1, 2, none⟩) ∧ w'.frozen? ⟨w.heap.size + 1, 0, none⟩ = false ∧ w'.frozen? ⟨w.heap.size + 1, 1, none⟩ = false ∧ w'.frozen? ⟨w.heap.size + 1, 2, none⟩ = false ∧ Kept 3 25 wB (w.heap.size + 1) w' ∧ Stay wB w')
    (first | exact H0 | exact hk3 | exact hk2)
    (first | (go_at_call 100; refine ((HY _ ?_).out).mono ?_; assumption; rintro e w2 ⟨v2, rfl, hv2, hbl2⟩; have hk2 := Held3.call (by assumption) hbl2) | (go_at_call 113; refine (div_any (hk2.stay _ _ hx1') hv2 (Nat.le_trans HS.out.1 (by decide)) hdp).mono ?_; rintro e w3 ⟨v3, u3, rfl, hv3, hu3, hbl3⟩; obtain ⟨B3, e3, rfl, -⟩ := id hu3; have hk3 := Held3.call (by assumption) hbl3))
  rename_i hHl
  clear hHl
  have HK3 := Lib.hid hk3.kept
  have q0 := (hk3.1 _ _ hlt1).trans k0
  clear hk2 hk3 H0 k0 k1 k2 HY hx hx1' hx1 hx2 hv2 hbl2 hbl3 hu3
  have HF := Lib.hid (fraction_int (neg := false) hv3 HV.out)
  clear hv3
  go_wp2_with fail
  refine (HF.out).mono ?_
  rintro e w5 ⟨v5, rfl, hv5, b5⟩
  obtain ⟨C1, j1, C2, j2, rfl, -, -⟩ := hv5.opened
  have hk := (HK3.out.call b5).held (Stay.refl _)
  clear b5 HF q0
  obtain ⟨-, c0, c1', c2', f0, f1, f2, -⟩ := id hk
  have HD := hk.done (q := q) (b := decide (q.num < 0)) (A1 := C1) (n1 := len q.num.natAbs) (c1 := j1) (A2 := C2) (n2 := len (below q.den)) (c2 := j2) (hv5)
  obtain ⟨d1, d2, d3⟩ := HD
  have r0 := cell_of_row _ _ 0 _ _ _ d3
  have r1 := cell_of_row _ _ 1 _ _ _ d3
  have r2 := cell_of_row _ _ 2 _ _ _ d3
  simp only [List.getElem?_toArray, List.getElem?_cons_zero, List.getElem?_cons_succ] at r0 r1 r2
  have HD := Lib.hid (And.intro d1 d2)
  clear d1 d2 d3
  go_wp2_with fail
  refine bodyPost_ret (v := .agg #[.bool (decide (q.num < 0)), .slice (C1) (len q.num.natAbs) (j1), .slice (C2) (len (below q.den)) (j2)]) ?_ rfl ⟨_, rfl, HD.out.1, below_to HB0.out (by omega) HD.out.2⟩
  simp [results, Tryz.results39, go_sem, r0, r1, r2]

set_option maxRecDepth 100000 in
set_option maxHeartbeats 2000000 in
theorem floor_neg {w : World} {vx : Value} {x q : Rat} (hx : IsNum w vx x) (hq : q = mkRat (x.num / (x.den : Int)) 1) (hs : siz x ≤ 34359738368) (h : x.num < 0) (hr : x.num.natAbs % x.den = 0) :
    Calls Tryz.prog 39 #[vx] w (NumRet w q) := by
  obtain ⟨A1, c1, A2, c2, rfl, hx1, hx2⟩ := hx.opened
  obtain ⟨wB, hwB⟩ : ∃ u, u = (w.alloc (.cells #[.bool (decide (x.num < 0)), .slice A1 (len x.num.natAbs) c1, .slice A2 (len (below x.den)) c2] 25)).alloc (.cells #[.bool false, .slice none 0 0, .slice none 0 0] 25) := ⟨_, rfl⟩
  obtain ⟨b0, gA, gB⟩ := news2 w (.cells #[.bool (decide (x.num < 0)), .slice A1 (len x.num.natAbs) c1, .slice A2 (len (below x.den)) c2] 25) (.cells #[.bool false, .slice none 0 0, .slice none 0 0] 25)
  rw [← hwB] at b0 gA gB
  have k0 : wB.cell? ⟨w.heap.size, 0, none⟩ = some (.bool (decide (x.num < 0))) := cell_of_row _ _ _ _ _ _ gA
  have k1 : wB.cell? ⟨w.heap.size, 1, none⟩ = some (.slice A1 (len x.num.natAbs) c1) := cell_of_row _ _ _ _ _ _ gA
  have k2 : wB.cell? ⟨w.heap.size, 2, none⟩ = some (.slice A2 (len (below x.den)) c2) := cell_of_row _ _ _ _ _ _ gA
  have HK0 := Lib.hid (Kept.start (T := 25) rfl (plain3 _ _ _ _ _ _ _) gB)
  have HB0 := Lib.hid b0
  have hlt1 : w.heap.size < w.heap.size + 1 := by omega
  clear gA gB b0
  have hd : decide (x.num < 0) = true := decide_eq_true h
  rw [hd] at k0 hwB hx ⊢
  clear hd
  have hl1 := siz_num x
  have hl2 := siz_den x
  have HS := Lib.hid (And.intro (Nat.le_trans hl1 hs) (Nat.le_trans hl2 hs))
  have HV := Lib.hid (show mkRat (sgn true (x.num.natAbs / x.den)) 1 = q by rw [hq]; congr 1; exact fl_neg h x.den_pos hr)
  have H0 := HK0.out.begin
  have hx1' := hx1.keep HB0.out
  have HY := fun (w' : World) (hk : Held3 wB (w.heap.size + 1) wB w') => Lib.hid (bottom_any (hx.keep (below_to HB0.out (by omega) hk.kept.1)))
  have hdp : 0 < x.den := x.den_pos
  clear hq hs hl1 hl2
  go_enter Tryz.func39, Tryz.ntmps39
  go_upto_region 1 with fail
  rw [← hwB]
  clear hwB
  go_wp2_with fail
  have HR := Lib.hid hr
  clear h hr
  go_region_held3 (fun w' => (∀ b o, b < w.heap.size + 1 → w'.cell? ⟨b, o, none⟩ = wB.cell? ⟨b, o, none⟩) ∧ w'.cell? ⟨w.heap.size + 1, 0, none⟩ = some (cur w' ⟨w.heap.size + 1, 0, none⟩) ∧ w'.cell? ⟨w.heap.size + 1, 1, none⟩ = some (cur w' ⟨w.heap.size + 1, 1, none⟩) ∧ w'.cell? ⟨w.heap.size + 1, 2, none⟩ = some (cur w' ⟨w.heap.size + 1, 2, none⟩) ∧ w'.frozen? ⟨w.heap.size + 1, 0, none⟩ = false ∧ w'.frozen? ⟨w.heap.size + 1, 1, none⟩ = false ∧ w'.frozen? ⟨w.heap.size + 1, 2, none⟩ = false ∧ Kept 3 25 wB (w.heap.size + 1) w' ∧ Stay wB w')
    (first | exact H0 | exact hk3 | exact hk2)
    (first | (go_at_call 100; refine ((HY _ ?_).out).mono ?_; assumption; rintro e w2 ⟨v2, rfl, hv2, hbl2⟩; have hk2 := Held3.call (by assumption) hbl2) | (go_at_call 113; refine (div_any (hk2.stay _ _ hx1') hv2 (Nat.le_trans HS.out.1 (by decide)) hdp).mono ?_; rintro e w3 ⟨v3, u3, rfl, hv3, hu3, hbl3⟩; obtain ⟨B3, e3, rfl, -⟩ := id hu3; have hk3 := Held3.call (by assumption) hbl3))
  rename_i hHl
  clear hHl
  have HK3 := Lib.hid hk3.kept
  have q0 := (hk3.1 _ _ hlt1).trans k0
  clear hk2 hk3 H0 k0 k1 k2 HY hx hx1' hx1 hx2 hv2 hbl2 hbl3 hu3
  have HF := Lib.hid (fraction_int (neg := true) hv3 HV.out)
  clear hv3
  have hl : len (x.num.natAbs % x.den) = 0 := by rw [HR.out, len_zero]
  rw [hl]
  clear hl HR
  go_wp2_with fail
  refine (HF.out).mono ?_
  rintro e w5 ⟨v5, rfl, hv5, b5⟩
  obtain ⟨C1, j1, C2, j2, rfl, -, -⟩ := hv5.opened
  have hk := (HK3.out.call b5).held (Stay.refl _)
  clear b5 HF q0
  obtain ⟨-, c0, c1', c2', f0, f1, f2, -⟩ := id hk
  have HD := hk.done (q := q) (b := decide (q.num < 0)) (A1 := C1) (n1 := len q.num.natAbs) (c1 := j1) (A2 := C2) (n2 := len (below q.den)) (c2 := j2) (hv5)
  obtain ⟨d1, d2, d3⟩ := HD
  have r0 := cell_of_row _ _ 0 _ _ _ d3
  have r1 := cell_of_row _ _ 1 _ _ _ d3
  have r2 := cell_of_row _ _ 2 _ _ _ d3
  simp only [List.getElem?_toArray, List.getElem?_cons_zero, List.getElem?_cons_succ] at r0 r1 r2
  have HD := Lib.hid (And.intro d1 d2)
  clear d1 d2 d3
  go_wp2_with fail
  refine bodyPost_ret (v := .agg #[.bool (decide (q.num < 0)), .slice (C1) (len q.num.natAbs) (j1), .slice (C2) (len (below q.den)) (j2)]) ?_ rfl ⟨_, rfl, HD.out.1, below_to HB0.out (by omega) HD.out.2⟩
  simp [results, Tryz.results39, go_sem, r0, r1, r2]

set_option maxRecDepth 100000 in
set_option maxHeartbeats 2000000 in
theorem floor_down {w : World} {vx : Value} {x q : Rat} (hx : IsNum w vx x) (hq : q = mkRat (x.num / (x.den : Int)) 1) (hs : siz x ≤ 34359738368) (h : x.num < 0) (hr : 0 < x.num.natAbs % x.den) :
    Calls Tryz.prog 39 #[vx] w (NumRet w q) := by
  obtain ⟨A1, c1, A2, c2, rfl, hx1, hx2⟩ := hx.opened
  obtain ⟨wB, hwB⟩ : ∃ u, u = (w.alloc (.cells #[.bool (decide (x.num < 0)), .slice A1 (len x.num.natAbs) c1, .slice A2 (len (below x.den)) c2] 25)).alloc (.cells #[.bool false, .slice none 0 0, .slice none 0 0] 25) := ⟨_, rfl⟩
  obtain ⟨b0, gA, gB⟩ := news2 w (.cells #[.bool (decide (x.num < 0)), .slice A1 (len x.num.natAbs) c1, .slice A2 (len (below x.den)) c2] 25) (.cells #[.bool false, .slice none 0 0, .slice none 0 0] 25)
  rw [← hwB] at b0 gA gB
  have k0 : wB.cell? ⟨w.heap.size, 0, none⟩ = some (.bool (decide (x.num < 0))) := cell_of_row _ _ _ _ _ _ gA
  have k1 : wB.cell? ⟨w.heap.size, 1, none⟩ = some (.slice A1 (len x.num.natAbs) c1) := cell_of_row _ _ _ _ _ _ gA
  have k2 : wB.cell? ⟨w.heap.size, 2, none⟩ = some (.slice A2 (len (below x.den)) c2) := cell_of_row _ _ _ _ _ _ gA
  have HK0 := Lib.hid (Kept.start (T := 25) rfl (plain3 _ _ _ _ _ _ _) gB)
  have HB0 := Lib.hid b0
  have hlt1 : w.heap.size < w.heap.size + 1 := by omega
  clear gA gB b0
  have hd : decide (x.num < 0) = true := decide_eq_true h
  rw [hd] at k0 hwB hx ⊢
  clear hd
  have hl1 := siz_num x
  have hl2 := siz_den x
  have HS := Lib.hid (And.intro (Nat.le_trans hl1 hs) (Nat.le_trans hl2 hs))
  have HV := Lib.hid (show mkRat (sgn true (x.num.natAbs / x.den + 1)) 1 = q by rw [hq]; congr 1; exact fl_down h x.den_pos hr)
  have H0 := HK0.out.begin
  have hx1' := hx1.keep HB0.out
  have HY := fun (w' : World) (hk : Held3 wB (w.heap.size + 1) wB w') => Lib.hid (bottom_any (hx.keep (below_to HB0.out (by omega) hk.kept.1)))
  have hdp : 0 < x.den := x.den_pos
  clear hq hs hl1 hl2
  go_enter Tryz.func39, Tryz.ntmps39
  go_upto_region 1 with fail
  rw [← hwB]
  clear hwB
  go_wp2_with fail
  have HR := Lib.hid hr
  clear h hr
  go_region_held3 (fun w' => (∀ b o, b < w.heap.size + 1 → w'.cell? ⟨b, o, none⟩ = wB.cell? ⟨b, o, none⟩) ∧ w'.cell? ⟨w.heap.size + 1, 0, none⟩ = some (cur w' ⟨w.heap.size + 1, 0, none⟩) ∧ w'.cell? ⟨w.heap.size + 1, 1, none⟩ = some (cur w' ⟨w.heap.size + 1, 1, none⟩) ∧ w'.cell? ⟨w.heap.size + 1, 2, none⟩ = some (cur w' ⟨w.heap.size + 1, 2, none⟩) ∧ w'.frozen? ⟨w.heap.size + 1, 0, none⟩ = false ∧ w'.frozen? ⟨w.heap.size + 1, 1, none⟩ = false ∧ w'.frozen? ⟨w.heap.size + 1, 2, none⟩ = false ∧ Kept 3 25 wB (w.heap.size + 1) w' ∧ Stay wB w')
    (first | exact H0 | exact hk3 | exact hk2)
    (first | (go_at_call 100; refine ((HY _ ?_).out).mono ?_; assumption; rintro e w2 ⟨v2, rfl, hv2, hbl2⟩; have hk2 := Held3.call (by assumption) hbl2) | (go_at_call 113; refine (div_any (hk2.stay _ _ hx1') hv2 (Nat.le_trans HS.out.1 (by decide)) hdp).mono ?_; rintro e w3 ⟨v3, u3, rfl, hv3, hu3, hbl3⟩; obtain ⟨B3, e3, rfl, -⟩ := id hu3; have hk3 := Held3.call (by assumption) hbl3))
  rename_i hHl
  clear hHl
  have HK3 := Lib.hid hk3.kept
  have q0 := (hk3.1 _ _ hlt1).trans k0
  clear hk2 hk3 H0 k0 k1 k2 HY hx hx1' hx1 hx2 hv2 hbl2 hbl3 hu3
  have hl : (0 : Int) < ((len (x.num.natAbs % x.den) : Nat) : Int) := by have := len_pos.2 HR.out; omega
  have hlw : w.heap.size < w3.heap.size := by have := HK3.out.block_lt; omega
  have bA : Below w3.heap.size w3 (w3.alloc (.cells #[.int .u64 1] 112)) := (Below.refl _ _).alloc (Nat.le_refl _) _
  have hone : Nt (w3.alloc (.cells #[.int .u64 1] 112)) (.slice (some ⟨w3.heap.size, 0, none⟩) 1 1) 1 := word_nat w3 (x := 1) (by decide) (by rw [W_eq]; decide)
  have hlq : len (x.num.natAbs / x.den) ≤ 34359738368 := Nat.le_trans (len_mono (Nat.div_le_self _ _)) HS.out.1
  have HA := Lib.hid (add_any (hv3.keep bA) hone (Nat.le_trans hlq (by decide)) (by rw [len_one]; decide))
  have HB := Lib.hid bA
  clear HR bA hone hlq hv3
  go_wp2_with fail
  refine (HA.out).mono ?_
  rintro e w4 ⟨v4, rfl, hv4, b4⟩
  have q0 : w4.cell? ⟨w.heap.size, 0, none⟩ = some (.bool true) := ((chain HB.out b4).cell (p := ⟨w.heap.size, 0, none⟩) hlw).trans q0
  have HK3 := Lib.hid (HK3.out.call (chain HB.out b4))
  have HF := Lib.hid (fraction_int (neg := true) hv4 HV.out)
  clear HA HB b4 hv4
  go_wp2_with fail
  refine (HF.out).mono ?_
  rintro e w5 ⟨v5, rfl, hv5, b5⟩
  obtain ⟨C1, j1, C2, j2, rfl, -, -⟩ := hv5.opened
  have hk := (HK3.out.call b5).held (Stay.refl _)
  clear b5 HF q0
  obtain ⟨-, c0, c1', c2', f0, f1, f2, -⟩ := id hk
  have HD := hk.done (q := q) (b := decide (q.num < 0)) (A1 := C1) (n1 := len q.num.natAbs) (c1 := j1) (A2 := C2) (n2 := len (below q.den)) (c2 := j2) (hv5)
  obtain ⟨d1, d2, d3⟩ := HD
  have r0 := cell_of_row _ _ 0 _ _ _ d3
  have r1 := cell_of_row _ _ 1 _ _ _ d3
  have r2 := cell_of_row _ _ 2 _ _ _ d3
  simp only [List.getElem?_toArray, List.getElem?_cons_zero, List.getElem?_cons_succ] at r0 r1 r2
  have HD := Lib.hid (And.intro d1 d2)
  clear d1 d2 d3
  go_wp2_with fail
  refine bodyPost_ret (v := .agg #[.bool (decide (q.num < 0)), .slice (C1) (len q.num.natAbs) (j1), .slice (C2) (len (below q.den)) (j2)]) ?_ rfl ⟨_, rfl, HD.out.1, below_to HB0.out (by omega) HD.out.2⟩
  simp [results, Tryz.results39, go_sem, r0, r1, r2]

/-- Floor: the greatest whole number that is no greater. -/
theorem numFloor_any {w : World} {vx : Value} {x : Rat} (hx : IsNum w vx x) (hs : siz x ≤ 34359738368) :
    Calls Tryz.prog 39 #[vx] w (NumRet w (mkRat (x.num / (x.den : Int)) 1)) := by
  rcases Decidable.em (x.num < 0) with h | h
  · rcases Nat.eq_zero_or_pos (x.num.natAbs % x.den) with hr | hr
    · exact floor_neg hx rfl hs h hr
    · exact floor_down hx rfl hs h hr
  · exact floor_pos hx rfl hs h
end Go.Proofs.YtfppimacnhcflaaGreatDoor
namespace Go.Proofs.YtfppimacnhcflaaGreatDoor
open Go.RowKit
open Vx

/-- The greatest whole number that is no greater. -/
def flr (x : Rat) : Rat := mkRat (x.num / (x.den : Int)) 1
theorem siz_flr (x : Rat) : siz (flr x) ≤ siz x := by
  refine Nat.le_trans (siz_mk _ _) ?_
  have h1 := len_mono (Int.natAbs_ediv_le_natAbs x.num (x.den : Int))
  have h2 := siz_num x
  have h3 := siz_pos x
  have h4 := len_one
  omega
theorem numFlr_any {w : World} {vx : Value} {x : Rat} (hx : IsNum w vx x) (hs : siz x ≤ 34359738368) :
    Calls Tryz.prog 39 #[vx] w (NumRet w (flr x)) := numFloor_any hx hs

set_option maxRecDepth 100000 in
set_option maxHeartbeats 2000000 in
theorem ceil_to {w : World} {vx : Value} {x q : Rat} (hx : IsNum w vx x) (hq : -flr (-x) = q) (hs : siz x ≤ 34359738368) :
    Calls Tryz.prog 125 #[vx] w (NumRet w q) := by
  obtain ⟨A1, c1, A2, c2, rfl, hx1, hx2⟩ := hx.opened
  obtain ⟨wB, hwB⟩ : ∃ u, u = (w.alloc (.cells #[.bool (decide (x.num < 0)), .slice A1 (len x.num.natAbs) c1, .slice A2 (len (below x.den)) c2] 25)).alloc (.cells #[.bool false, .slice none 0 0, .slice none 0 0] 25) := ⟨_, rfl⟩
  obtain ⟨b0, gA, gB⟩ := news2 w (.cells #[.bool (decide (x.num < 0)), .slice A1 (len x.num.natAbs) c1, .slice A2 (len (below x.den)) c2] 25) (.cells #[.bool false, .slice none 0 0, .slice none 0 0] 25)
  rw [← hwB] at b0 gA gB
  have k0 : wB.cell? ⟨w.heap.size, 0, none⟩ = some (.bool (decide (x.num < 0))) := cell_of_row _ _ _ _ _ _ gA
  have k1 : wB.cell? ⟨w.heap.size, 1, none⟩ = some (.slice A1 (len x.num.natAbs) c1) := cell_of_row _ _ _ _ _ _ gA
  have k2 : wB.cell? ⟨w.heap.size, 2, none⟩ = some (.slice A2 (len (below x.den)) c2) := cell_of_row _ _ _ _ _ _ gA
  have HK0 := Lib.hid (Kept.start (T := 25) rfl (plain3 _ _ _ _ _ _ _) gB)
  have HB0 := Lib.hid b0
  have hlt1 : w.heap.size < w.heap.size + 1 := by omega
  clear gA gB b0
  have HX := Lib.hid (numNeg_any (hx.keep HB0.out) (Nat.le_trans hs (by decide)))
  have HQ := Lib.hid hq
  obtain ⟨y, hy⟩ : ∃ y, y = -x := ⟨_, rfl⟩
  obtain ⟨z, hz⟩ : ∃ z, z = flr y := ⟨_, rfl⟩
  have hsy : siz y ≤ 34359738368 := by rw [hy, siz_neg]; exact hs
  have hsz : siz z ≤ 34359738368 := by rw [hz]; exact Nat.le_trans (siz_flr y) hsy
  have HZ := Lib.hid hz
  have HQ := Lib.hid (show -z = q by rw [hz, hy]; exact hq)
  have HS := Lib.hid (And.intro hsy hsz)
  rw [← hy] at HX
  clear hy hz hq hs hsy hsz
  go_enter Tryz.func125, Tryz.ntmps125
  go_upto_region 1 with fail
  rw [← hwB]
  clear hwB
  go_wp2_with fail
  refine (HX.out).mono ?_
  rintro e w1 ⟨v1, rfl, hv1, b1⟩
  have HF := Lib.hid (numFlr_any hv1 HS.out.1)
  rw [← HZ.out] at HF
  have HK1 := Lib.hid (HK0.out.call b1)
  clear b1 HX
  go_wp2_with fail
  refine (HF.out).mono ?_
  rintro e w2 ⟨v2, rfl, hv2, b2⟩
  have HN := Lib.hid (numNeg_any hv2 (Nat.le_trans HS.out.2 (by decide)))
  rw [HQ.out] at HN
  have HK2 := Lib.hid (HK1.out.call b2)
  clear b2 HF
  go_wp2_with fail
  refine (HN.out).mono ?_
  rintro e w5 ⟨v5, rfl, hv5, b5⟩
  obtain ⟨C1, j1, C2, j2, rfl, -, -⟩ := hv5.opened
  have hk := (HK2.out.call b5).held (Stay.refl _)
  clear b5 HN
  obtain ⟨-, c0, c1', c2', f0, f1, f2, -⟩ := id hk
  have HD := hk.done (q := q) (b := decide (q.num < 0)) (A1 := C1) (n1 := len q.num.natAbs) (c1 := j1) (A2 := C2) (n2 := len (below q.den)) (c2 := j2) (hv5)
  obtain ⟨d1, d2, d3⟩ := HD
  have r0 := cell_of_row _ _ 0 _ _ _ d3
  have r1 := cell_of_row _ _ 1 _ _ _ d3
  have r2 := cell_of_row _ _ 2 _ _ _ d3
  simp only [List.getElem?_toArray, List.getElem?_cons_zero, List.getElem?_cons_succ] at r0 r1 r2
  have HD := Lib.hid (And.intro d1 d2)
  clear d1 d2 d3
  go_wp2_with fail
  refine bodyPost_ret (v := .agg #[.bool (decide (q.num < 0)), .slice (C1) (len q.num.natAbs) (j1), .slice (C2) (len (below q.den)) (j2)]) ?_ rfl ⟨_, rfl, HD.out.1, below_to HB0.out (by omega) HD.out.2⟩
  simp [results, Tryz.results125, go_sem, r0, r1, r2]

theorem numCeil_any {w : World} {vx : Value} {x : Rat} (hx : IsNum w vx x) (hs : siz x ≤ 34359738368) :
    Calls Tryz.prog 125 #[vx] w (NumRet w (-flr (-x))) := ceil_to hx rfl hs
end Go.Proofs.YtfppimacnhcflaaGreatDoor
namespace Go.Proofs.YtfppimacnhcflaaGreatDoor
open Go.RowKit
open Vx

/-- A number's three cells. -/
def Three (w : World) (B : Nat) (v0 v1 v2 : Value) : Prop := w.cell? ⟨B, 0, none⟩ = some v0 ∧ w.cell? ⟨B, 1, none⟩ = some v1 ∧ w.cell? ⟨B, 2, none⟩ = some v2
theorem Three.call {w w' : World} {B : Nat} {v0 v1 v2 : Value} (h : Three w B v0 v1 v2) (hb : Below w.heap.size w w') : Three w' B v0 v1 v2 := by
  have hl := World.block_lt_of_cell? w _ h.1
  exact ⟨(hb.cell (p := ⟨B, 0, none⟩) hl).trans h.1, (hb.cell (p := ⟨B, 1, none⟩) hl).trans h.2.1, (hb.cell (p := ⟨B, 2, none⟩) hl).trans h.2.2⟩
theorem Three.drew {w : World} {B : Nat} {v0 v1 v2 : Value} (h : Three w B v0 v1 v2) : Three w.drew B v0 v1 v2 := h.call ⟨rfl, rfl, rfl, Nat.le_refl _, fun _ _ => rfl⟩
theorem Three.put {w : World} {B G : Nat} {v0 v1 v2 : Value} (h : Three w B v0 v1 v2) (hne : B ≠ G) (i : Nat) (v : Value) : Three (w.setCell ⟨G, i, none⟩ v) B v0 v1 v2 := by
  refine ⟨?_, ?_, ?_⟩ <;> rw [World.cell?_setCell_other _ _ _ _ (by intro e; injection e with e1; omega)]
  · exact h.1
  · exact h.2.1
  · exact h.2.2
theorem half_siz : siz (mkRat 1 2) = 1 := by decide +kernel
theorem half_num {w : World} {v1 v2 : Value} (h1 : Nt w v1 1) (h2 : Nt w v2 2) : IsNum w (.agg #[.bool false, v1, v2]) (mkRat 1 2) := by
  refine ⟨v1, v2, ?_, ?_, ?_⟩
  · rw [show decide ((mkRat 1 2).num < 0) = false by decide +kernel]
  · rw [show (mkRat 1 2).num.natAbs = 1 by decide +kernel]; exact h1
  · rw [show below (mkRat 1 2).den = 2 by decide +kernel]; exact h2

set_option maxRecDepth 100000 in
set_option maxHeartbeats 2000000 in
theorem round_bad {w : World} {vx vy : Value} {x y : Rat} (hx : IsNum w vx x) (hy : IsNum w vy y) (h : y.num ≤ 0) :
    Calls Tryz.prog 42 #[vx, vy] w (NumErrRet w 0 3) := by
  obtain ⟨A1, c1, A2, c2, rfl, hx1, hx2⟩ := hx.opened
  obtain ⟨A3, c3, A4, c4, rfl, hy1, hy2⟩ := hy.opened
  obtain ⟨wB, hwB⟩ : ∃ u, u = ((w.alloc (.cells #[.bool (decide (x.num < 0)), .slice A1 (len x.num.natAbs) c1, .slice A2 (len (below x.den)) c2] 25)).alloc (.cells #[.bool (decide (y.num < 0)), .slice A3 (len y.num.natAbs) c3, .slice A4 (len (below y.den)) c4] 25)).alloc (.cells #[.bool false, .slice none 0 0, .slice none 0 0] 25) := ⟨_, rfl⟩
  obtain ⟨b0, gA, gA2, gB⟩ := news3 w (.cells #[.bool (decide (x.num < 0)), .slice A1 (len x.num.natAbs) c1, .slice A2 (len (below x.den)) c2] 25) (.cells #[.bool (decide (y.num < 0)), .slice A3 (len y.num.natAbs) c3, .slice A4 (len (below y.den)) c4] 25) (.cells #[.bool false, .slice none 0 0, .slice none 0 0] 25)
  rw [← hwB] at b0 gA gA2 gB
  have k0 : wB.cell? ⟨w.heap.size, 0, none⟩ = some (.bool (decide (x.num < 0))) := cell_of_row _ _ _ _ _ _ gA
  have k1 : wB.cell? ⟨w.heap.size, 1, none⟩ = some (.slice A1 (len x.num.natAbs) c1) := cell_of_row _ _ _ _ _ _ gA
  have k2 : wB.cell? ⟨w.heap.size, 2, none⟩ = some (.slice A2 (len (below x.den)) c2) := cell_of_row _ _ _ _ _ _ gA
  have k3 : wB.cell? ⟨w.heap.size + 1, 0, none⟩ = some (.bool (decide (y.num < 0))) := cell_of_row _ _ _ _ _ _ gA2
  have k4 : wB.cell? ⟨w.heap.size + 1, 1, none⟩ = some (.slice A3 (len y.num.natAbs) c3) := cell_of_row _ _ _ _ _ _ gA2
  have k5 : wB.cell? ⟨w.heap.size + 1, 2, none⟩ = some (.slice A4 (len (below y.den)) c4) := cell_of_row _ _ _ _ _ _ gA2
  have HK0 := Lib.hid (Kept.start (T := 25) rfl (plain3 _ _ _ _ _ _ _) gB)
  have HB0 := Lib.hid b0
  have hlt1 : w.heap.size < w.heap.size + 2 := by omega
  have hlt2 : w.heap.size + 1 < w.heap.size + 2 := by omega
  clear gA gA2 gB b0
  have HX := Lib.hid (numSign_any (hy.keep HB0.out))
  have HE : Hid (y.num.sign ≤ 0) := Int.sign_nonpos_iff.2 h
  obtain ⟨c, hc⟩ : ∃ c, c = y.num.sign := ⟨_, rfl⟩
  rw [← hc] at HX HE
  clear h hx hy hc
  go_enter Tryz.func42, Tryz.ntmps42
  go_wp2_with fail
  rw [← hwB]
  clear hwB
  refine (HX.out).mono ?_
  rintro e w1 ⟨rfl, b1⟩
  have hce := HE.out
  have hk := (HK0.out.call b1).held (Stay.refl _)
  obtain ⟨-, c0, c1', c2', f0, f1, f2, -⟩ := id hk
  have HD := hk.done (q := 0) (b := false) (A1 := none) (n1 := 0) (c1 := 0) (A2 := none) (n2 := 0) (c2 := 0) (zero_num _)
  obtain ⟨d1, d2, d3⟩ := HD
  have r0 := cell_of_row _ _ 0 _ _ _ d3
  have r1 := cell_of_row _ _ 1 _ _ _ d3
  have r2 := cell_of_row _ _ 2 _ _ _ d3
  simp only [List.getElem?_toArray, List.getElem?_cons_zero, List.getElem?_cons_succ] at r0 r1 r2
  have HD := Lib.hid (And.intro d1 d2)
  clear d1 d2 d3
  go_wp2_with fail
  refine bodyPost_ret (v := .tuple #[.agg #[.bool (false), .slice (none) (0) (0), .slice (none) (0) (0)], .int .i64 3]) ?_ rfl ⟨_, rfl, HD.out.1, below_to HB0.out (by omega) HD.out.2⟩
  simp [results, Tryz.results42, go_sem, r0, r1, r2]

set_option maxRecDepth 100000 in
set_option maxHeartbeats 2000000 in
theorem round_ok {w : World} {vx vy : Value} {x y q : Rat} (hx : IsNum w vx x) (hy : IsNum w vy y) (h : 0 < y.num) (hq : flr (x / y + mkRat 1 2) * y = q) (hs : siz x ≤ 8589934592) (ht : siz y ≤ 8589934592) :
    Calls Tryz.prog 42 #[vx, vy] w (NumErrRet w q 0) := by
  obtain ⟨A1, c1, A2, c2, rfl, hx1, hx2⟩ := hx.opened
  obtain ⟨A3, c3, A4, c4, rfl, hy1, hy2⟩ := hy.opened
  obtain ⟨wB, hwB⟩ : ∃ u, u = ((w.alloc (.cells #[.bool (decide (x.num < 0)), .slice A1 (len x.num.natAbs) c1, .slice A2 (len (below x.den)) c2] 25)).alloc (.cells #[.bool (decide (y.num < 0)), .slice A3 (len y.num.natAbs) c3, .slice A4 (len (below y.den)) c4] 25)).alloc (.cells #[.bool false, .slice none 0 0, .slice none 0 0] 25) := ⟨_, rfl⟩
  obtain ⟨b0, gA, gA2, gB⟩ := news3 w (.cells #[.bool (decide (x.num < 0)), .slice A1 (len x.num.natAbs) c1, .slice A2 (len (below x.den)) c2] 25) (.cells #[.bool (decide (y.num < 0)), .slice A3 (len y.num.natAbs) c3, .slice A4 (len (below y.den)) c4] 25) (.cells #[.bool false, .slice none 0 0, .slice none 0 0] 25)
  rw [← hwB] at b0 gA gA2 gB
  have k0 : wB.cell? ⟨w.heap.size, 0, none⟩ = some (.bool (decide (x.num < 0))) := cell_of_row _ _ _ _ _ _ gA
  have k1 : wB.cell? ⟨w.heap.size, 1, none⟩ = some (.slice A1 (len x.num.natAbs) c1) := cell_of_row _ _ _ _ _ _ gA
  have k2 : wB.cell? ⟨w.heap.size, 2, none⟩ = some (.slice A2 (len (below x.den)) c2) := cell_of_row _ _ _ _ _ _ gA
  have k3 : wB.cell? ⟨w.heap.size + 1, 0, none⟩ = some (.bool (decide (y.num < 0))) := cell_of_row _ _ _ _ _ _ gA2
  have k4 : wB.cell? ⟨w.heap.size + 1, 1, none⟩ = some (.slice A3 (len y.num.natAbs) c3) := cell_of_row _ _ _ _ _ _ gA2
  have k5 : wB.cell? ⟨w.heap.size + 1, 2, none⟩ = some (.slice A4 (len (below y.den)) c4) := cell_of_row _ _ _ _ _ _ gA2
  have HK0 := Lib.hid (Kept.start (T := 25) rfl (plain3 _ _ _ _ _ _ _) gB)
  have HB0 := Lib.hid b0
  have hlt1 : w.heap.size < w.heap.size + 2 := by omega
  have hlt2 : w.heap.size + 1 < w.heap.size + 2 := by omega
  clear gA gA2 gB b0
  have HX := Lib.hid (numSign_any (hy.keep HB0.out))
  have HE : Hid (¬ y.num.sign ≤ 0) := by
    show ¬ _
    rw [Int.sign_nonpos_iff]
    omega
  obtain ⟨c, hc⟩ : ∃ c, c = y.num.sign := ⟨_, rfl⟩
  rw [← hc] at HX HE
  clear h hc
  go_enter Tryz.func42, Tryz.ntmps42
  go_wp2_with fail
  rw [← hwB]
  clear hwB
  refine (HX.out).mono ?_
  rintro e w1 ⟨rfl, b1⟩
  have hce := HE.out
  have HK1 := Lib.hid (HK0.out.call b1)
  clear HX
  go_wp2_with fail
  obtain ⟨wC, hwC⟩ : ∃ u, u = ((w1.alloc (.cells #[.int .u64 1] 112)).alloc (.cells #[.int .u64 2] 112)).alloc (.cells #[.bool false, .slice (some ⟨w1.heap.size, 0, none⟩) 1 1, .slice (some ⟨w1.heap.size + 1, 0, none⟩) 1 1] 25) := ⟨_, rfl⟩
  obtain ⟨bC, -, -, gC⟩ := news3 w1 (.cells #[.int .u64 1] 112) (.cells #[.int .u64 2] 112) (.cells #[.bool false, .slice (some ⟨w1.heap.size, 0, none⟩) 1 1, .slice (some ⟨w1.heap.size + 1, 0, none⟩) 1 1] 25)
  have n1 : Nt ((w1.alloc (.cells #[.int .u64 1] 112))) (.slice (some ⟨w1.heap.size, 0, none⟩) 1 1) 1 := word_nat w1 (x := 1) (by decide) (by rw [W_eq]; decide)
  have n2 : Nt ((w1.alloc (.cells #[.int .u64 1] 112)).alloc (.cells #[.int .u64 2] 112)) (.slice (some ⟨w1.heap.size + 1, 0, none⟩) 1 1) 2 := by
    have := word_nat (w1.alloc (.cells #[.int .u64 1] 112)) (x := 2) (by decide) (by rw [W_eq]; decide)
    rw [World.size_alloc] at this
    exact this
  have n1' := (n1.keep ((Below.refl _ _).alloc (Nat.le_refl _) (.cells #[.int .u64 2] 112))).keep ((Below.refl _ _).alloc (Nat.le_refl _) (.cells #[.bool false, .slice (some ⟨w1.heap.size, 0, none⟩) 1 1, .slice (some ⟨w1.heap.size + 1, 0, none⟩) 1 1] 25))
  have n2' := n2.keep ((Below.refl _ _).alloc (Nat.le_refl _) (.cells #[.bool false, .slice (some ⟨w1.heap.size, 0, none⟩) 1 1, .slice (some ⟨w1.heap.size + 1, 0, none⟩) 1 1] 25))
  rw [← hwC] at bC gC n1' n2' ⊢
  have hh := half_num n1' n2'
  have h3 : Three wC (w1.heap.size + 1 + 1) (.bool false) (.slice (some ⟨w1.heap.size, 0, none⟩) 1 1) (.slice (some ⟨w1.heap.size + 1, 0, none⟩) 1 1) := ⟨cell_of_row _ _ 0 _ _ _ gC, cell_of_row _ _ 1 _ _ _ gC, cell_of_row _ _ 2 _ _ _ gC⟩
  have hxC := (hx.keep (below_to HB0.out (by omega) HK1.out.1)).keep bC
  have hyC := (hy.keep (below_to HB0.out (by omega) HK1.out.1)).keep bC
  have HNE := Lib.hid (show w1.heap.size + 1 + 1 ≠ w.heap.size + 2 by have := HK1.out.block_lt; omega)
  have HKC := Lib.hid (HK1.out.call bC)
  have H0 := HKC.out.begin
  have H3 := h3.drew
  obtain ⟨z1, hz1⟩ : ∃ z, z = x / y := ⟨_, rfl⟩
  obtain ⟨z2, hz2⟩ : ∃ z, z = z1 + mkRat 1 2 := ⟨_, rfl⟩
  obtain ⟨z3, hz3⟩ : ∃ z, z = flr z2 := ⟨_, rfl⟩
  have s1 : siz z1 ≤ 17179869184 := by have := siz_div x y; rw [← hz1] at this; omega
  have s2 : siz z2 ≤ 34359738368 := by have := siz_add z1 (mkRat 1 2); rw [← hz2, half_siz] at this; omega
  have s3 : siz z3 ≤ 34359738368 := by rw [hz3]; exact Nat.le_trans (siz_flr _) s2
  have HQ := Lib.hid (show z3 * y = q by rw [hz3, hz2, hz1]; exact hq)
  have HS := Lib.hid (And.intro s1 (And.intro s2 s3))
  have HT := Lib.hid (And.intro hs ht)
  have C1 := fun (w' : World) (hk : Held3 wB (w.heap.size + 2) wC w') => Lib.hid (numOver_any (hk.stay.num hxC) (hk.stay.num hyC) (Nat.le_trans hs (by decide)) (Nat.le_trans ht (by decide)))
  rw [← hz1] at C1
  have C2 := fun (w' : World) (v : Value) (hv : IsNum w' v z1) (hk : Held3 wB (w.heap.size + 2) wC w') => Lib.hid (numAdd_any hv (hk.stay.num hh) (Nat.le_trans HS.out.1 (by decide)) (by rw [half_siz]; decide))
  rw [← hz2] at C2
  have C3 := fun (w' : World) (v : Value) (hv : IsNum w' v z2) => Lib.hid (numFlr_any hv HS.out.2.1)
  rw [← hz3] at C3
  have C4 := fun (w' : World) (v : Value) (hv : IsNum w' v z3) (hk : Held3 wB (w.heap.size + 2) wC w') => Lib.hid (numMul_any hv (hk.stay.num hyC) HS.out.2.2 (Nat.le_trans HT.out.2 (by decide)))
  rw [HQ.out] at C4
  clear hwC bC gC n1 n2 n1' n2' hh hxC hyC hz1 hz2 hz3 s1 s2 s3 hq hs ht hx hy b1 hx1 hx2 hy1 hy2 HE hce h3
  go_region_held3 (fun w' => w'.cell? ⟨w1.heap.size + 1 + 1, 0, none⟩ = some (.bool false) ∧ w'.cell? ⟨w1.heap.size + 1 + 1, 1, none⟩ = some (.slice (some ⟨w1.heap.size, 0, none⟩) 1 1) ∧ w'.cell? ⟨w1.heap.size + 1 + 1, 2, none⟩ = some (.slice (some ⟨w1.heap.size + 1, 0, none⟩) 1 1) ∧ (∀ b o, b < w.heap.size + 2 → w'.cell? ⟨b, o, none⟩ = wB.cell? ⟨b, o, none⟩) ∧ w'.cell? ⟨w.heap.size + 2, 0, none⟩ = some (cur w' ⟨w.heap.size + 2, 0, none⟩) ∧ w'.cell? ⟨w.heap.size + 2, 1, none⟩ = some (cur w' ⟨w.heap.size + 2, 1, none⟩) ∧ w'.cell? ⟨w.heap.size + 2, 2, none⟩ = some (cur w' ⟨w.heap.size + 2, 2, none⟩) ∧ w'.frozen? ⟨w.heap.size + 2, 0, none⟩ = false ∧ w'.frozen? ⟨w.heap.size + 2, 1, none⟩ = false ∧ w'.frozen? ⟨w.heap.size + 2, 2, none⟩ = false ∧ Kept 3 25 wB (w.heap.size + 2) w' ∧ Stay wC w')
    (first | exact ⟨H3.1, H3.2.1, H3.2.2, H0⟩ | exact ⟨(((j5.put HNE.out 0 _).put HNE.out 1 _).put HNE.out 2 _).1, (((j5.put HNE.out 0 _).put HNE.out 1 _).put HNE.out 2 _).2.1, (((j5.put HNE.out 0 _).put HNE.out 1 _).put HNE.out 2 _).2.2, hk5.store⟩ | exact ⟨j5.1, j5.2.1, j5.2.2, hk5⟩ | exact ⟨j4.1, j4.2.1, j4.2.2, hk4⟩ | exact ⟨j3.1, j3.2.1, j3.2.2, hk3⟩ | exact ⟨j2.1, j2.2.1, j2.2.2, hk2⟩)
    (first | (go_at_call 117; refine ((C1 _ H0).out).mono ?_; rintro e w2 ⟨v2, rfl, hv2, hbl2⟩; have hk2 := H0.call hbl2; have j2 := H3.call hbl2; obtain ⟨D1, i1, D2, i2, rfl, -, -⟩ := hv2.opened) | (go_at_call 23; refine ((C2 _ _ hv2 hk2).out).mono ?_; rintro e w3 ⟨v3, rfl, hv3, hbl3⟩; have hk3 := hk2.call hbl3; have j3 := j2.call hbl3; obtain ⟨D3, i3, D4, i4, rfl, -, -⟩ := hv3.opened) | (go_at_call 39; refine ((C3 _ _ hv3).out).mono ?_; rintro e w4 ⟨v4, rfl, hv4, hbl4⟩; have hk4 := hk3.call hbl4; have j4 := j3.call hbl4; obtain ⟨D5, i5, D6, i6, rfl, -, -⟩ := hv4.opened) | (go_at_call 27; refine ((C4 _ _ hv4 hk4).out).mono ?_; rintro e w5 ⟨v5, rfl, hv5, hbl5⟩; have hk5 := hk4.call hbl5; have j5 := j4.call hbl5; obtain ⟨E1, j1, E2, j2', rfl, -, -⟩ := hv5.opened))
  rename_i hHl
  clear hHl
  have HD := hk5.done (q := q) (b := decide (q.num < 0)) (A1 := E1) (n1 := len q.num.natAbs) (c1 := j1) (A2 := E2) (n2 := len (below q.den)) (c2 := j2') (hv5)
  obtain ⟨d1, d2, d3⟩ := HD
  have r0 := cell_of_row _ _ 0 _ _ _ d3
  have r1 := cell_of_row _ _ 1 _ _ _ d3
  have r2 := cell_of_row _ _ 2 _ _ _ d3
  simp only [List.getElem?_toArray, List.getElem?_cons_zero, List.getElem?_cons_succ] at r0 r1 r2
  have HD := Lib.hid (And.intro d1 d2)
  clear d1 d2 d3
  go_wp2_with fail
  refine bodyPost_ret (v := .tuple #[.agg #[.bool (decide (q.num < 0)), .slice (E1) (len q.num.natAbs) (j1), .slice (E2) (len (below q.den)) (j2')], .int .i64 0]) ?_ rfl ⟨_, rfl, HD.out.1, below_to HB0.out (by omega) HD.out.2⟩
  simp [results, Tryz.results42, go_sem, r0, r1, r2]

/-- Round: the nearest multiple of a grid, or the error of a range. -/
theorem numRound_any {w : World} {vx vy : Value} {x y : Rat} (hx : IsNum w vx x) (hy : IsNum w vy y) (hs : siz x ≤ 8589934592) (ht : siz y ≤ 8589934592) :
    Calls Tryz.prog 42 #[vx, vy] w (NumErrRet w (if 0 < y.num then flr (x / y + mkRat 1 2) * y else 0) (if 0 < y.num then 0 else 3)) := by
  rcases Decidable.em (0 < y.num) with h | h
  · rw [if_pos h, if_pos h]
    exact round_ok hx hy h rfl hs ht
  · rw [if_neg h, if_neg h]
    exact round_bad hx hy (by omega)
end Go.Proofs.YtfppimacnhcflaaGreatDoor
namespace Go.Proofs.YtfppimacnhcflaaGreatDoor
open Go.RowKit
open Vx

/-- A box of two ends: its six parts lie in a row. -/
def IsBox (w : World) (v : Value) (a b : Rat) : Prop :=
  ∃ v1 v2 v3 v4, v = .agg #[.bool (decide (a.num < 0)), v1, v2, .bool (decide (b.num < 0)), v3, v4] ∧ Nt w v1 a.num.natAbs ∧ Nt w v2 (below a.den) ∧ Nt w v3 b.num.natAbs ∧ Nt w v4 (below b.den)
theorem IsBox.keep {w w' : World} {v : Value} {a b : Rat} (h : IsBox w v a b) (hb : Below w.heap.size w w') : IsBox w' v a b := by
  obtain ⟨v1, v2, v3, v4, h0, h1, h2, h3, h4⟩ := h
  exact ⟨v1, v2, v3, v4, h0, h1.keep hb, h2.keep hb, h3.keep hb, h4.keep hb⟩
theorem IsBox.opened {w : World} {v : Value} {a b : Rat} (h : IsBox w v a b) : ∃ A1 c1 A2 c2 A3 c3 A4 c4,
    v = .agg #[.bool (decide (a.num < 0)), .slice A1 (len a.num.natAbs) c1, .slice A2 (len (below a.den)) c2, .bool (decide (b.num < 0)), .slice A3 (len b.num.natAbs) c3, .slice A4 (len (below b.den)) c4] ∧
    IsNum w (.agg #[.bool (decide (a.num < 0)), .slice A1 (len a.num.natAbs) c1, .slice A2 (len (below a.den)) c2]) a ∧ IsNum w (.agg #[.bool (decide (b.num < 0)), .slice A3 (len b.num.natAbs) c3, .slice A4 (len (below b.den)) c4]) b := by
  obtain ⟨v1, v2, v3, v4, rfl, h1, h2, h3, h4⟩ := h
  obtain ⟨A1, c1, rfl, -⟩ := id h1
  obtain ⟨A2, c2, rfl, -⟩ := id h2
  obtain ⟨A3, c3, rfl, -⟩ := id h3
  obtain ⟨A4, c4, rfl, -⟩ := id h4
  exact ⟨A1, c1, A2, c2, A3, c3, A4, c4, rfl, ⟨_, _, rfl, h1, h2⟩, ⟨_, _, rfl, h3, h4⟩⟩
theorem IsNum.pair {w : World} {A1 c1 A2 c2 A3 c3 A4 c4} {a b : Rat} {n1 n2 n3 n4 : Nat} {s1 s2 : Bool} (h1 : IsNum w (.agg #[.bool s1, .slice A1 n1 c1, .slice A2 n2 c2]) a) (h2 : IsNum w (.agg #[.bool s2, .slice A3 n3 c3, .slice A4 n4 c4]) b) :
    IsBox w (.agg #[.bool s1, .slice A1 n1 c1, .slice A2 n2 c2, .bool s2, .slice A3 n3 c3, .slice A4 n4 c4]) a b := by
  obtain ⟨u1, u2, e1, h3, h4⟩ := h1
  obtain ⟨u3, u4, e2, h5, h6⟩ := h2
  simp only [Value.agg.injEq, Array.mk.injEq, List.cons.injEq, Value.bool.injEq, and_true] at e1 e2
  obtain ⟨rfl, rfl, rfl⟩ := e1
  obtain ⟨rfl, rfl, rfl⟩ := e2
  exact ⟨_, _, _, _, rfl, h3, h4, h5, h6⟩
/-- A box is returned; nothing old has changed. -/
def BoxRet (w : World) (a b : Rat) (e : Ending) (w' : World) : Prop := ∃ v, e = .returned v ∧ IsBox w' v a b ∧ Below w.heap.size w w'

set_option maxRecDepth 100000 in
set_option maxHeartbeats 2000000 in
theorem boxLo_any {w : World} {v : Value} {a b : Rat} (hv : IsBox w v a b) (hs : siz a ≤ 1099511627776) :
    Calls Tryz.prog 95 #[v] w (NumRet w a) := by
  obtain ⟨A1, c1, A2, c2, A3, c3, A4, c4, rfl, hx, hy⟩ := hv.opened
  obtain ⟨wB, hwB⟩ : ∃ u, u = (w.alloc (.cells #[.bool (decide (a.num < 0)), .slice A1 (len a.num.natAbs) c1, .slice A2 (len (below a.den)) c2, .bool (decide (b.num < 0)), .slice A3 (len b.num.natAbs) c3, .slice A4 (len (below b.den)) c4] 71)).alloc (.cells #[.bool false, .slice none 0 0, .slice none 0 0] 25) := ⟨_, rfl⟩
  obtain ⟨b0, gA, gB⟩ := news2 w (.cells #[.bool (decide (a.num < 0)), .slice A1 (len a.num.natAbs) c1, .slice A2 (len (below a.den)) c2, .bool (decide (b.num < 0)), .slice A3 (len b.num.natAbs) c3, .slice A4 (len (below b.den)) c4] 71) (.cells #[.bool false, .slice none 0 0, .slice none 0 0] 25)
  rw [← hwB] at b0 gA gB
  have k0 : wB.cell? ⟨w.heap.size, 0, none⟩ = some (.bool (decide (a.num < 0))) := cell_of_row _ _ _ _ _ _ gA
  have k1 : wB.cell? ⟨w.heap.size, 1, none⟩ = some (.slice A1 (len a.num.natAbs) c1) := cell_of_row _ _ _ _ _ _ gA
  have k2 : wB.cell? ⟨w.heap.size, 2, none⟩ = some (.slice A2 (len (below a.den)) c2) := cell_of_row _ _ _ _ _ _ gA
  have k3 : wB.cell? ⟨w.heap.size, 3, none⟩ = some (.bool (decide (b.num < 0))) := cell_of_row _ _ _ _ _ _ gA
  have k4 : wB.cell? ⟨w.heap.size, 4, none⟩ = some (.slice A3 (len b.num.natAbs) c3) := cell_of_row _ _ _ _ _ _ gA
  have k5 : wB.cell? ⟨w.heap.size, 5, none⟩ = some (.slice A4 (len (below b.den)) c4) := cell_of_row _ _ _ _ _ _ gA
  have HK0 := Lib.hid (Kept.start (T := 25) rfl (plain3 _ _ _ _ _ _ _) gB)
  have HB0 := Lib.hid b0
  have hlt1 : w.heap.size < w.heap.size + 1 := by omega
  clear gA gB b0
  have HX := Lib.hid (numCopied_any (hx.keep HB0.out) hs)
  clear hs hx hy hv
  go_enter Tryz.func95, Tryz.ntmps95
  go_upto_region 1 with fail
  rw [← hwB]
  clear hwB
  go_wp2_with fail
  refine (HX.out).mono ?_
  rintro e w5 ⟨v5, rfl, hv5, b5⟩
  obtain ⟨C1, j1, C2, j2, rfl, -, -⟩ := hv5.opened
  have hk := (HK0.out.call b5).held (Stay.refl _)
  clear b5 HX
  obtain ⟨-, c0, c1', c2', f0, f1, f2, -⟩ := id hk
  have HD := hk.done (q := a) (b := decide (a.num < 0)) (A1 := C1) (n1 := len a.num.natAbs) (c1 := j1) (A2 := C2) (n2 := len (below a.den)) (c2 := j2) (hv5)
  obtain ⟨d1, d2, d3⟩ := HD
  have r0 := cell_of_row _ _ 0 _ _ _ d3
  have r1 := cell_of_row _ _ 1 _ _ _ d3
  have r2 := cell_of_row _ _ 2 _ _ _ d3
  simp only [List.getElem?_toArray, List.getElem?_cons_zero, List.getElem?_cons_succ] at r0 r1 r2
  have HD := Lib.hid (And.intro d1 d2)
  clear d1 d2 d3
  go_wp2_with fail
  refine bodyPost_ret (v := .agg #[.bool (decide (a.num < 0)), .slice (C1) (len a.num.natAbs) (j1), .slice (C2) (len (below a.den)) (j2)]) ?_ rfl ⟨_, rfl, HD.out.1, below_to HB0.out (by omega) HD.out.2⟩
  simp [results, Tryz.results95, go_sem, r0, r1, r2]

set_option maxRecDepth 100000 in
set_option maxHeartbeats 2000000 in
theorem boxHi_any {w : World} {v : Value} {a b : Rat} (hv : IsBox w v a b) (hs : siz b ≤ 1099511627776) :
    Calls Tryz.prog 96 #[v] w (NumRet w b) := by
  obtain ⟨A1, c1, A2, c2, A3, c3, A4, c4, rfl, hx, hy⟩ := hv.opened
  obtain ⟨wB, hwB⟩ : ∃ u, u = (w.alloc (.cells #[.bool (decide (a.num < 0)), .slice A1 (len a.num.natAbs) c1, .slice A2 (len (below a.den)) c2, .bool (decide (b.num < 0)), .slice A3 (len b.num.natAbs) c3, .slice A4 (len (below b.den)) c4] 71)).alloc (.cells #[.bool false, .slice none 0 0, .slice none 0 0] 25) := ⟨_, rfl⟩
  obtain ⟨b0, gA, gB⟩ := news2 w (.cells #[.bool (decide (a.num < 0)), .slice A1 (len a.num.natAbs) c1, .slice A2 (len (below a.den)) c2, .bool (decide (b.num < 0)), .slice A3 (len b.num.natAbs) c3, .slice A4 (len (below b.den)) c4] 71) (.cells #[.bool false, .slice none 0 0, .slice none 0 0] 25)
  rw [← hwB] at b0 gA gB
  have k0 : wB.cell? ⟨w.heap.size, 0, none⟩ = some (.bool (decide (a.num < 0))) := cell_of_row _ _ _ _ _ _ gA
  have k1 : wB.cell? ⟨w.heap.size, 1, none⟩ = some (.slice A1 (len a.num.natAbs) c1) := cell_of_row _ _ _ _ _ _ gA
  have k2 : wB.cell? ⟨w.heap.size, 2, none⟩ = some (.slice A2 (len (below a.den)) c2) := cell_of_row _ _ _ _ _ _ gA
  have k3 : wB.cell? ⟨w.heap.size, 3, none⟩ = some (.bool (decide (b.num < 0))) := cell_of_row _ _ _ _ _ _ gA
  have k4 : wB.cell? ⟨w.heap.size, 4, none⟩ = some (.slice A3 (len b.num.natAbs) c3) := cell_of_row _ _ _ _ _ _ gA
  have k5 : wB.cell? ⟨w.heap.size, 5, none⟩ = some (.slice A4 (len (below b.den)) c4) := cell_of_row _ _ _ _ _ _ gA
  have HK0 := Lib.hid (Kept.start (T := 25) rfl (plain3 _ _ _ _ _ _ _) gB)
  have HB0 := Lib.hid b0
  have hlt1 : w.heap.size < w.heap.size + 1 := by omega
  clear gA gB b0
  have HX := Lib.hid (numCopied_any (hy.keep HB0.out) hs)
  clear hs hx hy hv
  go_enter Tryz.func96, Tryz.ntmps96
  go_upto_region 1 with fail
  rw [← hwB]
  clear hwB
  go_wp2_with fail
  refine (HX.out).mono ?_
  rintro e w5 ⟨v5, rfl, hv5, b5⟩
  obtain ⟨C1, j1, C2, j2, rfl, -, -⟩ := hv5.opened
  have hk := (HK0.out.call b5).held (Stay.refl _)
  clear b5 HX
  obtain ⟨-, c0, c1', c2', f0, f1, f2, -⟩ := id hk
  have HD := hk.done (q := b) (b := decide (b.num < 0)) (A1 := C1) (n1 := len b.num.natAbs) (c1 := j1) (A2 := C2) (n2 := len (below b.den)) (c2 := j2) (hv5)
  obtain ⟨d1, d2, d3⟩ := HD
  have r0 := cell_of_row _ _ 0 _ _ _ d3
  have r1 := cell_of_row _ _ 1 _ _ _ d3
  have r2 := cell_of_row _ _ 2 _ _ _ d3
  simp only [List.getElem?_toArray, List.getElem?_cons_zero, List.getElem?_cons_succ] at r0 r1 r2
  have HD := Lib.hid (And.intro d1 d2)
  clear d1 d2 d3
  go_wp2_with fail
  refine bodyPost_ret (v := .agg #[.bool (decide (b.num < 0)), .slice (C1) (len b.num.natAbs) (j1), .slice (C2) (len (below b.den)) (j2)]) ?_ rfl ⟨_, rfl, HD.out.1, below_to HB0.out (by omega) HD.out.2⟩
  simp [results, Tryz.results96, go_sem, r0, r1, r2]
end Go.Proofs.YtfppimacnhcflaaGreatDoor
namespace Go.Proofs.YtfppimacnhcflaaGreatDoor
open Go.RowKit
open Vx

/-- What holds while a result of type Box is made in block G. -/
def Held6 (wB : World) (G : Nat) (wS w : World) : Prop :=
  (∀ b o, b < G → w.cell? ⟨b, o, none⟩ = wB.cell? ⟨b, o, none⟩) ∧ w.cell? ⟨G, 0, none⟩ = some (cur w ⟨G, 0, none⟩) ∧ w.cell? ⟨G, 1, none⟩ = some (cur w ⟨G, 1, none⟩) ∧ w.cell? ⟨G, 2, none⟩ = some (cur w ⟨G, 2, none⟩) ∧ w.cell? ⟨G, 3, none⟩ = some (cur w ⟨G, 3, none⟩) ∧ w.cell? ⟨G, 4, none⟩ = some (cur w ⟨G, 4, none⟩) ∧ w.cell? ⟨G, 5, none⟩ = some (cur w ⟨G, 5, none⟩) ∧ w.frozen? ⟨G, 0, none⟩ = false ∧ w.frozen? ⟨G, 1, none⟩ = false ∧ w.frozen? ⟨G, 2, none⟩ = false ∧ w.frozen? ⟨G, 3, none⟩ = false ∧ w.frozen? ⟨G, 4, none⟩ = false ∧ w.frozen? ⟨G, 5, none⟩ = false ∧ Kept 6 71 wB (G) w ∧ Stay wS w
theorem Kept.held6 {wB wS w : World} {G : Nat} (h : Kept 6 71 wB G w) (hS : Stay wS w) : Held6 wB G wS w := by
  obtain ⟨hb, cs, hs, hp, hg⟩ := id h
  exact ⟨below_cell hb, cur_of hg (by omega), cur_of hg (by omega), cur_of hg (by omega), cur_of hg (by omega), cur_of hg (by omega), cur_of hg (by omega), frozen_of_row w G 0 _ _ hg, frozen_of_row w G 1 _ _ hg, frozen_of_row w G 2 _ _ hg, frozen_of_row w G 3 _ _ hg, frozen_of_row w G 4 _ _ hg, frozen_of_row w G 5 _ _ hg, h, hS⟩
theorem Held6.kept {wB wS w : World} {G : Nat} (h : Held6 wB G wS w) : Kept 6 71 wB G w := by
  obtain ⟨-, -, -, -, -, -, -, -, -, -, -, -, -, h, -⟩ := h
  exact h
theorem Held6.stay {wB wS w : World} {G : Nat} (h : Held6 wB G wS w) : Stay wS w := by
  obtain ⟨-, -, -, -, -, -, -, -, -, -, -, -, -, -, h⟩ := h
  exact h
theorem Held6.call {wB wS w w' : World} {G : Nat} (h : Held6 wB G wS w) (hb : Below w.heap.size w w') : Held6 wB G wS w' := (h.kept.call hb).held6 (h.stay.call hb)
theorem Kept.begin6 {wB w : World} {G : Nat} (h : Kept 6 71 wB G w) : Held6 wB G w w.drew := h.drew.held6 (fun _ _ hv => hv.keep ⟨rfl, rfl, rfl, Nat.le_refl _, fun _ _ => rfl⟩)
theorem plain6 {s1 s2 : Bool} {A1 A2 A3 A4 : Option Addr} {n1 c1 n2 c2 n3 c3 n4 c4 : Nat} : Plain #[.bool s1, .slice A1 n1 c1, .slice A2 n2 c2, .bool s2, .slice A3 n3 c3, .slice A4 n4 c4] := by
  intro i k n
  match i with
  | 0 => exact fun h => by cases h
  | 1 => exact fun h => by cases h
  | 2 => exact fun h => by cases h
  | 3 => exact fun h => by cases h
  | 4 => exact fun h => by cases h
  | 5 => exact fun h => by cases h
  | _ + 6 => exact fun h => by cases h
theorem Held6.store {wB wS w : World} {G : Nat} {s1 s2 : Bool} {A1 A2 A3 A4 : Option Addr} {n1 c1 n2 c2 n3 c3 n4 c4 : Nat} (h : Held6 wB G wS w) :
    Held6 wB G wS ((((((w.setCell ⟨G, 0, none⟩ (.bool s1)).setCell ⟨G, 1, none⟩ (.slice A1 n1 c1)).setCell ⟨G, 2, none⟩ (.slice A2 n2 c2)).setCell ⟨G, 3, none⟩ (.bool s2)).setCell ⟨G, 4, none⟩ (.slice A3 n3 c3)).setCell ⟨G, 5, none⟩ (.slice A4 n4 c4)) := by
  have k0 := h.kept
  have k1 := k0.set (i := 0) (bool_plain s1)
  have k2 := k1.set (i := 1) (slice_plain A1 n1 c1)
  have k3 := k2.set (i := 2) (slice_plain A2 n2 c2)
  have k4 := k3.set (i := 3) (bool_plain s2)
  have k5 := k4.set (i := 4) (slice_plain A3 n3 c3)
  have k6 := k5.set (i := 5) (slice_plain A4 n4 c4)
  exact k6.held6 ((((((h.stay.put k0).put k1).put k2).put k3).put k4).put k5)
theorem six {l : List Value} (h : l.length = 6) : ∃ x0 x1 x2 x3 x4 x5, l = [x0, x1, x2, x3, x4, x5] := by
  rcases l with _ | ⟨x0, l⟩
  · simp only [List.length_nil] at h; omega
  rcases l with _ | ⟨x1, l⟩
  · simp only [List.length_nil, List.length_cons] at h; omega
  rcases l with _ | ⟨x2, l⟩
  · simp only [List.length_nil, List.length_cons] at h; omega
  rcases l with _ | ⟨x3, l⟩
  · simp only [List.length_nil, List.length_cons] at h; omega
  rcases l with _ | ⟨x4, l⟩
  · simp only [List.length_nil, List.length_cons] at h; omega
  rcases l with _ | ⟨x5, l⟩
  · simp only [List.length_nil, List.length_cons] at h; omega
  rcases l with _ | ⟨x6, l⟩
  · exact ⟨x0, x1, x2, x3, x4, x5, rfl⟩
  · simp only [List.length_cons] at h; omega
theorem setcell_heap6 {w : World} {G : Nat} {T : TypeId} {cs : Array Value} (hs : cs.size = 6) (hg : w.heap[G]? = some (.cells cs T (0, 0))) (a b c d e f : Value) :
    ((((((w.setCell ⟨G, 0, none⟩ a).setCell ⟨G, 1, none⟩ b).setCell ⟨G, 2, none⟩ c).setCell ⟨G, 3, none⟩ d).setCell ⟨G, 4, none⟩ e).setCell ⟨G, 5, none⟩ f).heap[G]? = some (.cells #[a, b, c, d, e, f] T (0, 0)) := by
  have g1 := heap_setCell_same w G 0 _ _ a hg
  have g2 := heap_setCell_same _ G 1 _ _ b g1
  have g3 := heap_setCell_same _ G 2 _ _ c g2
  have g4 := heap_setCell_same _ G 3 _ _ d g3
  have g5 := heap_setCell_same _ G 4 _ _ e g4
  have g6 := heap_setCell_same _ G 5 _ _ f g5
  rw [g6]
  obtain ⟨l⟩ := cs
  obtain ⟨x0, x1, x2, x3, x4, x5, rfl⟩ := six hs
  rfl
/-- the result is stored: what is left is told -/
theorem Held6.done {wB wS w : World} {G : Nat} {s1 s2 : Bool} {A1 A2 A3 A4 : Option Addr} {n1 c1 n2 c2 n3 c3 n4 c4 : Nat} {p q : Rat} (h : Held6 wB G wS w) (hp : IsNum w (.agg #[.bool s1, .slice A1 n1 c1, .slice A2 n2 c2]) p) (hq : IsNum w (.agg #[.bool s2, .slice A3 n3 c3, .slice A4 n4 c4]) q) :
    IsBox ((((((w.setCell ⟨G, 0, none⟩ (.bool s1)).setCell ⟨G, 1, none⟩ (.slice A1 n1 c1)).setCell ⟨G, 2, none⟩ (.slice A2 n2 c2)).setCell ⟨G, 3, none⟩ (.bool s2)).setCell ⟨G, 4, none⟩ (.slice A3 n3 c3)).setCell ⟨G, 5, none⟩ (.slice A4 n4 c4)) (.agg #[.bool s1, .slice A1 n1 c1, .slice A2 n2 c2, .bool s2, .slice A3 n3 c3, .slice A4 n4 c4]) p q ∧
    Below G wB ((((((w.setCell ⟨G, 0, none⟩ (.bool s1)).setCell ⟨G, 1, none⟩ (.slice A1 n1 c1)).setCell ⟨G, 2, none⟩ (.slice A2 n2 c2)).setCell ⟨G, 3, none⟩ (.bool s2)).setCell ⟨G, 4, none⟩ (.slice A3 n3 c3)).setCell ⟨G, 5, none⟩ (.slice A4 n4 c4)) ∧
    ((((((w.setCell ⟨G, 0, none⟩ (.bool s1)).setCell ⟨G, 1, none⟩ (.slice A1 n1 c1)).setCell ⟨G, 2, none⟩ (.slice A2 n2 c2)).setCell ⟨G, 3, none⟩ (.bool s2)).setCell ⟨G, 4, none⟩ (.slice A3 n3 c3)).setCell ⟨G, 5, none⟩ (.slice A4 n4 c4)).heap[G]? = some (.cells #[.bool s1, .slice A1 n1 c1, .slice A2 n2 c2, .bool s2, .slice A3 n3 c3, .slice A4 n4 c4] 71 (0, 0)) := by
  have k0 := h.kept
  have k1 := k0.set (i := 0) (bool_plain s1)
  have k2 := k1.set (i := 1) (slice_plain A1 n1 c1)
  have k3 := k2.set (i := 2) (slice_plain A2 n2 c2)
  have k4 := k3.set (i := 3) (bool_plain s2)
  have k5 := k4.set (i := 4) (slice_plain A3 n3 c3)
  have k6 := k5.set (i := 5) (slice_plain A4 n4 c4)
  refine ⟨IsNum.pair (((((((hp.put k0).put k1).put k2).put k3).put k4).put k5)) (((((((hq.put k0).put k1).put k2).put k3).put k4).put k5)), k6.1, ?_⟩
  obtain ⟨_, cs, hs, _, hg⟩ := k0
  exact setcell_heap6 hs hg _ _ _ _ _ _

set_option maxRecDepth 100000 in
set_option maxHeartbeats 2000000 in
theorem point_any {w : World} {vx : Value} {x : Rat} (hx : IsNum w vx x) (hs : siz x ≤ 1099511627776) :
    Calls Tryz.prog 55 #[vx] w (BoxRet w x x) := by
  obtain ⟨A1, c1, A2, c2, rfl, hx1, hx2⟩ := hx.opened
  obtain ⟨wB, hwB⟩ : ∃ u, u = (w.alloc (.cells #[.bool (decide (x.num < 0)), .slice A1 (len x.num.natAbs) c1, .slice A2 (len (below x.den)) c2] 25)).alloc (.cells #[.bool false, .slice none 0 0, .slice none 0 0, .bool false, .slice none 0 0, .slice none 0 0] 71) := ⟨_, rfl⟩
  obtain ⟨b0, gA, gB⟩ := news2 w (.cells #[.bool (decide (x.num < 0)), .slice A1 (len x.num.natAbs) c1, .slice A2 (len (below x.den)) c2] 25) (.cells #[.bool false, .slice none 0 0, .slice none 0 0, .bool false, .slice none 0 0, .slice none 0 0] 71)
  rw [← hwB] at b0 gA gB
  have k0 : wB.cell? ⟨w.heap.size, 0, none⟩ = some (.bool (decide (x.num < 0))) := cell_of_row _ _ _ _ _ _ gA
  have k1 : wB.cell? ⟨w.heap.size, 1, none⟩ = some (.slice A1 (len x.num.natAbs) c1) := cell_of_row _ _ _ _ _ _ gA
  have k2 : wB.cell? ⟨w.heap.size, 2, none⟩ = some (.slice A2 (len (below x.den)) c2) := cell_of_row _ _ _ _ _ _ gA
  have HK0 := Lib.hid (Kept.start (T := 71) rfl plain6 gB)
  have HB0 := Lib.hid b0
  have hlt1 : w.heap.size < w.heap.size + 1 := by omega
  clear gA gB b0
  have hxB := hx.keep HB0.out
  have H0 := HK0.out.begin6
  have H0' := H0
  unfold Held6 at H0'
  have HX := fun (w' : World) (hk : Held6 wB (w.heap.size + 1) wB w') => Lib.hid (numCopied_any (hk.stay.num hxB) hs)
  clear hx hs hxB hx1 hx2
  go_enter Tryz.func55, Tryz.ntmps55
  go_upto_region 1 with fail
  rw [← hwB]
  clear hwB
  go_wp2_with fail
  go_region_held3 (fun w' => (∀ b o, b < w.heap.size + 1 → w'.cell? ⟨b, o, none⟩ = wB.cell? ⟨b, o, none⟩) ∧ w'.cell? ⟨w.heap.size + 1, 0, none⟩ = some (cur w' ⟨w.heap.size + 1, 0, none⟩) ∧ w'.cell? ⟨w.heap.size + 1, 1, none⟩ = some (cur w' ⟨w.heap.size + 1, 1, none⟩) ∧ w'.cell? ⟨w.heap.size + 1, 2, none⟩ = some (cur w' ⟨w.heap.size + 1, 2, none⟩) ∧ w'.cell? ⟨w.heap.size + 1, 3, none⟩ = some (cur w' ⟨w.heap.size + 1, 3, none⟩) ∧ w'.cell? ⟨w.heap.size + 1, 4, none⟩ = some (cur w' ⟨w.heap.size + 1, 4, none⟩) ∧ w'.cell? ⟨w.heap.size + 1, 5, none⟩ = some (cur w' ⟨w.heap.size + 1, 5, none⟩) ∧ w'.frozen? ⟨w.heap.size + 1, 0, none⟩ = false ∧ w'.frozen? ⟨w.heap.size + 1, 1, none⟩ = false ∧ w'.frozen? ⟨w.heap.size + 1, 2, none⟩ = false ∧ w'.frozen? ⟨w.heap.size + 1, 3, none⟩ = false ∧ w'.frozen? ⟨w.heap.size + 1, 4, none⟩ = false ∧ w'.frozen? ⟨w.heap.size + 1, 5, none⟩ = false ∧ Kept 6 71 wB (w.heap.size + 1) w' ∧ Stay wB w')
    (first | with_reducible exact H0' | with_reducible exact hk1' | with_reducible exact hk2' | exact hk2.store)
    (first | (go_at_call 112; refine ((HX _ hk1).out).mono ?_; rintro e w2 ⟨v2, rfl, hv2, hbl2⟩; obtain ⟨C3, j3, C4, j4, rfl, -, -⟩ := hv2.opened; have hk2 := hk1.call hbl2; have hk2' := hk2; unfold Held6 at hk2') | (go_at_call 112; refine ((HX _ H0).out).mono ?_; rintro e w1 ⟨v1, rfl, hv1, hbl1⟩; obtain ⟨C1, j1, C2, j2, rfl, -, -⟩ := hv1.opened; have hk1 := H0.call hbl1; have hk1' := hk1; unfold Held6 at hk1'))
  rename_i hHl
  clear hHl
  have hv1' := hv1.keep hbl2
  have HD := hk2.done (p := x) (q := x) (s1 := decide (x.num < 0)) (A1 := C1) (n1 := len x.num.natAbs) (c1 := j1) (A2 := C2) (n2 := len (below x.den)) (c2 := j2) (s2 := decide (x.num < 0)) (A3 := C3) (n3 := len x.num.natAbs) (c3 := j3) (A4 := C4) (n4 := len (below x.den)) (c4 := j4) (hv1') (hv2)
  obtain ⟨d1, d2, d3⟩ := HD
  have r0 := cell_of_row _ _ 0 _ _ _ d3
  have r1 := cell_of_row _ _ 1 _ _ _ d3
  have r2 := cell_of_row _ _ 2 _ _ _ d3
  have r3 := cell_of_row _ _ 3 _ _ _ d3
  have r4 := cell_of_row _ _ 4 _ _ _ d3
  have r5 := cell_of_row _ _ 5 _ _ _ d3
  simp only [List.getElem?_toArray, List.getElem?_cons_zero, List.getElem?_cons_succ] at r0 r1 r2 r3 r4 r5
  have HD := Lib.hid (And.intro d1 d2)
  clear d1 d2 d3
  go_wp2_with fail
  refine bodyPost_ret (v := .agg #[.bool (decide (x.num < 0)), .slice (C1) (len x.num.natAbs) (j1), .slice (C2) (len (below x.den)) (j2), .bool (decide (x.num < 0)), .slice (C3) (len x.num.natAbs) (j3), .slice (C4) (len (below x.den)) (j4)]) ?_ rfl ⟨_, rfl, HD.out.1, below_to HB0.out (by omega) HD.out.2⟩
  simp [results, Tryz.results55, go_sem, r0, r1, r2, r3, r4, r5]
end Go.Proofs.YtfppimacnhcflaaGreatDoor
