/-
  Contracts of the functions that the law calls, for every input (Ru Rz Par).
-/
import Derived.Test.YthnlcckmdklpaaaGreatDoorP09
import Derived.Test.YthnlcckmdklpaaaGreatDoorP08
import Derived.Test.YthnlcckmdklpaaaGreatDoorJ27
set_option linter.all false
namespace Go.Proofs.YthnlcckmdklpaaaGreatDoor.Rf
open Go.RowKit
open Rx
open Lib (hid)

set_option maxRecDepth 100000 in
set_option maxHeartbeats 8000000 in
theorem parse_main {w : World} {s : ByteArray} (hs : s.size ≤ 2000) : Calls Tryz.prog 14 #[.string s] w (RatErrRet w (parseV s).1 (parseV s).2) := by
  obtain ⟨neg, t, hng, htl, hts, hcase⟩ := sign_off s
  have hpv : parseV s = (match parseT neg t.data.toList with | none => ((0 : Rat), (4 : Int)) | some q => (q, 0)) := by
    unfold parseV
    rw [if_neg (by omega), parseT_is, hng, ← htl]; rfl
  obtain ⟨PV, hPV⟩ : ∃ P, RatErrRet w (parseV s).1 (parseV s).2 = P := ⟨_, rfl⟩
  rw [hPV]
  rw [hpv] at hPV
  replace hPV := hid hPV.symm
  have e1 : decide (((s.size : Nat) : Int) > 2000) = false := decide_eq_false (by omega)
  have e0 : ((s.size : Nat) : Int) ≤ 2000 := by omega
  have et : t.size ≤ 2000 := by omega
  clear hng htl hpv hts
  obtain ⟨wB, hwB⟩ : ∃ u, u = w.alloc (.cells #[.bool false, .slice none 0 0, .slice none 0 0] 33) := ⟨_, rfl⟩
  have hRB := RB.start w
  have hbB := alloc_below w (.cells #[.bool false, .slice none 0 0, .slice none 0 0] 33)
  rw [← hwB] at hRB hbB
  obtain ⟨R, hR⟩ : ∃ R, w.heap.size = R := ⟨_, rfl⟩
  rw [hR] at hRB
  replace hRB := hid hRB
  replace hbB := hid hbB
  go_enter Tryz.func14, Tryz.ntmps14
  go_upto_region 1 with fail
  rw [← hwB]
  replace hR := hid hR
  clear hwB
  obtain ⟨l, hl⟩ : ∃ l, t.data.toList = l := ⟨_, rfl⟩
  rw [hl] at hPV
  replace hl := hid hl
  rcases hcase with ⟨rfl, h0, h45, hex⟩ | ⟨rfl, hst, h9⟩
  · have g1 : decide (0 < s.size) = true := decide_eq_true h0
    have g2 : (0 : Int) < ((s.size : Nat) : Int) := by omega
    have g3 : (((s[0].toNat : Nat) : Int) == 45) = true := by rw [beq_iff_eq]; omega
    have g4 : (1 : Int) ≤ ((s.size : Nat) : Int) := by omega
    go_upto_region 4 with fail
    rename_i G4 hG4 Gb hGb
    replace hG4 := hid hG4
    go_wp2_with fail
    refine hG4.out _ _ ?_
    exact parse_back et hl.out hPV.out hRB.out hR.out
  · rcases h9 with h0 | ⟨h0, h45⟩
    · have g1 : decide (0 < s.size) = false := decide_eq_false (by omega)
      have g2 : ((s.size : Nat) : Int) ≤ 0 := by omega
      replace hst := hid hst
      go_upto_region 4 with fail
      rename_i G4 hG4 Gb hGb
      replace hG4 := hid hG4
      go_wp2_with fail
      refine hG4.out _ _ ?_
      exact parse_back (by rw [← hst.out]; exact et) (by rw [← hst.out]; exact hl.out) hPV.out hRB.out hR.out
    · have g1 : decide (0 < s.size) = true := decide_eq_true h0
      have g2 : (0 : Int) < ((s.size : Nat) : Int) := by omega
      have g3 : (((s[0].toNat : Nat) : Int) == 45) = false := by rw [beq_eq_false_iff_ne]; omega
      replace hst := hid hst
      go_upto_region 4 with fail
      rename_i G4 hG4 Gb hGb
      replace hG4 := hid hG4
      go_wp2_with fail
      refine hG4.out _ _ ?_
      exact parse_back (by rw [← hst.out]; exact et) (by rw [← hst.out]; exact hl.out) hPV.out hRB.out hR.out
theorem parse_ref {w : World} {s : ByteArray} (hs : s.size ≤ 1048576) : Calls Tryz.prog 14 #[.string s] w (RatErrRet w (parseV s).1 (parseV s).2) := by
  rcases Nat.lt_or_ge 2000 s.size with h | h
  · exact parse_long h hs
  · exact parse_main h
end Go.Proofs.YthnlcckmdklpaaaGreatDoor.Rf
namespace Go.Proofs.YthnlcckmdklpaaaGreatDoor
open Go.RowKit
open Vx
theorem parse_siz (s : ByteArray) : siz (parseV s).1 ≤ 4100 := by
  unfold parseV
  split
  · exact Nat.le_trans (show siz 0 ≤ 3 by decide +kernel) (by omega)
  · rename_i h0
    have hsz : s.data.toList.length ≤ 2000 := by
      rw [size_data]; omega
    split
    · exact Nat.le_trans (show siz 0 ≤ 3 by decide +kernel) (by omega)
    · rename_i q hq
      have ht := trim_len s.data.toList [45]
      have c1 := cut_len (Lib.trimPrefix s.data.toList [45]) [47]
      have c2 := cut_len (Lib.trimPrefix s.data.toList [45]) [46]
      unfold parseL at hq
      split at hq
      · split at hq
        · rename_i h1
          obtain rfl := Option.some.inj hq
          refine Nat.le_trans (siz_mk _ _) ?_
          have n1 := len_valL (dig_all (whole_dig h1.1))
          have n2 := len_valL (dig_all (whole_dig h1.2.1))
          rw [sgn_natAbs]
          omega
        · cases hq
      · split at hq
        · rename_i h1 h2
          obtain rfl := Option.some.inj hq
          refine Nat.le_trans (siz_mk _ _) ?_
          have hb : (Lib.cut (Lib.trimPrefix s.data.toList [45]) [46]).2.1.all digC = true := by
            rcases hf : (Lib.cut (Lib.trimPrefix s.data.toList [45]) [46]).2.2 with _ | _
            · rw [cut_none _ _ hf]; rfl
            · exact dig_all (h2.2 hf)
          have hab : ((Lib.cut (Lib.trimPrefix s.data.toList [45]) [46]).1 ++ (Lib.cut (Lib.trimPrefix s.data.toList [45]) [46]).2.1).all digC = true := by
            rw [List.all_append, hb, dig_all (whole_dig h2.1)]; rfl
          have n1 := len_valL hab
          rw [List.length_append] at n1
          have n2 := len_pow_le 10 (Lib.cut (Lib.trimPrefix s.data.toList [45]) [46]).2.1.length
          have n3 : len 10 = 1 := by decide +kernel
          rw [n3] at n2
          rw [sgn_natAbs]
          omega
        · cases hq
theorem cell_keep {w w' : World} {b : Nat} {v : Value} (h : w.cell? ⟨b, 0, none⟩ = some v) (hb : Below w.heap.size w w') : w'.cell? ⟨b, 0, none⟩ = some v := (hb.cell (p := ⟨b, 0, none⟩) (World.block_lt_of_cell? w _ h)).trans h
end Go.Proofs.YthnlcckmdklpaaaGreatDoor
namespace Go.Proofs.YthnlcckmdklpaaaGreatDoor.Rf
open Go.RowKit
open Rx
open Lib (hid)
open Vx (siz siz_num siz_den)
open List renaming getElem?_toArray → lg, getElem?_cons_zero → lz, getElem?_cons_succ → ls, setIfInBounds_toArray → lt, set_cons_zero → ly, set_cons_succ → lu

theorem rlen_le (n : Nat) : len n ≤ 4 * Vx.len n := by
  apply len_le
  rw [Nat.pow_mul]
  exact Vx.lt_len n
theorem rat_small {q : Rat} (h : siz q ≤ 4100) : len q.num.natAbs ≤ 20000 ∧ len q.den ≤ 20000 := by
  have h1 := siz_num q
  have h2 := siz_den q
  have h3 := rlen_le q.num.natAbs
  have h4 := rlen_le q.den
  omega
theorem text_to {w : World} {vx : Value} {q : Rat} {s : ByteArray} (h : s = ⟨(textQ q).toArray⟩) (hx : IsRat w vx q) (sz : siz q ≤ 4100) :
    Calls Tryz.prog 106 #[vx] w (fun e w' => e = .returned (.string s) ∧ Below w.heap.size w w') := by
  rw [h]; exact text_any hx (rat_small sz).1 (rat_small sz).2
theorem string_to {w : World} {vx : Value} {q : Rat} {s : ByteArray} (h : s = ⟨(textQ q).toArray⟩) (hx : IsNum w vx q) (sz : siz q ≤ 4100) (hT : TabAt 0 Lib.deBruijn64tab w) :
    Calls Tryz.prog 91 #[vx] w (fun e w' => e = .returned (.string s) ∧ Below w.heap.size w w') := by
  rw [h]; exact numString_any hx (Nat.le_trans sz (by decide)) hT

set_option maxRecDepth 100000 in
set_option maxHeartbeats 4000000 in
theorem same_any {w : World} {vx vy : Value} {q : Rat} (hx : IsNum w vx q) (hy : IsRat w vy q) (sz : siz q ≤ 4100) (hT : TabAt 0 Lib.deBruijn64tab w) :
    Calls Tryz.prog 15 #[vx, vy] w (BoolRet w true) := by
  obtain ⟨A1, c1, A2, c2, rfl, -, -⟩ := id hx.opened
  obtain ⟨A3, c3, A4, c4, rfl, -, -⟩ := id hy.opened
  obtain ⟨s, hs⟩ : ∃ s : ByteArray, s = ⟨(textQ q).toArray⟩ := ⟨_, rfl⟩
  obtain ⟨b, hb⟩ : ∃ b, decide (q.num < 0) = b := ⟨_, rfl⟩
  obtain ⟨n1, hn1⟩ : ∃ m, Vx.len q.num.natAbs = m := ⟨_, rfl⟩
  obtain ⟨n2, hn2⟩ : ∃ m, Vx.len (below q.den) = m := ⟨_, rfl⟩
  obtain ⟨n3, hn3⟩ : ∃ m, len q.num.natAbs = m := ⟨_, rfl⟩
  obtain ⟨n4, hn4⟩ : ∃ m, len q.den = m := ⟨_, rfl⟩
  rw [hb, hn1, hn2] at hx
  rw [hb, hn3, hn4] at hy
  rw [hb, hn1, hn2, hn3, hn4]
  clear hb hn1 hn2 hn3 hn4
  obtain ⟨R, hR⟩ : ∃ R, w.heap.size = R := ⟨_, rfl⟩
  obtain ⟨wB, hwB⟩ : ∃ u, u = (w.alloc (.cells #[.bool b, .slice A1 n1 c1, .slice A2 n2 c2] 26)).alloc (.cells #[.bool b, .slice A3 n3 c3, .slice A4 n4 c4] 33) := ⟨_, rfl⟩
  have b0 : Below w.heap.size w wB := by rw [hwB]; exact chain (alloc_below w _) (alloc_below _ _)
  have gA : wB.heap[R]? = some (.cells #[.bool b, .slice A1 n1 c1, .slice A2 n2 c2] 26 (0, 0)) := by
    rw [hwB, ← hR]
    exact ((alloc_below _ (.cells #[.bool b, .slice A3 n3 c3, .slice A4 n4 c4] 33)).block _ (by rw [World.size_alloc]; omega)).trans (heap_alloc_new w _)
  have gB : wB.heap[R + 1]? = some (.cells #[.bool b, .slice A3 n3 c3, .slice A4 n4 c4] 33 (0, 0)) := by
    have := heap_alloc_new (w.alloc (.cells #[.bool b, .slice A1 n1 c1, .slice A2 n2 c2] 26)) (.cells #[.bool b, .slice A3 n3 c3, .slice A4 n4 c4] 33)
    rw [World.size_alloc, hR] at this
    rw [hwB]; exact this
  have k0 : wB.cell? ⟨R, 0, none⟩ = some (.bool b) := cell_of_row _ _ _ _ _ _ gA
  have k1 : wB.cell? ⟨R, 1, none⟩ = some (.slice A1 n1 c1) := cell_of_row _ _ _ _ _ _ gA
  have k2 : wB.cell? ⟨R, 2, none⟩ = some (.slice A2 n2 c2) := cell_of_row _ _ _ _ _ _ gA
  have j0 : wB.cell? ⟨R + 1, 0, none⟩ = some (.bool b) := cell_of_row _ _ _ _ _ _ gB
  have j1 : wB.cell? ⟨R + 1, 1, none⟩ = some (.slice A3 n3 c3) := cell_of_row _ _ _ _ _ _ gB
  have j2 : wB.cell? ⟨R + 1, 2, none⟩ = some (.slice A4 n4 c4) := cell_of_row _ _ _ _ _ _ gB
  obtain ⟨NN, hNN⟩ : ∃ n, wB.heap.size = n := ⟨_, rfl⟩
  have hlt : R + 1 < NN := by rw [← hNN]; exact World.block_lt_of_cell? _ _ j0
  have hlt0 : R < NN := by omega
  have hS := hid (fun (u : World) (hu : Below wB.heap.size wB u) (b o : Nat) (hb : b < NN) => hu.cell (p := ⟨b, o, none⟩) (by rw [hNN]; exact hb))
  obtain ⟨u0, hu0⟩ : ∃ u, u = wB.drew := ⟨_, rfl⟩
  have b1 := hid (show Below wB.heap.size wB u0 by rw [hu0]; exact below_drew wB)
  have HS := hid (string_to hs ((hx.keep b0).keep b1.out) sz (tab_keep (tab_keep hT b0) b1.out))
  have hyB := hid (hy.keep b0)
  replace b0 := hid b0
  replace hs := hid hs
  clear gA gB hx hy hNN
  go_enter Tryz.func15, Tryz.ntmps15
  go_upto_region 1 with fail
  try rw [hR]
  rw [← hwB]
  clear hwB
  refine wp_region_held_drew (S := (fun w' => (∀ b o, b < NN → w'.cell? ⟨b, o, none⟩ = wB.cell? ⟨b, o, none⟩))) (by kernel_rfl) ?_ (fun hHeld => ?_)
  · (try dsimp only)
    rw [← hu0]
    exact hS.out _ b1.out
  rw [← hu0] at hHeld ⊢
  clear hu0
  refine tk (i := 0) (h := ?_)
  try simp only [Act.put, lt, ly, lu]
  refine tk (i := 2) (h := ?_)
  try simp only [Act.put, lt, ly, lu]
  refine wpAnyH_ready (rs := [1]) (by kernel_rfl) (by simp) (AllReadyH.cons (o := ?o1) ?e1 ?k1 AllReadyH.nil)
  case e1 => simp only [lg, lz, ls]; rfl
  intro K hK
  go_simp; go_at_call 91
  refine (HS.out).mono ?_
  rintro e u1 ⟨rfl, c1⟩
  refine hK.out _ _ ?_ (fun hHeld2 => ?_)
  · (try dsimp only)
    exact hS.out _ (chain b1.out c1)
  clear hK K hHeld
  try simp only [Act.put, lt, ly, lu]
  have hHeld := hHeld2
  clear hHeld2
  have hb1 := hid (chain b1.out c1)
  have HD2 := hid (text_to hs.out (hyB.out.keep hb1.out) sz)
  clear HS c1
  refine wpAnyH_ready (rs := [3]) (by kernel_rfl) (by simp) (AllReadyH.cons (o := ?o3) ?e3 ?k3 AllReadyH.nil)
  case e3 => simp only [lg, lz, ls]; rfl
  intro K hK
  go_simp; go_at_call 106
  refine (HD2.out).mono ?_
  rintro e u2 ⟨rfl, c2⟩
  refine hK.out _ _ ?_ (fun hHeld2 => ?_)
  · (try dsimp only)
    exact hS.out _ (chain hb1.out c2)
  clear hK K hHeld
  try simp only [Act.put, lt, ly, lu]
  have hHeld := hHeld2
  clear hHeld2
  refine tk (i := 4) (h := ?_)
  try simp only [Act.put, lt, ly, lu]
  refine tk (i := 5) (h := ?_)
  try simp only [Act.put, lt, ly, lu]
  refine wpAnyH_done (by kernel_rfl) ?_ _
  clear hHeld
  have hb2 := hid (chain b0.out (chain hb1.out c2))
  clear HD2 c2 hS
  go_wp2_with fail
  go_ret
  exact ⟨rfl, hb2.out⟩
end Go.Proofs.YthnlcckmdklpaaaGreatDoor.Rf
namespace Go.Proofs.YthnlcckmdklpaaaGreatDoor.Rf
open Go.RowKit
open Rx
open Lib (hid)
open Vx (siz siz_num siz_den)

theorem exact_parse {w : World} {s : ByteArray} {mx : Int} {q : Rat} {c : Int} (hq : (parseV s).1 = q) (hc : (parseV s).2 = c) (hM : w.cell? ⟨1, 0, none⟩ = some (.int .i64 mx)) :
    Calls Tryz.prog 13 #[.string s] w (NumErrRet w q c) := by rw [← hq, ← hc]; exact numParse_any hM
theorem ref_parse {w : World} {s : ByteArray} {q : Rat} {c : Int} (hq : (parseV s).1 = q) (hc : (parseV s).2 = c) (hs : s.size ≤ 1048576) :
    Calls Tryz.prog 14 #[.string s] w (RatErrRet w q c) := by rw [← hq, ← hc]; exact parse_ref hs

set_option maxRecDepth 100000 in
set_option maxHeartbeats 8000000 in
theorem parses_any {w : World} {s : ByteArray} {mx : Int} (hM : w.cell? ⟨1, 0, none⟩ = some (.int .i64 mx)) (hT : TabAt 0 Lib.deBruijn64tab w) :
    Calls Tryz.prog 3 #[.string s] w (BoolRet w true) := by
  have hk0 := hid (known_any hM hT)
  replace hM := hid hM
  replace hT := hid hT
  rcases Nat.lt_or_ge 1200 s.size with h1 | h1
  · have d1 : decide (((s.size : Nat) : Int) > 1200) = true := decide_eq_true (by omega)
    have e1 : ((s.size : Nat) : Int) > 1200 := by omega
    rcases Nat.lt_or_ge 2000 s.size with h2 | h2
    · have d2 : decide (((s.size : Nat) : Int) ≤ 2000) = false := decide_eq_false (by omega)
      have e2 : ¬ (((s.size : Nat) : Int) ≤ 2000) := by omega
      rcases Nat.lt_or_ge 3000 s.size with h3 | h3
      · have d3 : decide (((s.size : Nat) : Int) > 3000) = true := decide_eq_true (by omega)
        have e3 : ((s.size : Nat) : Int) > 3000 := by omega
        clear h1 h2 h3
        go_enter Tryz.func3, Tryz.ntmps3
        go_wp2_with fail
        refine (hk0.out).mono ?_
        rintro e w1 ⟨rfl, b1⟩
        replace b1 := hid b1
        clear hk0
        go_wp2_with fail
        go_ret
        exact ⟨rfl, b1.out⟩
      · have d3 : decide (((s.size : Nat) : Int) > 3000) = false := decide_eq_false (by omega)
        have e3 : ¬ (((s.size : Nat) : Int) > 3000) := by omega
        have hsz : s.size ≤ 1048576 := by omega
        obtain ⟨q, hq⟩ : ∃ q, (parseV s).1 = q := ⟨_, rfl⟩
        obtain ⟨c, hc⟩ : ∃ c, (parseV s).2 = c := ⟨_, rfl⟩
        have sz : siz q ≤ 4100 := by rw [← hq]; exact parse_siz s
        have HP := hid (exact_parse hq hc hM.out)
        replace hq := hid hq
        replace hc := hid hc
        replace sz := hid sz
        clear hk0
        go_enter Tryz.func3, Tryz.ntmps3
        go_wp2_with fail
        refine (HP.out).mono ?_
        rintro e w1 ⟨v1, rfl, hv1, b1⟩
        obtain ⟨A1, c1, A2, c2, rfl, -, -⟩ := id hv1.opened
        obtain ⟨b, hb⟩ : ∃ b, decide (q.num < 0) = b := ⟨_, rfl⟩
        obtain ⟨n1, hn1⟩ : ∃ m, Vx.len q.num.natAbs = m := ⟨_, rfl⟩
        obtain ⟨n2, hn2⟩ : ∃ m, Vx.len (below q.den) = m := ⟨_, rfl⟩
        rw [hb, hn1, hn2] at hv1
        rw [hb, hn1, hn2]
        replace hb := hid hb
        replace hn1 := hid hn1
        replace hn2 := hid hn2
        replace hv1 := hid hv1
        replace b1 := hid b1
        clear HP
        go_upto_region 4 with fail
        obtain ⟨w2, hw2⟩ : ∃ u, u = w1.alloc (.cells #[.bool b, .slice A1 n1 c1, .slice A2 n2 c2] 26) := ⟨_, rfl⟩
        have b2 := alloc_below w1 (.cells #[.bool b, .slice A1 n1 c1, .slice A2 n2 c2] 26)
        have g2 := heap_alloc_new w1 (.cells #[.bool b, .slice A1 n1 c1, .slice A2 n2 c2] 26)
        rw [← hw2] at b2 g2 ⊢
        clear hw2
        obtain ⟨R, hR⟩ : ∃ R, w1.heap.size = R := ⟨_, rfl⟩
        rw [hR] at g2
        try rw [hR]
        replace hR := hid hR
        replace b2 := hid b2
        replace g2 := hid g2
        have HR := hid (ref_parse (w := w2) hq.out hc.out hsz)
        go_wp2_with fail
        refine (HR.out).mono ?_
        rintro e w3 ⟨v3, rfl, hv3, b3⟩
        obtain ⟨A3, c3, A4, c4, rfl, -, -⟩ := id hv3.opened
        obtain ⟨n3, hn3⟩ : ∃ m, len q.num.natAbs = m := ⟨_, rfl⟩
        obtain ⟨n4, hn4⟩ : ∃ m, len q.den = m := ⟨_, rfl⟩
        rw [hb.out, hn3, hn4] at hv3
        rw [hb.out, hn3, hn4]
        replace hn3 := hid hn3
        replace hn4 := hid hn4
        replace hv3 := hid hv3
        replace b3 := hid b3
        clear HR
        go_upto_region 5 with fail
        obtain ⟨w4, hw4⟩ : ∃ u, u = w3.alloc (.cells #[.bool b, .slice A3 n3 c3, .slice A4 n4 c4] 33) := ⟨_, rfl⟩
        have b4 := alloc_below w3 (.cells #[.bool b, .slice A3 n3 c3, .slice A4 n4 c4] 33)
        have g4 := heap_alloc_new w3 (.cells #[.bool b, .slice A3 n3 c3, .slice A4 n4 c4] 33)
        rw [← hw4] at b4 g4 ⊢
        clear hw4
        obtain ⟨R2, hR2⟩ : ∃ R, w3.heap.size = R := ⟨_, rfl⟩
        rw [hR2] at g4
        try rw [hR2]
        replace hR2 := hid hR2
        have gA := ((chain b3.out b4).block _ (Array.getElem?_eq_some_iff.1 g2.out).1).trans g2.out
        have k0 : w4.cell? ⟨R, 0, none⟩ = some (.bool b) := cell_of_row _ _ _ _ _ _ gA
        have k1 : w4.cell? ⟨R, 1, none⟩ = some (.slice A1 n1 c1) := cell_of_row _ _ _ _ _ _ gA
        have k2 : w4.cell? ⟨R, 2, none⟩ = some (.slice A2 n2 c2) := cell_of_row _ _ _ _ _ _ gA
        have j0 : w4.cell? ⟨R2, 0, none⟩ = some (.bool b) := cell_of_row _ _ _ _ _ _ g4
        have j1 : w4.cell? ⟨R2, 1, none⟩ = some (.slice A3 n3 c3) := cell_of_row _ _ _ _ _ _ g4
        have j2 : w4.cell? ⟨R2, 2, none⟩ = some (.slice A4 n4 c4) := cell_of_row _ _ _ _ _ _ g4
        have hb4 := hid (chain b1.out (chain b2.out (chain b3.out b4)))
        have HS := hid (same_any (hv1.out.keep (chain b2.out (chain b3.out b4))) (hv3.out.keep b4) sz.out (tab_keep hT.out hb4.out))
        clear gA g4 b4 g2 hv1 hv3
        go_wp2_with fail
        refine (HS.out).mono ?_
        rintro e w5 ⟨rfl, b5⟩
        have hb5 := hid (chain hb4.out b5)
        have HK := hid (known_any (cell_keep hM.out hb5.out) (tab_keep hT.out hb5.out))
        clear HS b5 k0 k1 k2 j0 j1 j2
        go_wp2_with fail
        refine (HK.out).mono ?_
        rintro e w6 ⟨rfl, b6⟩
        have hb6 := hid (chain hb5.out b6)
        clear HK b6
        go_wp2_with fail
        go_ret
        exact ⟨rfl, hb6.out⟩
    · have d2 : decide (((s.size : Nat) : Int) ≤ 2000) = true := decide_eq_true (by omega)
      have e2 : ((s.size : Nat) : Int) ≤ 2000 := by omega
      clear h1 h2
      go_enter Tryz.func3, Tryz.ntmps3
      go_wp2_with fail
      refine (hk0.out).mono ?_
      rintro e w1 ⟨rfl, b1⟩
      replace b1 := hid b1
      clear hk0
      go_wp2_with fail
      go_ret
      exact ⟨rfl, b1.out⟩
  · have d1 : decide (((s.size : Nat) : Int) > 1200) = false := decide_eq_false (by omega)
    have e1 : ¬ (((s.size : Nat) : Int) > 1200) := by omega
    have d3 : decide (((s.size : Nat) : Int) > 3000) = false := decide_eq_false (by omega)
    have e3 : ¬ (((s.size : Nat) : Int) > 3000) := by omega
    have hsz : s.size ≤ 1048576 := by omega
    obtain ⟨q, hq⟩ : ∃ q, (parseV s).1 = q := ⟨_, rfl⟩
    obtain ⟨c, hc⟩ : ∃ c, (parseV s).2 = c := ⟨_, rfl⟩
    have sz : siz q ≤ 4100 := by rw [← hq]; exact parse_siz s
    have HP := hid (exact_parse hq hc hM.out)
    replace hq := hid hq
    replace hc := hid hc
    replace sz := hid sz
    clear hk0
    go_enter Tryz.func3, Tryz.ntmps3
    go_wp2_with fail
    refine (HP.out).mono ?_
    rintro e w1 ⟨v1, rfl, hv1, b1⟩
    obtain ⟨A1, c1, A2, c2, rfl, -, -⟩ := id hv1.opened
    obtain ⟨b, hb⟩ : ∃ b, decide (q.num < 0) = b := ⟨_, rfl⟩
    obtain ⟨n1, hn1⟩ : ∃ m, Vx.len q.num.natAbs = m := ⟨_, rfl⟩
    obtain ⟨n2, hn2⟩ : ∃ m, Vx.len (below q.den) = m := ⟨_, rfl⟩
    rw [hb, hn1, hn2] at hv1
    rw [hb, hn1, hn2]
    replace hb := hid hb
    replace hn1 := hid hn1
    replace hn2 := hid hn2
    replace hv1 := hid hv1
    replace b1 := hid b1
    clear HP
    go_upto_region 4 with fail
    obtain ⟨w2, hw2⟩ : ∃ u, u = w1.alloc (.cells #[.bool b, .slice A1 n1 c1, .slice A2 n2 c2] 26) := ⟨_, rfl⟩
    have b2 := alloc_below w1 (.cells #[.bool b, .slice A1 n1 c1, .slice A2 n2 c2] 26)
    have g2 := heap_alloc_new w1 (.cells #[.bool b, .slice A1 n1 c1, .slice A2 n2 c2] 26)
    rw [← hw2] at b2 g2 ⊢
    clear hw2
    obtain ⟨R, hR⟩ : ∃ R, w1.heap.size = R := ⟨_, rfl⟩
    rw [hR] at g2
    try rw [hR]
    replace hR := hid hR
    replace b2 := hid b2
    replace g2 := hid g2
    have HR := hid (ref_parse (w := w2) hq.out hc.out hsz)
    go_wp2_with fail
    refine (HR.out).mono ?_
    rintro e w3 ⟨v3, rfl, hv3, b3⟩
    obtain ⟨A3, c3, A4, c4, rfl, -, -⟩ := id hv3.opened
    obtain ⟨n3, hn3⟩ : ∃ m, len q.num.natAbs = m := ⟨_, rfl⟩
    obtain ⟨n4, hn4⟩ : ∃ m, len q.den = m := ⟨_, rfl⟩
    rw [hb.out, hn3, hn4] at hv3
    rw [hb.out, hn3, hn4]
    replace hn3 := hid hn3
    replace hn4 := hid hn4
    replace hv3 := hid hv3
    replace b3 := hid b3
    clear HR
    go_upto_region 5 with fail
    obtain ⟨w4, hw4⟩ : ∃ u, u = w3.alloc (.cells #[.bool b, .slice A3 n3 c3, .slice A4 n4 c4] 33) := ⟨_, rfl⟩
    have b4 := alloc_below w3 (.cells #[.bool b, .slice A3 n3 c3, .slice A4 n4 c4] 33)
    have g4 := heap_alloc_new w3 (.cells #[.bool b, .slice A3 n3 c3, .slice A4 n4 c4] 33)
    rw [← hw4] at b4 g4 ⊢
    clear hw4
    obtain ⟨R2, hR2⟩ : ∃ R, w3.heap.size = R := ⟨_, rfl⟩
    rw [hR2] at g4
    try rw [hR2]
    replace hR2 := hid hR2
    have gA := ((chain b3.out b4).block _ (Array.getElem?_eq_some_iff.1 g2.out).1).trans g2.out
    have k0 : w4.cell? ⟨R, 0, none⟩ = some (.bool b) := cell_of_row _ _ _ _ _ _ gA
    have k1 : w4.cell? ⟨R, 1, none⟩ = some (.slice A1 n1 c1) := cell_of_row _ _ _ _ _ _ gA
    have k2 : w4.cell? ⟨R, 2, none⟩ = some (.slice A2 n2 c2) := cell_of_row _ _ _ _ _ _ gA
    have j0 : w4.cell? ⟨R2, 0, none⟩ = some (.bool b) := cell_of_row _ _ _ _ _ _ g4
    have j1 : w4.cell? ⟨R2, 1, none⟩ = some (.slice A3 n3 c3) := cell_of_row _ _ _ _ _ _ g4
    have j2 : w4.cell? ⟨R2, 2, none⟩ = some (.slice A4 n4 c4) := cell_of_row _ _ _ _ _ _ g4
    have hb4 := hid (chain b1.out (chain b2.out (chain b3.out b4)))
    have HS := hid (same_any (hv1.out.keep (chain b2.out (chain b3.out b4))) (hv3.out.keep b4) sz.out (tab_keep hT.out hb4.out))
    clear gA g4 b4 g2 hv1 hv3
    go_wp2_with fail
    refine (HS.out).mono ?_
    rintro e w5 ⟨rfl, b5⟩
    have hb5 := hid (chain hb4.out b5)
    have HK := hid (known_any (cell_keep hM.out hb5.out) (tab_keep hT.out hb5.out))
    clear HS b5 k0 k1 k2 j0 j1 j2
    go_wp2_with fail
    refine (HK.out).mono ?_
    rintro e w6 ⟨rfl, b6⟩
    have hb6 := hid (chain hb5.out b6)
    clear HK b6
    go_wp2_with fail
    go_ret
    exact ⟨rfl, hb6.out⟩
end Go.Proofs.YthnlcckmdklpaaaGreatDoor.Rf
