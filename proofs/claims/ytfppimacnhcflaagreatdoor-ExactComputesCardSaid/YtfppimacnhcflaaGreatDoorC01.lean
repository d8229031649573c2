/-
  Contracts of the functions that the law calls, for every input (Co).
-/
import Derived.Test.YtfppimacnhcflaaGreatDoorB38
set_option linter.all false
namespace Go.Proofs.YtfppimacnhcflaaGreatDoor.Rf
open Go.RowKit
open Rx
open Lib (hid)
open Vx (siz siz_num siz_den)
open List renaming getElem?_toArray → lg, getElem?_cons_zero → lz, getElem?_cons_succ → ls, setIfInBounds_toArray → lt, set_cons_zero → ly, set_cons_succ → lu

set_option maxRecDepth 100000 in
set_option maxHeartbeats 40000000 in
theorem computes_long {w : World} {sa sb : ByteArray} {mx : Int} (hlong : [sa, sb].any (fun s => decide (120 < s.size)) = true) (hM : w.cell? ⟨3, 0, none⟩ = some (.int .i64 mx)) (hT : TabAt 0 Lib.deBruijn64tab w) :
    Calls Tryz.prog 4 #[.string sa, .string sb] w (BoolRet w true) := by
  replace hM := hid hM
  replace hT := hid hT
  have HX := hid (long_two (w := w) hlong)
  clear hlong
  go_enter Tryz.func4, Tryz.ntmps4
  go_wp2_with fail
  obtain ⟨w1, hw1⟩ : ∃ u, u = w.alloc (.cells #[.string sa, .string sb] 9) := ⟨_, rfl⟩
  have b1 : Hid (Below w.heap.size w w1) := by rw [hw1]; exact (Below.refl _ _).alloc (Nat.le_refl _) _
  rw [← hw1] at HX ⊢
  clear hw1
  refine (HX.out).mono ?_
  rintro e w9 ⟨rfl, rfl⟩
  clear HX
  have HX := hid (known_any (cell_keep hM.out b1.out) (tab_keep hT.out b1.out))
  go_wp2_with fail
  refine (HX.out).mono ?_
  rintro e w2 ⟨rfl, b2⟩
  replace b2 := hid b2
  clear HX
  have HE := hid (Below.step b1.out b2.out)
  go_wp2_with fail
  go_ret
  exact ⟨rfl, HE.out⟩

set_option maxRecDepth 100000 in
set_option maxHeartbeats 40000000 in
theorem computes_short {w : World} {sa sb : ByteArray} {mx : Int} (hlong : [sa, sb].any (fun s => decide (120 < s.size)) = false) (hM : w.cell? ⟨3, 0, none⟩ = some (.int .i64 mx)) (hT : TabAt 0 Lib.deBruijn64tab w) :
    Calls Tryz.prog 4 #[.string sa, .string sb] w (BoolRet w true) := by
  have hshort := hlong
  simp only [List.any_cons, List.any_nil, Bool.or_false, Bool.or_eq_false_iff, decide_eq_false_iff_not] at hshort
  obtain ⟨hsa, hsb⟩ := hshort
  obtain ⟨x, e_x⟩ : ∃ v_ : Rat, (parseV sa).1 = v_ := ⟨_, rfl⟩
  obtain ⟨y, e_y⟩ : ∃ v_ : Rat, (parseV sb).1 = v_ := ⟨_, rfl⟩
  have z_x : siz x ≤ 260 := by rw [← e_x]; have := parse_siz_le sa; omega
  have z_y : siz y ≤ 260 := by rw [← e_y]; have := parse_siz_le sb; omega
  have hla : sa.size ≤ 1048576 := by omega
  have hlb : sb.size ≤ 1048576 := by omega
  clear hsa hsb
  obtain ⟨ad, e_ad⟩ : ∃ v_ : Rat, x + y = v_ := ⟨_, rfl⟩
  obtain ⟨su, e_su⟩ : ∃ v_ : Rat, x - y = v_ := ⟨_, rfl⟩
  obtain ⟨mu, e_mu⟩ : ∃ v_ : Rat, x * y = v_ := ⟨_, rfl⟩
  obtain ⟨di, e_di⟩ : ∃ v_ : Rat, x / y = v_ := ⟨_, rfl⟩
  obtain ⟨ne, e_ne⟩ : ∃ v_ : Rat, -x = v_ := ⟨_, rfl⟩
  obtain ⟨ab, e_ab⟩ : ∃ v_ : Rat, x.abs = v_ := ⟨_, rfl⟩
  obtain ⟨fl, e_fl⟩ : ∃ v_ : Rat, flr x = v_ := ⟨_, rfl⟩
  obtain ⟨cm, e_cm⟩ : ∃ v_ : Int, cmpQ x y = v_ := ⟨_, rfl⟩
  obtain ⟨sg, e_sg⟩ : ∃ v_ : Int, x.num.sign = v_ := ⟨_, rfl⟩
  have z_ad : siz ad ≤ 4100 := by rw [← e_ad]; have := Vx.siz_add x y; omega
  have z_su : siz su ≤ 4100 := by rw [← e_su]; have := Vx.siz_sub x y; omega
  have z_mu : siz mu ≤ 4100 := by rw [← e_mu]; have := Vx.siz_mul x y; omega
  have z_di : siz di ≤ 4100 := by rw [← e_di]; have := Vx.siz_div x y; omega
  have z_ne : siz ne ≤ 4100 := by rw [← e_ne]; have := Vx.siz_neg x; omega
  have z_ab : siz ab ≤ 4100 := by rw [← e_ab]; have := siz_absq x; omega
  have z_fl : siz fl ≤ 4100 := by rw [← e_fl]; have := siz_flr x; omega
  have s_x : siz x ≤ 536870912 := by omega
  have t_x : siz x ≤ 268435456 := by omega
  have zz_x : siz x ≤ 4100 := by omega
  have s_y : siz y ≤ 536870912 := by omega
  have t_y : siz y ≤ 268435456 := by omega
  have zz_y : siz y ≤ 4100 := by omega
  replace s_x := hid s_x
  replace t_x := hid t_x
  replace zz_x := hid zz_x
  replace s_y := hid s_y
  replace t_y := hid t_y
  replace zz_y := hid zz_y
  replace hla := hid hla
  replace hlb := hid hlb
  replace z_ad := hid z_ad
  replace z_su := hid z_su
  replace z_mu := hid z_mu
  replace z_di := hid z_di
  replace z_ne := hid z_ne
  replace z_ab := hid z_ab
  replace z_fl := hid z_fl
  replace e_x := hid e_x
  replace e_y := hid e_y
  replace e_ad := hid e_ad
  replace e_su := hid e_su
  replace e_mu := hid e_mu
  replace e_di := hid e_di
  replace e_ne := hid e_ne
  replace e_ab := hid e_ab
  replace e_fl := hid e_fl
  replace e_cm := hid e_cm
  replace e_sg := hid e_sg
  clear z_x z_y
  replace hM := hid hM
  replace hT := hid hT
  have HX := hid (long_two (w := w) hlong)
  clear hlong
  go_enter Tryz.func4, Tryz.ntmps4
  go_wp2_with fail
  obtain ⟨w1, hw1⟩ : ∃ u, u = w.alloc (.cells #[.string sa, .string sb] 9) := ⟨_, rfl⟩
  have b1 : Hid (Below w.heap.size w w1) := by rw [hw1]; exact (Below.refl _ _).alloc (Nat.le_refl _) _
  rw [← hw1] at HX ⊢
  clear hw1
  refine (HX.out).mono ?_
  rintro e w9 ⟨rfl, rfl⟩
  clear HX
  have HX := hid (both_any e_x.out hla.out (cell_keep hM.out b1.out))
  go_wp2_with fail
  refine (HX.out).mono ?_
  rintro e w2 ⟨va2, vb2, rfl, ha2, hb2, b2⟩
  obtain ⟨C1, j1, C2, j2, rfl, -, -⟩ := id ha2.opened
  replace ha2 := hid ha2
  obtain ⟨C3, j3, C4, j4, rfl, -, -⟩ := id hb2.opened
  replace hb2 := hid hb2
  replace b2 := hid b2
  clear HX
  go_upto_region 4 with fail
  obtain ⟨w3, hw3⟩ : ∃ u, u = (w2.alloc (.cells #[.bool (decide (x.num < 0)), .slice C1 (Vx.len x.num.natAbs) j1, .slice C2 (Vx.len (below x.den)) j2] 25)).alloc (.cells #[.bool (decide (x.num < 0)), .slice C3 (len x.num.natAbs) j3, .slice C4 (len x.den) j4] 33) := ⟨_, rfl⟩
  obtain ⟨b3, L3, M3⟩ := news2 w2 (.cells #[.bool (decide (x.num < 0)), .slice C1 (Vx.len x.num.natAbs) j1, .slice C2 (Vx.len (below x.den)) j2] 25) (.cells #[.bool (decide (x.num < 0)), .slice C3 (len x.num.natAbs) j3, .slice C4 (len x.den) j4] 33)
  rw [← hw3] at b3 L3 M3 ⊢
  clear hw3
  replace b3 := hid b3
  replace L3 := hid L3
  replace M3 := hid M3
  have HX := hid (both_any e_y.out hlb.out (cell_keep hM.out (Below.step (Below.step b1.out b2.out) b3.out)))
  go_wp2_with fail
  refine (HX.out).mono ?_
  rintro e w4 ⟨va4, vb4, rfl, ha4, hb4, b4⟩
  obtain ⟨C5, j5, C6, j6, rfl, -, -⟩ := id ha4.opened
  replace ha4 := hid ha4
  obtain ⟨C7, j7, C8, j8, rfl, -, -⟩ := id hb4.opened
  replace hb4 := hid hb4
  replace b4 := hid b4
  clear HX
  go_upto_region 5 with fail
  obtain ⟨w5, hw5⟩ : ∃ u, u = (w4.alloc (.cells #[.bool (decide (y.num < 0)), .slice C5 (Vx.len y.num.natAbs) j5, .slice C6 (Vx.len (below y.den)) j6] 25)).alloc (.cells #[.bool (decide (y.num < 0)), .slice C7 (len y.num.natAbs) j7, .slice C8 (len y.den) j8] 33) := ⟨_, rfl⟩
  obtain ⟨b5, L5, M5⟩ := news2 w4 (.cells #[.bool (decide (y.num < 0)), .slice C5 (Vx.len y.num.natAbs) j5, .slice C6 (Vx.len (below y.den)) j6] 25) (.cells #[.bool (decide (y.num < 0)), .slice C7 (len y.num.natAbs) j7, .slice C8 (len y.den) j8] 33)
  rw [← hw5] at b5 L5 M5 ⊢
  clear hw5
  replace b5 := hid b5
  replace L5 := hid L5
  replace M5 := hid M5
  have hRx5 := hid (ha2.out.keep (Below.step (Below.step b3.out b4.out) b5.out))
  have hRp5 := hid (hb2.out.keep (Below.step (Below.step b3.out b4.out) b5.out))
  have hRy5 := hid (ha4.out.keep b5.out)
  have hRq5 := hid (hb4.out.keep b5.out)
  have LRx5 : Hid (w5.heap[w2.heap.size]? = some (.cells #[.bool (decide (x.num < 0)), .slice C1 (Vx.len x.num.natAbs) j1, .slice C2 (Vx.len (below x.den)) j2] 25 (0, 0))) := ((Below.step b4.out b5.out).block _ (Array.getElem?_eq_some_iff.1 L3.out).1).trans L3.out
  have LRp5 : Hid (w5.heap[w2.heap.size + 1]? = some (.cells #[.bool (decide (x.num < 0)), .slice C3 (len x.num.natAbs) j3, .slice C4 (len x.den) j4] 33 (0, 0))) := ((Below.step b4.out b5.out).block _ (Array.getElem?_eq_some_iff.1 M3.out).1).trans M3.out
  have HMB5 := hid (cell_keep hM.out (Below.step (Below.step (Below.step (Below.step b1.out b2.out) b3.out) b4.out) b5.out))
  have HTB5 := hid (tab_keep hT.out (Below.step (Below.step (Below.step (Below.step b1.out b2.out) b3.out) b4.out) b5.out))
  have HBB5 := hid (Below.step (Below.step (Below.step (Below.step b1.out b2.out) b3.out) b4.out) b5.out)
  clear ha2 hb2 ha4 hb4 L3 M3 hM hT b1 b2 b3 b4 b5
  go_wp2_with fail
  obtain ⟨NN5, hNN⟩ : ∃ n : Nat, w5.heap.size = n := ⟨_, rfl⟩
  have HSZ5 : Hid (w5.heap.size = NN5) := hNN
  have hg : w5.heap[w2.heap.size]? = some (.cells #[.bool (decide (x.num < 0)), .slice C1 (Vx.len x.num.natAbs) j1, .slice C2 (Vx.len (below x.den)) j2] 25 (0, 0)) := ((Below.refl _ w5).block _ (Array.getElem?_eq_some_iff.1 LRx5.out).1).trans LRx5.out
  obtain ⟨z_x_0, z_x_1, z_x_2⟩ := cells3 hg
  clear hg
  have hlt5_x : w2.heap.size < NN5 := Nat.lt_of_lt_of_eq (World.block_lt_of_cell? _ _ z_x_0) hNN
  have hg : w5.heap[w2.heap.size + 1]? = some (.cells #[.bool (decide (x.num < 0)), .slice C3 (len x.num.natAbs) j3, .slice C4 (len x.den) j4] 33 (0, 0)) := ((Below.refl _ w5).block _ (Array.getElem?_eq_some_iff.1 LRp5.out).1).trans LRp5.out
  obtain ⟨z_p_0, z_p_1, z_p_2⟩ := cells3 hg
  clear hg
  have hlt5_p : w2.heap.size + 1 < NN5 := Nat.lt_of_lt_of_eq (World.block_lt_of_cell? _ _ z_p_0) hNN
  have hg : w5.heap[w4.heap.size]? = some (.cells #[.bool (decide (y.num < 0)), .slice C5 (Vx.len y.num.natAbs) j5, .slice C6 (Vx.len (below y.den)) j6] 25 (0, 0)) := ((Below.refl _ w5).block _ (Array.getElem?_eq_some_iff.1 L5.out).1).trans L5.out
  obtain ⟨z_y_0, z_y_1, z_y_2⟩ := cells3 hg
  clear hg
  have hlt5_y : w4.heap.size < NN5 := Nat.lt_of_lt_of_eq (World.block_lt_of_cell? _ _ z_y_0) hNN
  have hg : w5.heap[w4.heap.size + 1]? = some (.cells #[.bool (decide (y.num < 0)), .slice C7 (len y.num.natAbs) j7, .slice C8 (len y.den) j8] 33 (0, 0)) := ((Below.refl _ w5).block _ (Array.getElem?_eq_some_iff.1 M5.out).1).trans M5.out
  obtain ⟨z_q_0, z_q_1, z_q_2⟩ := cells3 hg
  clear hg
  have hlt5_q : w4.heap.size + 1 < NN5 := Nat.lt_of_lt_of_eq (World.block_lt_of_cell? _ _ z_q_0) hNN
  have H0 := Held0.start w5 NN5
  have H0' := H0
  unfold Held0 at H0'
  refine wp_region_held_drew (S := (fun w' => (∀ b o, b < NN5 → w'.cell? ⟨b, o, none⟩ = w5.cell? ⟨b, o, none⟩) ∧ Below (NN5) w5 w' ∧ Stay w5 w')) (by kernel_rfl) ?_ (fun hHeld => ?_)
  · (try dsimp only)
    exact H0'
  obtain ⟨w6, hw6⟩ : ∃ u, u = w5.drew := ⟨_, rfl⟩
  have b6 : Hid (Below w5.heap.size w5 w6) := by rw [hw6]; exact ⟨rfl, rfl, rfl, Nat.le_refl _, fun _ _ => rfl⟩
  rw [← hw6] at hHeld H0 ⊢
  clear hw6 H0' hNN
  as_aux_lemma =>
   refine tk (i := 0) (h := ?_)
   try simp only [Act.put, lt, ly, lu]
   refine tk (i := 1) (h := ?_)
   try simp only [Act.put, lt, ly, lu]
   refine tk (i := 3) (h := ?_)
   try simp only [Act.put, lt, ly, lu]
   refine tk (i := 4) (h := ?_)
   try simp only [Act.put, lt, ly, lu]
   refine wpAnyH_ready (rs := [2]) (by kernel_rfl) (by simp) (AllReadyH.cons (o := ?oq5) ?eq5 ?kq5 AllReadyH.nil)
   case eq5 => simp only [lg, lz, ls]; rfl
   intro K hK; go_simp; go_at_call 23
   refine (add_val e_ad.out (hRx5.out.keep b6.out) (hRy5.out.keep b6.out) s_x.out s_y.out).mono ?_
   rintro e w7 ⟨v7, rfl, hv7, b7⟩
   obtain ⟨C9, j9, C10, j10, rfl, -, -⟩ := id hv7.opened
   replace hv7 := hid hv7
   replace b7 := hid b7
   have hk7 := hcall H0 HSZ5 b7.out; have hk7' := hk7; unfold Held0 at hk7'; clear hHeld H0
   refine hK.out _ _ ?_ (fun hHeld => ?_)
   · (try dsimp only); with_reducible exact hk7'
   clear hK K hk7'; try simp only [Act.put, lt, ly, lu]
   refine wpAnyH_ready (rs := [5]) (by kernel_rfl) (by simp) (AllReadyH.cons (o := ?oq6) ?eq6 ?kq6 AllReadyH.nil)
   case eq6 => simp only [lg, lz, ls]; rfl
   intro K hK; go_simp; go_at_call 24
   refine (addR_val e_ad.out (hRp5.out.keep (Below.step b6.out b7.out)) (hRq5.out.keep (Below.step b6.out b7.out)) t_x.out t_y.out).mono ?_
   rintro e w8 ⟨v8, rfl, hv8, b8⟩
   obtain ⟨C11, j11, C12, j12, rfl, -, -⟩ := id hv8.opened
   replace hv8 := hid hv8
   replace b8 := hid b8
   have hk8 := hcall hk7 HSZ5 b8.out; have hk8' := hk8; unfold Held0 at hk8'; clear hHeld hk7
   refine hK.out _ _ ?_ (fun hHeld => ?_)
   · (try dsimp only); with_reducible exact hk8'
   clear hK K hk8'; try simp only [Act.put, lt, ly, lu]
   refine wpAnyH_ready (rs := [6]) (by kernel_rfl) (by simp) (AllReadyH.cons (o := ?oq7) ?eq7 ?kq7 AllReadyH.nil)
   case eq7 => simp only [lg, lz, ls]; rfl
   intro K hK; go_simp; go_at_call 13
   refine (same_any (hv7.out.keep b8.out) hv8.out z_ad.out (tab_keep HTB5.out (Below.step (Below.step b6.out b7.out) b8.out))).mono ?_
   rintro e w9 ⟨rfl, b9⟩
   replace b9 := hid b9
   have hk9 := hcall hk8 HSZ5 b9.out; have hk9' := hk9; unfold Held0 at hk9'; clear hHeld hk8
   refine hK.out _ _ ?_ (fun hHeld => ?_)
   · (try dsimp only); with_reducible exact hk9'
   clear hK K hk9'; try simp only [Act.put, lt, ly, lu]
   refine tk (i := 7) (h := ?_)
   try simp only [Act.put, lt, ly, lu]
   refine tk (i := 8) (h := ?_)
   try simp only [Act.put, lt, ly, lu]
   refine tk (i := 9) (h := ?_)
   try simp only [Act.put, lt, ly, lu]
   refine tk (i := 10) (h := ?_)
   try simp only [Act.put, lt, ly, lu]
   refine tk (i := 12) (h := ?_)
   try simp only [Act.put, lt, ly, lu]
   as_aux_lemma =>
    refine tk (i := 13) (h := ?_)
    try simp only [Act.put, lt, ly, lu]
    refine wpAnyH_ready (rs := [11]) (by kernel_rfl) (by simp) (AllReadyH.cons (o := ?oq14) ?eq14 ?kq14 AllReadyH.nil)
    case eq14 => simp only [lg, lz, ls]; rfl
    intro K hK; go_simp; go_at_call 25
    refine (sub_val e_su.out (hRx5.out.keep (Below.step (Below.step (Below.step b6.out b7.out) b8.out) b9.out)) (hRy5.out.keep (Below.step (Below.step (Below.step b6.out b7.out) b8.out) b9.out)) s_x.out s_y.out).mono ?_
    rintro e w10 ⟨v10, rfl, hv10, b10⟩
    obtain ⟨C13, j13, C14, j14, rfl, -, -⟩ := id hv10.opened
    replace hv10 := hid hv10
    replace b10 := hid b10
    have hk10 := hcall hk9 HSZ5 b10.out; have hk10' := hk10; unfold Held0 at hk10'; clear hHeld hk9
    refine hK.out _ _ ?_ (fun hHeld => ?_)
    · (try dsimp only); with_reducible exact hk10'
    clear hK K hk10'; try simp only [Act.put, lt, ly, lu]
    refine wpAnyH_ready (rs := [14]) (by kernel_rfl) (by simp) (AllReadyH.cons (o := ?oq15) ?eq15 ?kq15 AllReadyH.nil)
    case eq15 => simp only [lg, lz, ls]; rfl
    intro K hK; go_simp; go_at_call 26
    refine (subR_val e_su.out (hRp5.out.keep (Below.step (Below.step (Below.step (Below.step b6.out b7.out) b8.out) b9.out) b10.out)) (hRq5.out.keep (Below.step (Below.step (Below.step (Below.step b6.out b7.out) b8.out) b9.out) b10.out)) t_x.out t_y.out).mono ?_
    rintro e w11 ⟨v11, rfl, hv11, b11⟩
    obtain ⟨C15, j15, C16, j16, rfl, -, -⟩ := id hv11.opened
    replace hv11 := hid hv11
    replace b11 := hid b11
    have hk11 := hcall hk10 HSZ5 b11.out; have hk11' := hk11; unfold Held0 at hk11'; clear hHeld hk10
    refine hK.out _ _ ?_ (fun hHeld => ?_)
    · (try dsimp only); with_reducible exact hk11'
    clear hK K hk11'; try simp only [Act.put, lt, ly, lu]
    refine wpAnyH_ready (rs := [15]) (by kernel_rfl) (by simp) (AllReadyH.cons (o := ?oq16) ?eq16 ?kq16 AllReadyH.nil)
    case eq16 => simp only [lg, lz, ls]; rfl
    intro K hK; go_simp; go_at_call 13
    refine (same_any (hv10.out.keep b11.out) hv11.out z_su.out (tab_keep HTB5.out (Below.step (Below.step (Below.step (Below.step (Below.step b6.out b7.out) b8.out) b9.out) b10.out) b11.out))).mono ?_
    rintro e w12 ⟨rfl, b12⟩
    replace b12 := hid b12
    have hk12 := hcall hk11 HSZ5 b12.out; have hk12' := hk12; unfold Held0 at hk12'; clear hHeld hk11
    refine hK.out _ _ ?_ (fun hHeld => ?_)
    · (try dsimp only); with_reducible exact hk12'
    clear hK K hk12'; try simp only [Act.put, lt, ly, lu]
    refine tk (i := 16) (h := ?_)
    try simp only [Act.put, lt, ly, lu]
    refine tk (i := 17) (h := ?_)
    try simp only [Act.put, lt, ly, lu]
    refine tk (i := 18) (h := ?_)
    try simp only [Act.put, lt, ly, lu]
    refine tk (i := 19) (h := ?_)
    try simp only [Act.put, lt, ly, lu]
    refine tk (i := 20) (h := ?_)
    try simp only [Act.put, lt, ly, lu]
    refine tk (i := 22) (h := ?_)
    try simp only [Act.put, lt, ly, lu]
    refine tk (i := 23) (h := ?_)
    try simp only [Act.put, lt, ly, lu]
    refine wpAnyH_ready (rs := [21]) (by kernel_rfl) (by simp) (AllReadyH.cons (o := ?oq24) ?eq24 ?kq24 AllReadyH.nil)
    case eq24 => simp only [lg, lz, ls]; rfl
    intro K hK; go_simp; go_at_call 27
    refine (mul_val' e_mu.out (hRx5.out.keep (Below.step (Below.step (Below.step (Below.step (Below.step (Below.step b6.out b7.out) b8.out) b9.out) b10.out) b11.out) b12.out)) (hRy5.out.keep (Below.step (Below.step (Below.step (Below.step (Below.step (Below.step b6.out b7.out) b8.out) b9.out) b10.out) b11.out) b12.out)) s_x.out s_y.out).mono ?_
    rintro e w13 ⟨v13, rfl, hv13, b13⟩
    obtain ⟨C17, j17, C18, j18, rfl, -, -⟩ := id hv13.opened
    replace hv13 := hid hv13
    replace b13 := hid b13
    have hk13 := hcall hk12 HSZ5 b13.out; have hk13' := hk13; unfold Held0 at hk13'; clear hHeld hk12
    refine hK.out _ _ ?_ (fun hHeld => ?_)
    · (try dsimp only); with_reducible exact hk13'
    clear hK K hk13'; try simp only [Act.put, lt, ly, lu]
    as_aux_lemma =>
     refine wpAnyH_ready (rs := [24]) (by kernel_rfl) (by simp) (AllReadyH.cons (o := ?oq25) ?eq25 ?kq25 AllReadyH.nil)
     case eq25 => simp only [lg, lz, ls]; rfl
     intro K hK; go_simp; go_at_call 28
     refine (mulR_val e_mu.out (hRp5.out.keep (Below.step (Below.step (Below.step (Below.step (Below.step (Below.step (Below.step b6.out b7.out) b8.out) b9.out) b10.out) b11.out) b12.out) b13.out)) (hRq5.out.keep (Below.step (Below.step (Below.step (Below.step (Below.step (Below.step (Below.step b6.out b7.out) b8.out) b9.out) b10.out) b11.out) b12.out) b13.out)) t_x.out t_y.out).mono ?_
     rintro e w14 ⟨v14, rfl, hv14, b14⟩
     obtain ⟨C19, j19, C20, j20, rfl, -, -⟩ := id hv14.opened
     replace hv14 := hid hv14
     replace b14 := hid b14
     have hk14 := hcall hk13 HSZ5 b14.out; have hk14' := hk14; unfold Held0 at hk14'; clear hHeld hk13
     refine hK.out _ _ ?_ (fun hHeld => ?_)
     · (try dsimp only); with_reducible exact hk14'
     clear hK K hk14'; try simp only [Act.put, lt, ly, lu]
     refine wpAnyH_ready (rs := [25]) (by kernel_rfl) (by simp) (AllReadyH.cons (o := ?oq26) ?eq26 ?kq26 AllReadyH.nil)
     case eq26 => simp only [lg, lz, ls]; rfl
     intro K hK; go_simp; go_at_call 13
     refine (same_any (hv13.out.keep b14.out) hv14.out z_mu.out (tab_keep HTB5.out (Below.step (Below.step (Below.step (Below.step (Below.step (Below.step (Below.step (Below.step b6.out b7.out) b8.out) b9.out) b10.out) b11.out) b12.out) b13.out) b14.out))).mono ?_
     rintro e w15 ⟨rfl, b15⟩
     replace b15 := hid b15
     have hk15 := hcall hk14 HSZ5 b15.out; have hk15' := hk15; unfold Held0 at hk15'; clear hHeld hk14
     refine hK.out _ _ ?_ (fun hHeld => ?_)
     · (try dsimp only); with_reducible exact hk15'
     clear hK K hk15'; try simp only [Act.put, lt, ly, lu]
     refine tk (i := 26) (h := ?_)
     try simp only [Act.put, lt, ly, lu]
     refine tk (i := 27) (h := ?_)
     try simp only [Act.put, lt, ly, lu]
     refine tk (i := 28) (h := ?_)
     try simp only [Act.put, lt, ly, lu]
     refine tk (i := 29) (h := ?_)
     try simp only [Act.put, lt, ly, lu]
     refine tk (i := 30) (h := ?_)
     try simp only [Act.put, lt, ly, lu]
     refine tk (i := 32) (h := ?_)
     try simp only [Act.put, lt, ly, lu]
     refine tk (i := 33) (h := ?_)
     try simp only [Act.put, lt, ly, lu]
     refine wpAnyH_ready (rs := [31]) (by kernel_rfl) (by simp) (AllReadyH.cons (o := ?oq34) ?eq34 ?kq34 AllReadyH.nil)
     case eq34 => simp only [lg, lz, ls]; rfl
     intro K hK; go_simp; go_at_call 29
     refine (cmp_val e_cm.out (hRx5.out.keep (Below.step (Below.step (Below.step (Below.step (Below.step (Below.step (Below.step (Below.step (Below.step b6.out b7.out) b8.out) b9.out) b10.out) b11.out) b12.out) b13.out) b14.out) b15.out)) (hRy5.out.keep (Below.step (Below.step (Below.step (Below.step (Below.step (Below.step (Below.step (Below.step (Below.step b6.out b7.out) b8.out) b9.out) b10.out) b11.out) b12.out) b13.out) b14.out) b15.out)) s_x.out s_y.out).mono ?_
     rintro e w16 ⟨rfl, b16⟩
     replace b16 := hid b16
     have hk16 := hcall hk15 HSZ5 b16.out; have hk16' := hk16; unfold Held0 at hk16'; clear hHeld hk15
     refine hK.out _ _ ?_ (fun hHeld => ?_)
     · (try dsimp only); with_reducible exact hk16'
     clear hK K hk16'; try simp only [Act.put, lt, ly, lu]
     refine wpAnyH_ready (rs := [34]) (by kernel_rfl) (by simp) (AllReadyH.cons (o := ?oq35) ?eq35 ?kq35 AllReadyH.nil)
     case eq35 => simp only [lg, lz, ls]; rfl
     intro K hK; go_simp; go_at_call 30
     refine (cmpR_val e_cm.out (hRp5.out.keep (Below.step (Below.step (Below.step (Below.step (Below.step (Below.step (Below.step (Below.step (Below.step (Below.step b6.out b7.out) b8.out) b9.out) b10.out) b11.out) b12.out) b13.out) b14.out) b15.out) b16.out)) (hRq5.out.keep (Below.step (Below.step (Below.step (Below.step (Below.step (Below.step (Below.step (Below.step (Below.step (Below.step b6.out b7.out) b8.out) b9.out) b10.out) b11.out) b12.out) b13.out) b14.out) b15.out) b16.out)) t_x.out t_y.out).mono ?_
     rintro e w17 ⟨rfl, b17⟩
     replace b17 := hid b17
     have hk17 := hcall hk16 HSZ5 b17.out; have hk17' := hk17; unfold Held0 at hk17'; clear hHeld hk16
     refine hK.out _ _ ?_ (fun hHeld => ?_)
     · (try dsimp only); with_reducible exact hk17'
     clear hK K hk17'; try simp only [Act.put, lt, ly, lu]
     refine tk (i := 35) (h := ?_)
     try simp only [Act.put, lt, ly, lu]
     as_aux_lemma =>
      refine tk (i := 36) (h := ?_)
      try simp only [Act.put, lt, ly, lu]
      refine tk (i := 37) (h := ?_)
      try simp only [Act.put, lt, ly, lu]
      refine tk (i := 38) (h := ?_)
      try simp only [Act.put, lt, ly, lu]
      refine tk (i := 40) (h := ?_)
      try simp only [Act.put, lt, ly, lu]
      refine wpAnyH_ready (rs := [39]) (by kernel_rfl) (by simp) (AllReadyH.cons (o := ?oq41) ?eq41 ?kq41 AllReadyH.nil)
      case eq41 => simp only [lg, lz, ls]; rfl
      intro K hK; go_simp; go_at_call 16
      refine (sign_val e_sg.out (hRx5.out.keep (Below.step (Below.step (Below.step (Below.step (Below.step (Below.step (Below.step (Below.step (Below.step (Below.step (Below.step b6.out b7.out) b8.out) b9.out) b10.out) b11.out) b12.out) b13.out) b14.out) b15.out) b16.out) b17.out))).mono ?_
      rintro e w18 ⟨rfl, b18⟩
      replace b18 := hid b18
      have hk18 := hcall hk17 HSZ5 b18.out; have hk18' := hk18; unfold Held0 at hk18'; clear hHeld hk17
      refine hK.out _ _ ?_ (fun hHeld => ?_)
      · (try dsimp only); with_reducible exact hk18'
      clear hK K hk18'; try simp only [Act.put, lt, ly, lu]
      refine wpAnyH_ready (rs := [41]) (by kernel_rfl) (by simp) (AllReadyH.cons (o := ?oq42) ?eq42 ?kq42 AllReadyH.nil)
      case eq42 => simp only [lg, lz, ls]; rfl
      intro K hK; go_simp; go_at_call 31
      refine (signR_any e_sg.out (hRp5.out.keep (Below.step (Below.step (Below.step (Below.step (Below.step (Below.step (Below.step (Below.step (Below.step (Below.step (Below.step (Below.step b6.out b7.out) b8.out) b9.out) b10.out) b11.out) b12.out) b13.out) b14.out) b15.out) b16.out) b17.out) b18.out))).mono ?_
      rintro e w19 ⟨rfl, b19⟩
      replace b19 := hid b19
      have hk19 := hcall hk18 HSZ5 b19.out; have hk19' := hk19; unfold Held0 at hk19'; clear hHeld hk18
      refine hK.out _ _ ?_ (fun hHeld => ?_)
      · (try dsimp only); with_reducible exact hk19'
      clear hK K hk19'; try simp only [Act.put, lt, ly, lu]
      refine tk (i := 42) (h := ?_)
      try simp only [Act.put, lt, ly, lu]
      refine tk (i := 43) (h := ?_)
      try simp only [Act.put, lt, ly, lu]
      refine wpAnyH_done (by kernel_rfl) ?_ _
      clear hHeld
      clear z_x_0 z_x_1 z_x_2 z_p_0 z_p_1 z_p_2 z_y_0 z_y_1 z_y_2 z_q_0 z_q_1 z_q_2 hlt5_x hlt5_p hlt5_y hlt5_q
      clear hk19 HSZ5
      have hRx19 := hid (hRx5.out.keep (Below.step (Below.step (Below.step (Below.step (Below.step (Below.step (Below.step (Below.step (Below.step (Below.step (Below.step (Below.step (Below.step b6.out b7.out) b8.out) b9.out) b10.out) b11.out) b12.out) b13.out) b14.out) b15.out) b16.out) b17.out) b18.out) b19.out))
      have hRp19 := hid (hRp5.out.keep (Below.step (Below.step (Below.step (Below.step (Below.step (Below.step (Below.step (Below.step (Below.step (Below.step (Below.step (Below.step (Below.step b6.out b7.out) b8.out) b9.out) b10.out) b11.out) b12.out) b13.out) b14.out) b15.out) b16.out) b17.out) b18.out) b19.out))
      have hRy19 := hid (hRy5.out.keep (Below.step (Below.step (Below.step (Below.step (Below.step (Below.step (Below.step (Below.step (Below.step (Below.step (Below.step (Below.step (Below.step b6.out b7.out) b8.out) b9.out) b10.out) b11.out) b12.out) b13.out) b14.out) b15.out) b16.out) b17.out) b18.out) b19.out))
      have hRq19 := hid (hRq5.out.keep (Below.step (Below.step (Below.step (Below.step (Below.step (Below.step (Below.step (Below.step (Below.step (Below.step (Below.step (Below.step (Below.step b6.out b7.out) b8.out) b9.out) b10.out) b11.out) b12.out) b13.out) b14.out) b15.out) b16.out) b17.out) b18.out) b19.out))
      have LRx19 : Hid (w19.heap[w2.heap.size]? = some (.cells #[.bool (decide (x.num < 0)), .slice C1 (Vx.len x.num.natAbs) j1, .slice C2 (Vx.len (below x.den)) j2] 25 (0, 0))) := ((Below.step (Below.step (Below.step (Below.step (Below.step (Below.step (Below.step (Below.step (Below.step (Below.step (Below.step (Below.step (Below.step b6.out b7.out) b8.out) b9.out) b10.out) b11.out) b12.out) b13.out) b14.out) b15.out) b16.out) b17.out) b18.out) b19.out).block _ (Array.getElem?_eq_some_iff.1 LRx5.out).1).trans LRx5.out
      have LRp19 : Hid (w19.heap[w2.heap.size + 1]? = some (.cells #[.bool (decide (x.num < 0)), .slice C3 (len x.num.natAbs) j3, .slice C4 (len x.den) j4] 33 (0, 0))) := ((Below.step (Below.step (Below.step (Below.step (Below.step (Below.step (Below.step (Below.step (Below.step (Below.step (Below.step (Below.step (Below.step b6.out b7.out) b8.out) b9.out) b10.out) b11.out) b12.out) b13.out) b14.out) b15.out) b16.out) b17.out) b18.out) b19.out).block _ (Array.getElem?_eq_some_iff.1 LRp5.out).1).trans LRp5.out
      have LRy19 : Hid (w19.heap[w4.heap.size]? = some (.cells #[.bool (decide (y.num < 0)), .slice C5 (Vx.len y.num.natAbs) j5, .slice C6 (Vx.len (below y.den)) j6] 25 (0, 0))) := ((Below.step (Below.step (Below.step (Below.step (Below.step (Below.step (Below.step (Below.step (Below.step (Below.step (Below.step (Below.step (Below.step b6.out b7.out) b8.out) b9.out) b10.out) b11.out) b12.out) b13.out) b14.out) b15.out) b16.out) b17.out) b18.out) b19.out).block _ (Array.getElem?_eq_some_iff.1 L5.out).1).trans L5.out
      have LRq19 : Hid (w19.heap[w4.heap.size + 1]? = some (.cells #[.bool (decide (y.num < 0)), .slice C7 (len y.num.natAbs) j7, .slice C8 (len y.den) j8] 33 (0, 0))) := ((Below.step (Below.step (Below.step (Below.step (Below.step (Below.step (Below.step (Below.step (Below.step (Below.step (Below.step (Below.step (Below.step b6.out b7.out) b8.out) b9.out) b10.out) b11.out) b12.out) b13.out) b14.out) b15.out) b16.out) b17.out) b18.out) b19.out).block _ (Array.getElem?_eq_some_iff.1 M5.out).1).trans M5.out
      have HMB19 := hid (cell_keep HMB5.out (Below.step (Below.step (Below.step (Below.step (Below.step (Below.step (Below.step (Below.step (Below.step (Below.step (Below.step (Below.step (Below.step b6.out b7.out) b8.out) b9.out) b10.out) b11.out) b12.out) b13.out) b14.out) b15.out) b16.out) b17.out) b18.out) b19.out))
      have HTB19 := hid (tab_keep HTB5.out (Below.step (Below.step (Below.step (Below.step (Below.step (Below.step (Below.step (Below.step (Below.step (Below.step (Below.step (Below.step (Below.step b6.out b7.out) b8.out) b9.out) b10.out) b11.out) b12.out) b13.out) b14.out) b15.out) b16.out) b17.out) b18.out) b19.out))
      have HBB19 := hid (Below.step HBB5.out (Below.step (Below.step (Below.step (Below.step (Below.step (Below.step (Below.step (Below.step (Below.step (Below.step (Below.step (Below.step (Below.step b6.out b7.out) b8.out) b9.out) b10.out) b11.out) b12.out) b13.out) b14.out) b15.out) b16.out) b17.out) b18.out) b19.out))
      clear hRx5 hRp5 hRy5 hRq5 LRx5 LRp5 L5 M5 HMB5 HTB5 HBB5 b6 b7 b8 b9 b10 b11 b12 b13 b14 b15 b16 b17 b18 b19
      rcases Decidable.em (y = 0) with hy0 | hy0
      · have hz := hid (show decide (y = 0) = true from decide_eq_true hy0)
        have hc := hid (show (if y = 0 then 10 else 0) = (10 : Int) from if_pos hy0)
        have h9 := hid (show di.num.sign = 0 by rw [← e_di.out, hy0, Rat.div_def, Rat.inv_zero, Rat.mul_zero]; rfl)
        clear hy0
        have hg : w19.heap[w2.heap.size]? = some (.cells #[.bool (decide (x.num < 0)), .slice C1 (Vx.len x.num.natAbs) j1, .slice C2 (Vx.len (below x.den)) j2] 25 (0, 0)) := ((Below.refl _ w19).block _ (Array.getElem?_eq_some_iff.1 LRx19.out).1).trans LRx19.out
        obtain ⟨z_x_0, z_x_1, z_x_2⟩ := cells3 hg
        clear hg
        have hg : w19.heap[w4.heap.size]? = some (.cells #[.bool (decide (y.num < 0)), .slice C5 (Vx.len y.num.natAbs) j5, .slice C6 (Vx.len (below y.den)) j6] 25 (0, 0)) := ((Below.refl _ w19).block _ (Array.getElem?_eq_some_iff.1 LRy19.out).1).trans LRy19.out
        obtain ⟨z_y_0, z_y_1, z_y_2⟩ := cells3 hg
        clear hg
        have HX := hid (div_val e_di.out hc.out hRx19.out hRy19.out s_x.out s_y.out)
        go_wp2_with fail
        refine (HX.out).mono ?_
        rintro e w20 ⟨v20, rfl, hv20, b20⟩
        obtain ⟨C21, j21, C22, j22, rfl, -, -⟩ := id hv20.opened
        replace hv20 := hid hv20
        replace b20 := hid b20
        clear HX
        clear z_x_0 z_x_1 z_x_2 z_y_0 z_y_1 z_y_2
        go_upto_region 8 with fail
        obtain ⟨w21, hw21⟩ : ∃ u, u = w20.alloc (.cells #[.bool (decide (di.num < 0)), .slice C21 (Vx.len di.num.natAbs) j21, .slice C22 (Vx.len (below di.den)) j22] 25) := ⟨_, rfl⟩
        have b21 : Hid (Below w20.heap.size w20 w21) := by rw [hw21]; exact (Below.refl _ _).alloc (Nat.le_refl _) _
        have L21 : Hid (w21.heap[w20.heap.size]? = some (.cells #[.bool (decide (di.num < 0)), .slice C21 (Vx.len di.num.natAbs) j21, .slice C22 (Vx.len (below di.den)) j22] 25 (0, 0))) := by rw [hw21]; exact heap_alloc_new w20 _
        rw [← hw21]
        clear hw21
        have hRx21 := hid (hRx19.out.keep (Below.step b20.out b21.out))
        have hRp21 := hid (hRp19.out.keep (Below.step b20.out b21.out))
        have hRy21 := hid (hRy19.out.keep (Below.step b20.out b21.out))
        have hRq21 := hid (hRq19.out.keep (Below.step b20.out b21.out))
        have hRz21 := hid (hv20.out.keep b21.out)
        have LRx21 : Hid (w21.heap[w2.heap.size]? = some (.cells #[.bool (decide (x.num < 0)), .slice C1 (Vx.len x.num.natAbs) j1, .slice C2 (Vx.len (below x.den)) j2] 25 (0, 0))) := ((Below.step b20.out b21.out).block _ (Array.getElem?_eq_some_iff.1 LRx19.out).1).trans LRx19.out
        have LRp21 : Hid (w21.heap[w2.heap.size + 1]? = some (.cells #[.bool (decide (x.num < 0)), .slice C3 (len x.num.natAbs) j3, .slice C4 (len x.den) j4] 33 (0, 0))) := ((Below.step b20.out b21.out).block _ (Array.getElem?_eq_some_iff.1 LRp19.out).1).trans LRp19.out
        have LRy21 : Hid (w21.heap[w4.heap.size]? = some (.cells #[.bool (decide (y.num < 0)), .slice C5 (Vx.len y.num.natAbs) j5, .slice C6 (Vx.len (below y.den)) j6] 25 (0, 0))) := ((Below.step b20.out b21.out).block _ (Array.getElem?_eq_some_iff.1 LRy19.out).1).trans LRy19.out
        have LRq21 : Hid (w21.heap[w4.heap.size + 1]? = some (.cells #[.bool (decide (y.num < 0)), .slice C7 (len y.num.natAbs) j7, .slice C8 (len y.den) j8] 33 (0, 0))) := ((Below.step b20.out b21.out).block _ (Array.getElem?_eq_some_iff.1 LRq19.out).1).trans LRq19.out
        have HMB21 := hid (cell_keep HMB19.out (Below.step b20.out b21.out))
        have HTB21 := hid (tab_keep HTB19.out (Below.step b20.out b21.out))
        have HBB21 := hid (Below.step HBB19.out (Below.step b20.out b21.out))
        clear hRx19 hRp19 hRy19 hRq19 hv20 LRx19 LRp19 LRy19 LRq19 HMB19 HTB19 HBB19 b20 b21
        go_wp2_with fail
        obtain ⟨NN8, hNN⟩ : ∃ n : Nat, w21.heap.size = n := ⟨_, rfl⟩
        have HSZ8 : Hid (w21.heap.size = NN8) := hNN
        have hg : w21.heap[w2.heap.size + 1]? = some (.cells #[.bool (decide (x.num < 0)), .slice C3 (len x.num.natAbs) j3, .slice C4 (len x.den) j4] 33 (0, 0)) := ((Below.refl _ w21).block _ (Array.getElem?_eq_some_iff.1 LRp21.out).1).trans LRp21.out
        obtain ⟨z_p_0, z_p_1, z_p_2⟩ := cells3 hg
        clear hg
        have hlt8_p : w2.heap.size + 1 < NN8 := Nat.lt_of_lt_of_eq (World.block_lt_of_cell? _ _ z_p_0) hNN
        have hg : w21.heap[w4.heap.size + 1]? = some (.cells #[.bool (decide (y.num < 0)), .slice C7 (len y.num.natAbs) j7, .slice C8 (len y.den) j8] 33 (0, 0)) := ((Below.refl _ w21).block _ (Array.getElem?_eq_some_iff.1 LRq21.out).1).trans LRq21.out
        obtain ⟨z_q_0, z_q_1, z_q_2⟩ := cells3 hg
        clear hg
        have hlt8_q : w4.heap.size + 1 < NN8 := Nat.lt_of_lt_of_eq (World.block_lt_of_cell? _ _ z_q_0) hNN
        have hg : w21.heap[w20.heap.size]? = some (.cells #[.bool (decide (di.num < 0)), .slice C21 (Vx.len di.num.natAbs) j21, .slice C22 (Vx.len (below di.den)) j22] 25 (0, 0)) := ((Below.refl _ w21).block _ (Array.getElem?_eq_some_iff.1 L21.out).1).trans L21.out
        obtain ⟨z_z_0, z_z_1, z_z_2⟩ := cells3 hg
        clear hg
        have hlt8_z : w20.heap.size < NN8 := Nat.lt_of_lt_of_eq (World.block_lt_of_cell? _ _ z_z_0) hNN
        have H0 := Held0.start w21 NN8
        have H0' := H0
        unfold Held0 at H0'
        refine wp_region_held_drew (S := (fun w' => (∀ b o, b < NN8 → w'.cell? ⟨b, o, none⟩ = w21.cell? ⟨b, o, none⟩) ∧ Below (NN8) w21 w' ∧ Stay w21 w')) (by kernel_rfl) ?_ (fun hHeld => ?_)
        · (try dsimp only)
          exact H0'
        obtain ⟨w22, hw22⟩ : ∃ u, u = w21.drew := ⟨_, rfl⟩
        have b22 : Hid (Below w21.heap.size w21 w22) := by rw [hw22]; exact ⟨rfl, rfl, rfl, Nat.le_refl _, fun _ _ => rfl⟩
        rw [← hw22] at hHeld H0 ⊢
        clear hw22 H0' hNN
        as_aux_lemma =>
         refine tk (i := 0) (h := ?_)
         try simp only [Act.put, lt, ly, lu]
         refine wpAnyH_ready (rs := [1]) (by kernel_rfl) (by simp) (AllReadyH.cons (o := ?oq46) ?eq46 ?kq46 AllReadyH.nil)
         case eq46 => simp only [lg, lz, ls]; rfl
         intro K hK; go_simp; go_at_call 33
         refine (zeroR_any hz.out (hRq21.out.keep b22.out)).mono ?_
         rintro e w23 ⟨rfl, b23⟩
         replace b23 := hid b23
         have hk23 := hcall H0 HSZ8 b23.out; have hk23' := hk23; unfold Held0 at hk23'; clear hHeld H0
         refine hK.out _ _ ?_ (fun hHeld => ?_)
         · (try dsimp only); with_reducible exact hk23'
         clear hK K hk23'; try simp only [Act.put, lt, ly, lu]
         refine tk (i := 2) (h := ?_)
         try simp only [Act.put, lt, ly, lu]
         refine tk (i := 3) (h := ?_)
         try simp only [Act.put, lt, ly, lu]
         refine tk (i := 4) (h := ?_)
         try simp only [Act.put, lt, ly, lu]
         refine tk (i := 5) (h := ?_)
         try simp only [Act.put, lt, ly, lu]
         refine tk (i := 6) (h := ?_)
         try simp only [Act.put, lt, ly, lu]
         refine wpAnyH_ready (rs := [7]) (by kernel_rfl) (by simp) (AllReadyH.cons (o := ?oq52) ?eq52 ?kq52 AllReadyH.nil)
         case eq52 => simp only [lg, lz, ls]; rfl
         intro K hK; go_simp; go_at_call 16
         refine (sign_val h9.out (hRz21.out.keep (Below.step b22.out b23.out))).mono ?_
         rintro e w24 ⟨rfl, b24⟩
         replace b24 := hid b24
         have hk24 := hcall hk23 HSZ8 b24.out; have hk24' := hk24; unfold Held0 at hk24'; clear hHeld hk23
         refine hK.out _ _ ?_ (fun hHeld => ?_)
         · (try dsimp only); with_reducible exact hk24'
         clear hK K hk24'; try simp only [Act.put, lt, ly, lu]
         refine tk (i := 8) (h := ?_)
         try simp only [Act.put, lt, ly, lu]
         refine tk (i := 9) (h := ?_)
         try simp only [Act.put, lt, ly, lu]
         refine tk (i := 10) (h := ?_)
         try simp only [Act.put, lt, ly, lu]
         refine tk (i := 11) (h := ?_)
         try simp only [Act.put, lt, ly, lu]
         as_aux_lemma =>
          refine tk (i := 12) (h := ?_)
          try simp only [Act.put, lt, ly, lu]
          refine wpAnyH_ready (rs := [13]) (by kernel_rfl) (by simp) (AllReadyH.cons (o := ?oq58) ?eq58 ?kq58 AllReadyH.nil)
          case eq58 => simp only [lg, lz, ls]; rfl
          intro K hK; go_simp; go_at_call 33
          refine (zeroR_any hz.out (hRq21.out.keep (Below.step (Below.step b22.out b23.out) b24.out))).mono ?_
          rintro e w25 ⟨rfl, b25⟩
          replace b25 := hid b25
          have hk25 := hcall hk24 HSZ8 b25.out; have hk25' := hk25; unfold Held0 at hk25'; clear hHeld hk24
          refine hK.out _ _ ?_ (fun hHeld => ?_)
          · (try dsimp only); with_reducible exact hk25'
          clear hK K hk25'; try simp only [Act.put, lt, ly, lu]
          refine tk (i := 14) (h := ?_)
          try simp only [Act.put, lt, ly, lu]
          refine tk (i := 15) (h := ?_)
          try simp only [Act.put, lt, ly, lu]
          refine tk (i := 16) (v := undef) (hy := by exact Or.inr ⟨by rfl, rfl⟩) (h := ?_)
          try simp only [Act.put, lt, ly, lu]
          refine tk (i := 17) (v := undef) (hy := by exact Or.inr ⟨by rfl, rfl⟩) (h := ?_)
          try simp only [Act.put, lt, ly, lu]
          refine tk (i := 18) (v := undef) (hy := by exact Or.inr ⟨by rfl, rfl⟩) (h := ?_)
          try simp only [Act.put, lt, ly, lu]
          refine tk (i := 19) (v := undef) (hy := by exact Or.inr ⟨by rfl, rfl⟩) (h := ?_)
          try simp only [Act.put, lt, ly, lu]
          refine tk (i := 20) (v := undef) (hy := by exact Or.inr ⟨by rfl, rfl⟩) (h := ?_)
          try simp only [Act.put, lt, ly, lu]
          refine tk (i := 21) (v := undef) (hy := by exact Or.inr ⟨by rfl, rfl⟩) (h := ?_)
          try simp only [Act.put, lt, ly, lu]
          refine wpAnyH_ready (rs := [22]) (by kernel_rfl) (by simp) (AllReadyH.cons (o := ?oq67) ?eq67 ?kq67 AllReadyH.nil)
          case eq67 => simp only [lg, lz, ls]; rfl
          intro K hK; go_simp
          refine hK.out _ _ ?_ (fun hHeld2 => ?_)
          · (try dsimp only); exact hHeld
          clear hK K hHeld
          try simp only [Act.put, lt, ly, lu]
          have hHeld := hHeld2
          clear hHeld2
          refine wpAnyH_ready (rs := [23]) (by kernel_rfl) (by simp) (AllReadyH.cons (o := ?oq68) ?eq68 ?kq68 AllReadyH.nil)
          case eq68 => simp only [lg, lz, ls]; rfl
          intro K hK; go_simp
          refine hK.out _ _ ?_ (fun hHeld2 => ?_)
          · (try dsimp only); exact hHeld
          clear hK K hHeld
          try simp only [Act.put, lt, ly, lu]
          have hHeld := hHeld2
          clear hHeld2
          as_aux_lemma =>
           refine tk (i := 24) (v := undef) (hy := by exact Or.inr ⟨by rfl, rfl⟩) (h := ?_)
           try simp only [Act.put, lt, ly, lu]
           refine tk (i := 25) (v := undef) (hy := by exact Or.inr ⟨by rfl, rfl⟩) (h := ?_)
           try simp only [Act.put, lt, ly, lu]
           refine tk (i := 26) (h := ?_)
           try simp only [Act.put, lt, ly, lu]
           refine tk (i := 27) (h := ?_)
           try simp only [Act.put, lt, ly, lu]
           refine wpAnyH_done (by kernel_rfl) ?_ _
           clear hHeld
           clear z_p_0 z_p_1 z_p_2 z_q_0 z_q_1 z_q_2 z_z_0 z_z_1 z_z_2 hlt8_p hlt8_q hlt8_z
           clear hk25 HSZ8
           have hRx25 := hid (hRx21.out.keep (Below.step (Below.step (Below.step b22.out b23.out) b24.out) b25.out))
           have hRp25 := hid (hRp21.out.keep (Below.step (Below.step (Below.step b22.out b23.out) b24.out) b25.out))
           have hRy25 := hid (hRy21.out.keep (Below.step (Below.step (Below.step b22.out b23.out) b24.out) b25.out))
           have hRq25 := hid (hRq21.out.keep (Below.step (Below.step (Below.step b22.out b23.out) b24.out) b25.out))
           have LRx25 : Hid (w25.heap[w2.heap.size]? = some (.cells #[.bool (decide (x.num < 0)), .slice C1 (Vx.len x.num.natAbs) j1, .slice C2 (Vx.len (below x.den)) j2] 25 (0, 0))) := ((Below.step (Below.step (Below.step b22.out b23.out) b24.out) b25.out).block _ (Array.getElem?_eq_some_iff.1 LRx21.out).1).trans LRx21.out
           have LRp25 : Hid (w25.heap[w2.heap.size + 1]? = some (.cells #[.bool (decide (x.num < 0)), .slice C3 (len x.num.natAbs) j3, .slice C4 (len x.den) j4] 33 (0, 0))) := ((Below.step (Below.step (Below.step b22.out b23.out) b24.out) b25.out).block _ (Array.getElem?_eq_some_iff.1 LRp21.out).1).trans LRp21.out
           have LRy25 : Hid (w25.heap[w4.heap.size]? = some (.cells #[.bool (decide (y.num < 0)), .slice C5 (Vx.len y.num.natAbs) j5, .slice C6 (Vx.len (below y.den)) j6] 25 (0, 0))) := ((Below.step (Below.step (Below.step b22.out b23.out) b24.out) b25.out).block _ (Array.getElem?_eq_some_iff.1 LRy21.out).1).trans LRy21.out
           have LRq25 : Hid (w25.heap[w4.heap.size + 1]? = some (.cells #[.bool (decide (y.num < 0)), .slice C7 (len y.num.natAbs) j7, .slice C8 (len y.den) j8] 33 (0, 0))) := ((Below.step (Below.step (Below.step b22.out b23.out) b24.out) b25.out).block _ (Array.getElem?_eq_some_iff.1 LRq21.out).1).trans LRq21.out
           have HMB25 := hid (cell_keep HMB21.out (Below.step (Below.step (Below.step b22.out b23.out) b24.out) b25.out))
           have HTB25 := hid (tab_keep HTB21.out (Below.step (Below.step (Below.step b22.out b23.out) b24.out) b25.out))
           have HBB25 := hid (Below.step HBB21.out (Below.step (Below.step (Below.step b22.out b23.out) b24.out) b25.out))
           clear hRx21 hRp21 hRy21 hRq21 LRx21 LRp21 LRy21 LRq21 HMB21 HTB21 HBB21 b22 b23 b24 b25
           go_wp2_with fail
           obtain ⟨NN10, hNN⟩ : ∃ n : Nat, w25.heap.size = n := ⟨_, rfl⟩
           have HSZ10 : Hid (w25.heap.size = NN10) := hNN
           have hg : w25.heap[w2.heap.size]? = some (.cells #[.bool (decide (x.num < 0)), .slice C1 (Vx.len x.num.natAbs) j1, .slice C2 (Vx.len (below x.den)) j2] 25 (0, 0)) := ((Below.refl _ w25).block _ (Array.getElem?_eq_some_iff.1 LRx25.out).1).trans LRx25.out
           obtain ⟨z_x_0, z_x_1, z_x_2⟩ := cells3 hg
           clear hg
           have hlt10_x : w2.heap.size < NN10 := Nat.lt_of_lt_of_eq (World.block_lt_of_cell? _ _ z_x_0) hNN
           have hg : w25.heap[w2.heap.size + 1]? = some (.cells #[.bool (decide (x.num < 0)), .slice C3 (len x.num.natAbs) j3, .slice C4 (len x.den) j4] 33 (0, 0)) := ((Below.refl _ w25).block _ (Array.getElem?_eq_some_iff.1 LRp25.out).1).trans LRp25.out
           obtain ⟨z_p_0, z_p_1, z_p_2⟩ := cells3 hg
           clear hg
           have hlt10_p : w2.heap.size + 1 < NN10 := Nat.lt_of_lt_of_eq (World.block_lt_of_cell? _ _ z_p_0) hNN
           have hg : w25.heap[w4.heap.size]? = some (.cells #[.bool (decide (y.num < 0)), .slice C5 (Vx.len y.num.natAbs) j5, .slice C6 (Vx.len (below y.den)) j6] 25 (0, 0)) := ((Below.refl _ w25).block _ (Array.getElem?_eq_some_iff.1 LRy25.out).1).trans LRy25.out
           obtain ⟨z_y_0, z_y_1, z_y_2⟩ := cells3 hg
           clear hg
           have hlt10_y : w4.heap.size < NN10 := Nat.lt_of_lt_of_eq (World.block_lt_of_cell? _ _ z_y_0) hNN
           have hg : w25.heap[w4.heap.size + 1]? = some (.cells #[.bool (decide (y.num < 0)), .slice C7 (len y.num.natAbs) j7, .slice C8 (len y.den) j8] 33 (0, 0)) := ((Below.refl _ w25).block _ (Array.getElem?_eq_some_iff.1 LRq25.out).1).trans LRq25.out
           obtain ⟨z_q_0, z_q_1, z_q_2⟩ := cells3 hg
           clear hg
           have hlt10_q : w4.heap.size + 1 < NN10 := Nat.lt_of_lt_of_eq (World.block_lt_of_cell? _ _ z_q_0) hNN
           have H0 := Held0.start w25 NN10
           have H0' := H0
           unfold Held0 at H0'
           refine wp_region_held_drew (S := (fun w' => (∀ b o, b < NN10 → w'.cell? ⟨b, o, none⟩ = w25.cell? ⟨b, o, none⟩) ∧ Below (NN10) w25 w' ∧ Stay w25 w')) (by kernel_rfl) ?_ (fun hHeld => ?_)
           · (try dsimp only)
             exact H0'
           obtain ⟨w26, hw26⟩ : ∃ u, u = w25.drew := ⟨_, rfl⟩
           have b26 : Hid (Below w25.heap.size w25 w26) := by rw [hw26]; exact ⟨rfl, rfl, rfl, Nat.le_refl _, fun _ _ => rfl⟩
           rw [← hw26] at hHeld H0 ⊢
           clear hw26 H0' hNN
           as_aux_lemma =>
            refine tk (i := 0) (h := ?_)
            try simp only [Act.put, lt, ly, lu]
            refine tk (i := 2) (h := ?_)
            try simp only [Act.put, lt, ly, lu]
            refine wpAnyH_ready (rs := [1]) (by kernel_rfl) (by simp) (AllReadyH.cons (o := ?oq75) ?eq75 ?kq75 AllReadyH.nil)
            case eq75 => simp only [lg, lz, ls]; rfl
            intro K hK; go_simp; go_at_call 35
            refine (neg_val e_ne.out (hRx25.out.keep b26.out) s_x.out).mono ?_
            rintro e w27 ⟨v27, rfl, hv27, b27⟩
            obtain ⟨C23, j23, C24, j24, rfl, -, -⟩ := id hv27.opened
            replace hv27 := hid hv27
            replace b27 := hid b27
            have hk27 := hcall H0 HSZ10 b27.out; have hk27' := hk27; unfold Held0 at hk27'; clear hHeld H0
            refine hK.out _ _ ?_ (fun hHeld => ?_)
            · (try dsimp only); with_reducible exact hk27'
            clear hK K hk27'; try simp only [Act.put, lt, ly, lu]
            refine wpAnyH_ready (rs := [3]) (by kernel_rfl) (by simp) (AllReadyH.cons (o := ?oq76) ?eq76 ?kq76 AllReadyH.nil)
            case eq76 => simp only [lg, lz, ls]; rfl
            intro K hK; go_simp; go_at_call 36
            refine (negR_any e_ne.out (hRp25.out.keep (Below.step b26.out b27.out)) ).mono ?_
            rintro e w28 ⟨v28, rfl, hv28, b28⟩
            obtain ⟨C25, j25, C26, j26, rfl, -, -⟩ := id hv28.opened
            replace hv28 := hid hv28
            replace b28 := hid b28
            have hk28 := hcall hk27 HSZ10 b28.out; have hk28' := hk28; unfold Held0 at hk28'; clear hHeld hk27
            refine hK.out _ _ ?_ (fun hHeld => ?_)
            · (try dsimp only); with_reducible exact hk28'
            clear hK K hk28'; try simp only [Act.put, lt, ly, lu]
            refine wpAnyH_ready (rs := [4]) (by kernel_rfl) (by simp) (AllReadyH.cons (o := ?oq77) ?eq77 ?kq77 AllReadyH.nil)
            case eq77 => simp only [lg, lz, ls]; rfl
            intro K hK; go_simp; go_at_call 13
            refine (same_any (hv27.out.keep b28.out) hv28.out z_ne.out (tab_keep HTB25.out (Below.step (Below.step b26.out b27.out) b28.out))).mono ?_
            rintro e w29 ⟨rfl, b29⟩
            replace b29 := hid b29
            have hk29 := hcall hk28 HSZ10 b29.out; have hk29' := hk29; unfold Held0 at hk29'; clear hHeld hk28
            refine hK.out _ _ ?_ (fun hHeld => ?_)
            · (try dsimp only); with_reducible exact hk29'
            clear hK K hk29'; try simp only [Act.put, lt, ly, lu]
            refine tk (i := 5) (h := ?_)
            try simp only [Act.put, lt, ly, lu]
            refine tk (i := 6) (h := ?_)
            try simp only [Act.put, lt, ly, lu]
            refine tk (i := 8) (h := ?_)
            try simp only [Act.put, lt, ly, lu]
            refine wpAnyH_ready (rs := [7]) (by kernel_rfl) (by simp) (AllReadyH.cons (o := ?oq81) ?eq81 ?kq81 AllReadyH.nil)
            case eq81 => simp only [lg, lz, ls]; rfl
            intro K hK; go_simp; go_at_call 37
            refine (nabs_val e_ab.out (hRx25.out.keep (Below.step (Below.step (Below.step b26.out b27.out) b28.out) b29.out)) s_x.out).mono ?_
            rintro e w30 ⟨v30, rfl, hv30, b30⟩
            obtain ⟨C27, j27, C28, j28, rfl, -, -⟩ := id hv30.opened
            replace hv30 := hid hv30
            replace b30 := hid b30
            have hk30 := hcall hk29 HSZ10 b30.out; have hk30' := hk30; unfold Held0 at hk30'; clear hHeld hk29
            refine hK.out _ _ ?_ (fun hHeld => ?_)
            · (try dsimp only); with_reducible exact hk30'
            clear hK K hk30'; try simp only [Act.put, lt, ly, lu]
            refine wpAnyH_ready (rs := [9]) (by kernel_rfl) (by simp) (AllReadyH.cons (o := ?oq82) ?eq82 ?kq82 AllReadyH.nil)
            case eq82 => simp only [lg, lz, ls]; rfl
            intro K hK; go_simp; go_at_call 38
            refine (absR_any e_ab.out (hRp25.out.keep (Below.step (Below.step (Below.step (Below.step b26.out b27.out) b28.out) b29.out) b30.out)) ).mono ?_
            rintro e w31 ⟨v31, rfl, hv31, b31⟩
            obtain ⟨C29, j29, C30, j30, rfl, -, -⟩ := id hv31.opened
            replace hv31 := hid hv31
            replace b31 := hid b31
            have hk31 := hcall hk30 HSZ10 b31.out; have hk31' := hk31; unfold Held0 at hk31'; clear hHeld hk30
            refine hK.out _ _ ?_ (fun hHeld => ?_)
            · (try dsimp only); with_reducible exact hk31'
            clear hK K hk31'; try simp only [Act.put, lt, ly, lu]
            refine wpAnyH_ready (rs := [10]) (by kernel_rfl) (by simp) (AllReadyH.cons (o := ?oq83) ?eq83 ?kq83 AllReadyH.nil)
            case eq83 => simp only [lg, lz, ls]; rfl
            intro K hK; go_simp; go_at_call 13
            refine (same_any (hv30.out.keep b31.out) hv31.out z_ab.out (tab_keep HTB25.out (Below.step (Below.step (Below.step (Below.step (Below.step b26.out b27.out) b28.out) b29.out) b30.out) b31.out))).mono ?_
            rintro e w32 ⟨rfl, b32⟩
            replace b32 := hid b32
            have hk32 := hcall hk31 HSZ10 b32.out; have hk32' := hk32; unfold Held0 at hk32'; clear hHeld hk31
            refine hK.out _ _ ?_ (fun hHeld => ?_)
            · (try dsimp only); with_reducible exact hk32'
            clear hK K hk32'; try simp only [Act.put, lt, ly, lu]
            refine tk (i := 11) (h := ?_)
            try simp only [Act.put, lt, ly, lu]
            as_aux_lemma =>
             refine tk (i := 12) (h := ?_)
             try simp only [Act.put, lt, ly, lu]
             refine tk (i := 13) (h := ?_)
             try simp only [Act.put, lt, ly, lu]
             refine tk (i := 15) (h := ?_)
             try simp only [Act.put, lt, ly, lu]
             refine wpAnyH_ready (rs := [14]) (by kernel_rfl) (by simp) (AllReadyH.cons (o := ?oq88) ?eq88 ?kq88 AllReadyH.nil)
             case eq88 => simp only [lg, lz, ls]; rfl
             intro K hK; go_simp; go_at_call 39
             refine (floor_val e_fl.out (hRx25.out.keep (Below.step (Below.step (Below.step (Below.step (Below.step (Below.step b26.out b27.out) b28.out) b29.out) b30.out) b31.out) b32.out)) s_x.out).mono ?_
             rintro e w33 ⟨v33, rfl, hv33, b33⟩
             obtain ⟨C31, j31, C32, j32, rfl, -, -⟩ := id hv33.opened
             replace hv33 := hid hv33
             replace b33 := hid b33
             have hk33 := hcall hk32 HSZ10 b33.out; have hk33' := hk33; unfold Held0 at hk33'; clear hHeld hk32
             refine hK.out _ _ ?_ (fun hHeld => ?_)
             · (try dsimp only); with_reducible exact hk33'
             clear hK K hk33'; try simp only [Act.put, lt, ly, lu]
             refine wpAnyH_ready (rs := [16]) (by kernel_rfl) (by simp) (AllReadyH.cons (o := ?oq89) ?eq89 ?kq89 AllReadyH.nil)
             case eq89 => simp only [lg, lz, ls]; rfl
             intro K hK; go_simp; go_at_call 40
             refine (floorR_val e_fl.out (hRp25.out.keep (Below.step (Below.step (Below.step (Below.step (Below.step (Below.step (Below.step b26.out b27.out) b28.out) b29.out) b30.out) b31.out) b32.out) b33.out)) t_x.out).mono ?_
             rintro e w34 ⟨v34, rfl, hv34, b34⟩
             obtain ⟨C33, j33, C34, j34, rfl, -, -⟩ := id hv34.opened
             replace hv34 := hid hv34
             replace b34 := hid b34
             have hk34 := hcall hk33 HSZ10 b34.out; have hk34' := hk34; unfold Held0 at hk34'; clear hHeld hk33
             refine hK.out _ _ ?_ (fun hHeld => ?_)
             · (try dsimp only); with_reducible exact hk34'
             clear hK K hk34'; try simp only [Act.put, lt, ly, lu]
             refine wpAnyH_ready (rs := [17]) (by kernel_rfl) (by simp) (AllReadyH.cons (o := ?oq90) ?eq90 ?kq90 AllReadyH.nil)
             case eq90 => simp only [lg, lz, ls]; rfl
             intro K hK; go_simp; go_at_call 13
             refine (same_any (hv33.out.keep b34.out) hv34.out z_fl.out (tab_keep HTB25.out (Below.step (Below.step (Below.step (Below.step (Below.step (Below.step (Below.step (Below.step b26.out b27.out) b28.out) b29.out) b30.out) b31.out) b32.out) b33.out) b34.out))).mono ?_
             rintro e w35 ⟨rfl, b35⟩
             replace b35 := hid b35
             have hk35 := hcall hk34 HSZ10 b35.out; have hk35' := hk35; unfold Held0 at hk35'; clear hHeld hk34
             refine hK.out _ _ ?_ (fun hHeld => ?_)
             · (try dsimp only); with_reducible exact hk35'
             clear hK K hk35'; try simp only [Act.put, lt, ly, lu]
             refine tk (i := 18) (h := ?_)
             try simp only [Act.put, lt, ly, lu]
             refine tk (i := 19) (h := ?_)
             try simp only [Act.put, lt, ly, lu]
             refine tk (i := 20) (h := ?_)
             try simp only [Act.put, lt, ly, lu]
             refine tk (i := 21) (h := ?_)
             try simp only [Act.put, lt, ly, lu]
             refine wpAnyH_ready (rs := [22]) (by kernel_rfl) (by simp) (AllReadyH.cons (o := ?oq95) ?eq95 ?kq95 AllReadyH.nil)
             case eq95 => simp only [lg, lz, ls]; rfl
             intro K hK; go_simp; go_at_call 13
             refine (same_any (hRx25.out.keep (Below.step (Below.step (Below.step (Below.step (Below.step (Below.step (Below.step (Below.step (Below.step b26.out b27.out) b28.out) b29.out) b30.out) b31.out) b32.out) b33.out) b34.out) b35.out)) (hRp25.out.keep (Below.step (Below.step (Below.step (Below.step (Below.step (Below.step (Below.step (Below.step (Below.step b26.out b27.out) b28.out) b29.out) b30.out) b31.out) b32.out) b33.out) b34.out) b35.out)) zz_x.out (tab_keep HTB25.out (Below.step (Below.step (Below.step (Below.step (Below.step (Below.step (Below.step (Below.step (Below.step b26.out b27.out) b28.out) b29.out) b30.out) b31.out) b32.out) b33.out) b34.out) b35.out))).mono ?_
             rintro e w36 ⟨rfl, b36⟩
             replace b36 := hid b36
             have hk36 := hcall hk35 HSZ10 b36.out; have hk36' := hk36; unfold Held0 at hk36'; clear hHeld hk35
             refine hK.out _ _ ?_ (fun hHeld => ?_)
             · (try dsimp only); with_reducible exact hk36'
             clear hK K hk36'; try simp only [Act.put, lt, ly, lu]
             refine tk (i := 23) (h := ?_)
             try simp only [Act.put, lt, ly, lu]
             as_aux_lemma =>
              refine tk (i := 24) (h := ?_)
              try simp only [Act.put, lt, ly, lu]
              refine tk (i := 25) (h := ?_)
              try simp only [Act.put, lt, ly, lu]
              refine tk (i := 26) (h := ?_)
              try simp only [Act.put, lt, ly, lu]
              refine wpAnyH_ready (rs := [27]) (by kernel_rfl) (by simp) (AllReadyH.cons (o := ?oq100) ?eq100 ?kq100 AllReadyH.nil)
              case eq100 => simp only [lg, lz, ls]; rfl
              intro K hK; go_simp; go_at_call 13
              refine (same_any (hRy25.out.keep (Below.step (Below.step (Below.step (Below.step (Below.step (Below.step (Below.step (Below.step (Below.step (Below.step b26.out b27.out) b28.out) b29.out) b30.out) b31.out) b32.out) b33.out) b34.out) b35.out) b36.out)) (hRq25.out.keep (Below.step (Below.step (Below.step (Below.step (Below.step (Below.step (Below.step (Below.step (Below.step (Below.step b26.out b27.out) b28.out) b29.out) b30.out) b31.out) b32.out) b33.out) b34.out) b35.out) b36.out)) zz_y.out (tab_keep HTB25.out (Below.step (Below.step (Below.step (Below.step (Below.step (Below.step (Below.step (Below.step (Below.step (Below.step b26.out b27.out) b28.out) b29.out) b30.out) b31.out) b32.out) b33.out) b34.out) b35.out) b36.out))).mono ?_
              rintro e w37 ⟨rfl, b37⟩
              replace b37 := hid b37
              have hk37 := hcall hk36 HSZ10 b37.out; have hk37' := hk37; unfold Held0 at hk37'; clear hHeld hk36
              refine hK.out _ _ ?_ (fun hHeld => ?_)
              · (try dsimp only); with_reducible exact hk37'
              clear hK K hk37'; try simp only [Act.put, lt, ly, lu]
              refine tk (i := 28) (h := ?_)
              try simp only [Act.put, lt, ly, lu]
              refine tk (i := 29) (h := ?_)
              try simp only [Act.put, lt, ly, lu]
              refine wpAnyH_ready (rs := [30]) (by kernel_rfl) (by simp) (AllReadyH.cons (o := ?oq103) ?eq103 ?kq103 AllReadyH.nil)
              case eq103 => simp only [lg, lz, ls]; rfl
              intro K hK; go_simp; go_at_call 17
              refine (known_any (cell_keep HMB25.out (Below.step (Below.step (Below.step (Below.step (Below.step (Below.step (Below.step (Below.step (Below.step (Below.step (Below.step b26.out b27.out) b28.out) b29.out) b30.out) b31.out) b32.out) b33.out) b34.out) b35.out) b36.out) b37.out)) (tab_keep HTB25.out (Below.step (Below.step (Below.step (Below.step (Below.step (Below.step (Below.step (Below.step (Below.step (Below.step (Below.step b26.out b27.out) b28.out) b29.out) b30.out) b31.out) b32.out) b33.out) b34.out) b35.out) b36.out) b37.out))).mono ?_
              rintro e w38 ⟨rfl, b38⟩
              replace b38 := hid b38
              have hk38 := hcall hk37 HSZ10 b38.out; have hk38' := hk38; unfold Held0 at hk38'; clear hHeld hk37
              refine hK.out _ _ ?_ (fun hHeld => ?_)
              · (try dsimp only); with_reducible exact hk38'
              clear hK K hk38'; try simp only [Act.put, lt, ly, lu]
              refine tk (i := 31) (h := ?_)
              try simp only [Act.put, lt, ly, lu]
              refine tk (i := 32) (h := ?_)
              try simp only [Act.put, lt, ly, lu]
              have HE := hid (Below.step HBB25.out (Below.step (Below.step (Below.step (Below.step (Below.step (Below.step (Below.step (Below.step (Below.step (Below.step (Below.step (Below.step b26.out b27.out) b28.out) b29.out) b30.out) b31.out) b32.out) b33.out) b34.out) b35.out) b36.out) b37.out) b38.out))
              refine wpAnyH_done (by kernel_rfl) ?_ _
              clear hHeld
              go_wp2_with fail
              go_ret
              exact ⟨rfl, HE.out⟩
      · have hz := hid (show decide (y = 0) = false from decide_eq_false hy0)
        have hc := hid (show (if y = 0 then 10 else 0) = (0 : Int) from if_neg hy0)
        replace hy0 := hid hy0
        have hg : w19.heap[w2.heap.size]? = some (.cells #[.bool (decide (x.num < 0)), .slice C1 (Vx.len x.num.natAbs) j1, .slice C2 (Vx.len (below x.den)) j2] 25 (0, 0)) := ((Below.refl _ w19).block _ (Array.getElem?_eq_some_iff.1 LRx19.out).1).trans LRx19.out
        obtain ⟨z_x_0, z_x_1, z_x_2⟩ := cells3 hg
        clear hg
        have hg : w19.heap[w4.heap.size]? = some (.cells #[.bool (decide (y.num < 0)), .slice C5 (Vx.len y.num.natAbs) j5, .slice C6 (Vx.len (below y.den)) j6] 25 (0, 0)) := ((Below.refl _ w19).block _ (Array.getElem?_eq_some_iff.1 LRy19.out).1).trans LRy19.out
        obtain ⟨z_y_0, z_y_1, z_y_2⟩ := cells3 hg
        clear hg
        have HX := hid (div_val e_di.out hc.out hRx19.out hRy19.out s_x.out s_y.out)
        go_wp2_with fail
        refine (HX.out).mono ?_
        rintro e w20 ⟨v20, rfl, hv20, b20⟩
        obtain ⟨C35, j35, C36, j36, rfl, -, -⟩ := id hv20.opened
        replace hv20 := hid hv20
        replace b20 := hid b20
        clear HX
        clear z_x_0 z_x_1 z_x_2 z_y_0 z_y_1 z_y_2
        go_upto_region 8 with fail
        obtain ⟨w21, hw21⟩ : ∃ u, u = w20.alloc (.cells #[.bool (decide (di.num < 0)), .slice C35 (Vx.len di.num.natAbs) j35, .slice C36 (Vx.len (below di.den)) j36] 25) := ⟨_, rfl⟩
        have b21 : Hid (Below w20.heap.size w20 w21) := by rw [hw21]; exact (Below.refl _ _).alloc (Nat.le_refl _) _
        have L21 : Hid (w21.heap[w20.heap.size]? = some (.cells #[.bool (decide (di.num < 0)), .slice C35 (Vx.len di.num.natAbs) j35, .slice C36 (Vx.len (below di.den)) j36] 25 (0, 0))) := by rw [hw21]; exact heap_alloc_new w20 _
        rw [← hw21]
        clear hw21
        have hRx21 := hid (hRx19.out.keep (Below.step b20.out b21.out))
        have hRp21 := hid (hRp19.out.keep (Below.step b20.out b21.out))
        have hRy21 := hid (hRy19.out.keep (Below.step b20.out b21.out))
        have hRq21 := hid (hRq19.out.keep (Below.step b20.out b21.out))
        have hRz21 := hid (hv20.out.keep b21.out)
        have LRx21 : Hid (w21.heap[w2.heap.size]? = some (.cells #[.bool (decide (x.num < 0)), .slice C1 (Vx.len x.num.natAbs) j1, .slice C2 (Vx.len (below x.den)) j2] 25 (0, 0))) := ((Below.step b20.out b21.out).block _ (Array.getElem?_eq_some_iff.1 LRx19.out).1).trans LRx19.out
        have LRp21 : Hid (w21.heap[w2.heap.size + 1]? = some (.cells #[.bool (decide (x.num < 0)), .slice C3 (len x.num.natAbs) j3, .slice C4 (len x.den) j4] 33 (0, 0))) := ((Below.step b20.out b21.out).block _ (Array.getElem?_eq_some_iff.1 LRp19.out).1).trans LRp19.out
        have LRy21 : Hid (w21.heap[w4.heap.size]? = some (.cells #[.bool (decide (y.num < 0)), .slice C5 (Vx.len y.num.natAbs) j5, .slice C6 (Vx.len (below y.den)) j6] 25 (0, 0))) := ((Below.step b20.out b21.out).block _ (Array.getElem?_eq_some_iff.1 LRy19.out).1).trans LRy19.out
        have LRq21 : Hid (w21.heap[w4.heap.size + 1]? = some (.cells #[.bool (decide (y.num < 0)), .slice C7 (len y.num.natAbs) j7, .slice C8 (len y.den) j8] 33 (0, 0))) := ((Below.step b20.out b21.out).block _ (Array.getElem?_eq_some_iff.1 LRq19.out).1).trans LRq19.out
        have HMB21 := hid (cell_keep HMB19.out (Below.step b20.out b21.out))
        have HTB21 := hid (tab_keep HTB19.out (Below.step b20.out b21.out))
        have HBB21 := hid (Below.step HBB19.out (Below.step b20.out b21.out))
        clear hRx19 hRp19 hRy19 hRq19 hv20 LRx19 LRp19 LRy19 LRq19 HMB19 HTB19 HBB19 b20 b21
        go_wp2_with fail
        obtain ⟨NN8, hNN⟩ : ∃ n : Nat, w21.heap.size = n := ⟨_, rfl⟩
        have HSZ8 : Hid (w21.heap.size = NN8) := hNN
        have hg : w21.heap[w2.heap.size + 1]? = some (.cells #[.bool (decide (x.num < 0)), .slice C3 (len x.num.natAbs) j3, .slice C4 (len x.den) j4] 33 (0, 0)) := ((Below.refl _ w21).block _ (Array.getElem?_eq_some_iff.1 LRp21.out).1).trans LRp21.out
        obtain ⟨z_p_0, z_p_1, z_p_2⟩ := cells3 hg
        clear hg
        have hlt8_p : w2.heap.size + 1 < NN8 := Nat.lt_of_lt_of_eq (World.block_lt_of_cell? _ _ z_p_0) hNN
        have hg : w21.heap[w4.heap.size + 1]? = some (.cells #[.bool (decide (y.num < 0)), .slice C7 (len y.num.natAbs) j7, .slice C8 (len y.den) j8] 33 (0, 0)) := ((Below.refl _ w21).block _ (Array.getElem?_eq_some_iff.1 LRq21.out).1).trans LRq21.out
        obtain ⟨z_q_0, z_q_1, z_q_2⟩ := cells3 hg
        clear hg
        have hlt8_q : w4.heap.size + 1 < NN8 := Nat.lt_of_lt_of_eq (World.block_lt_of_cell? _ _ z_q_0) hNN
        have hg : w21.heap[w20.heap.size]? = some (.cells #[.bool (decide (di.num < 0)), .slice C35 (Vx.len di.num.natAbs) j35, .slice C36 (Vx.len (below di.den)) j36] 25 (0, 0)) := ((Below.refl _ w21).block _ (Array.getElem?_eq_some_iff.1 L21.out).1).trans L21.out
        obtain ⟨z_z_0, z_z_1, z_z_2⟩ := cells3 hg
        clear hg
        have hlt8_z : w20.heap.size < NN8 := Nat.lt_of_lt_of_eq (World.block_lt_of_cell? _ _ z_z_0) hNN
        have H0 := Held0.start w21 NN8
        have H0' := H0
        unfold Held0 at H0'
        refine wp_region_held_drew (S := (fun w' => (∀ b o, b < NN8 → w'.cell? ⟨b, o, none⟩ = w21.cell? ⟨b, o, none⟩) ∧ Below (NN8) w21 w' ∧ Stay w21 w')) (by kernel_rfl) ?_ (fun hHeld => ?_)
        · (try dsimp only)
          exact H0'
        obtain ⟨w22, hw22⟩ : ∃ u, u = w21.drew := ⟨_, rfl⟩
        have b22 : Hid (Below w21.heap.size w21 w22) := by rw [hw22]; exact ⟨rfl, rfl, rfl, Nat.le_refl _, fun _ _ => rfl⟩
        rw [← hw22] at hHeld H0 ⊢
        clear hw22 H0' hNN
        as_aux_lemma =>
         refine tk (i := 0) (h := ?_)
         try simp only [Act.put, lt, ly, lu]
         refine wpAnyH_ready (rs := [1]) (by kernel_rfl) (by simp) (AllReadyH.cons (o := ?oq107) ?eq107 ?kq107 AllReadyH.nil)
         case eq107 => simp only [lg, lz, ls]; rfl
         intro K hK; go_simp; go_at_call 33
         refine (zeroR_any hz.out (hRq21.out.keep b22.out)).mono ?_
         rintro e w23 ⟨rfl, b23⟩
         replace b23 := hid b23
         have hk23 := hcall H0 HSZ8 b23.out; have hk23' := hk23; unfold Held0 at hk23'; clear hHeld H0
         refine hK.out _ _ ?_ (fun hHeld => ?_)
         · (try dsimp only); with_reducible exact hk23'
         clear hK K hk23'; try simp only [Act.put, lt, ly, lu]
         refine tk (i := 2) (h := ?_)
         try simp only [Act.put, lt, ly, lu]
         refine tk (i := 3) (v := undef) (hy := by exact Or.inr ⟨by rfl, rfl⟩) (h := ?_)
         try simp only [Act.put, lt, ly, lu]
         refine tk (i := 4) (v := undef) (hy := by exact Or.inr ⟨by rfl, rfl⟩) (h := ?_)
         try simp only [Act.put, lt, ly, lu]
         refine tk (i := 5) (v := undef) (hy := by exact Or.inr ⟨by rfl, rfl⟩) (h := ?_)
         try simp only [Act.put, lt, ly, lu]
         refine tk (i := 6) (v := undef) (hy := by exact Or.inr ⟨by rfl, rfl⟩) (h := ?_)
         try simp only [Act.put, lt, ly, lu]
         refine wpAnyH_ready (rs := [7]) (by kernel_rfl) (by simp) (AllReadyH.cons (o := ?oq113) ?eq113 ?kq113 AllReadyH.nil)
         case eq113 => simp only [lg, lz, ls]; rfl
         intro K hK; go_simp
         refine hK.out _ _ ?_ (fun hHeld2 => ?_)
         · (try dsimp only); exact hHeld
         clear hK K hHeld
         try simp only [Act.put, lt, ly, lu]
         have hHeld := hHeld2
         clear hHeld2
         refine tk (i := 8) (v := undef) (hy := by exact Or.inr ⟨by rfl, rfl⟩) (h := ?_)
         try simp only [Act.put, lt, ly, lu]
         refine tk (i := 9) (v := undef) (hy := by exact Or.inr ⟨by rfl, rfl⟩) (h := ?_)
         try simp only [Act.put, lt, ly, lu]
         refine tk (i := 10) (h := ?_)
         try simp only [Act.put, lt, ly, lu]
         refine tk (i := 11) (h := ?_)
         try simp only [Act.put, lt, ly, lu]
         as_aux_lemma =>
          refine tk (i := 12) (h := ?_)
          try simp only [Act.put, lt, ly, lu]
          refine wpAnyH_ready (rs := [13]) (by kernel_rfl) (by simp) (AllReadyH.cons (o := ?oq119) ?eq119 ?kq119 AllReadyH.nil)
          case eq119 => simp only [lg, lz, ls]; rfl
          intro K hK; go_simp; go_at_call 33
          refine (zeroR_any hz.out (hRq21.out.keep (Below.step b22.out b23.out))).mono ?_
          rintro e w24 ⟨rfl, b24⟩
          replace b24 := hid b24
          have hk24 := hcall hk23 HSZ8 b24.out; have hk24' := hk24; unfold Held0 at hk24'; clear hHeld hk23
          refine hK.out _ _ ?_ (fun hHeld => ?_)
          · (try dsimp only); with_reducible exact hk24'
          clear hK K hk24'; try simp only [Act.put, lt, ly, lu]
          refine tk (i := 14) (h := ?_)
          try simp only [Act.put, lt, ly, lu]
          refine tk (i := 15) (h := ?_)
          try simp only [Act.put, lt, ly, lu]
          refine tk (i := 16) (h := ?_)
          try simp only [Act.put, lt, ly, lu]
          refine tk (i := 17) (h := ?_)
          try simp only [Act.put, lt, ly, lu]
          refine tk (i := 18) (h := ?_)
          try simp only [Act.put, lt, ly, lu]
          refine tk (i := 19) (h := ?_)
          try simp only [Act.put, lt, ly, lu]
          refine tk (i := 20) (h := ?_)
          try simp only [Act.put, lt, ly, lu]
          refine tk (i := 21) (h := ?_)
          try simp only [Act.put, lt, ly, lu]
          refine wpAnyH_ready (rs := [22]) (by kernel_rfl) (by simp) (AllReadyH.cons (o := ?oq128) ?eq128 ?kq128 AllReadyH.nil)
          case eq128 => simp only [lg, lz, ls]; rfl
          intro K hK; go_simp; go_at_call 34
          refine (divR_val hy0.out e_di.out (hRp21.out.keep (Below.step (Below.step b22.out b23.out) b24.out)) (hRq21.out.keep (Below.step (Below.step b22.out b23.out) b24.out)) t_x.out t_y.out).mono ?_
          rintro e w25 ⟨v25, rfl, hv25, b25⟩
          obtain ⟨C37, j37, C38, j38, rfl, -, -⟩ := id hv25.opened
          replace hv25 := hid hv25
          replace b25 := hid b25
          have hk25 := hcall hk24 HSZ8 b25.out; have hk25' := hk25; unfold Held0 at hk25'; clear hHeld hk24
          refine hK.out _ _ ?_ (fun hHeld => ?_)
          · (try dsimp only); with_reducible exact hk25'
          clear hK K hk25'; try simp only [Act.put, lt, ly, lu]
          refine wpAnyH_ready (rs := [23]) (by kernel_rfl) (by simp) (AllReadyH.cons (o := ?oq129) ?eq129 ?kq129 AllReadyH.nil)
          case eq129 => simp only [lg, lz, ls]; rfl
          intro K hK; go_simp; go_at_call 13
          refine (same_any (hRz21.out.keep (Below.step (Below.step (Below.step b22.out b23.out) b24.out) b25.out)) hv25.out z_di.out (tab_keep HTB21.out (Below.step (Below.step (Below.step b22.out b23.out) b24.out) b25.out))).mono ?_
          rintro e w26 ⟨rfl, b26⟩
          replace b26 := hid b26
          have hk26 := hcall hk25 HSZ8 b26.out; have hk26' := hk26; unfold Held0 at hk26'; clear hHeld hk25
          refine hK.out _ _ ?_ (fun hHeld => ?_)
          · (try dsimp only); with_reducible exact hk26'
          clear hK K hk26'; try simp only [Act.put, lt, ly, lu]
          as_aux_lemma =>
           refine tk (i := 24) (h := ?_)
           try simp only [Act.put, lt, ly, lu]
           refine tk (i := 25) (h := ?_)
           try simp only [Act.put, lt, ly, lu]
           refine tk (i := 26) (h := ?_)
           try simp only [Act.put, lt, ly, lu]
           refine tk (i := 27) (h := ?_)
           try simp only [Act.put, lt, ly, lu]
           refine wpAnyH_done (by kernel_rfl) ?_ _
           clear hHeld
           clear z_p_0 z_p_1 z_p_2 z_q_0 z_q_1 z_q_2 z_z_0 z_z_1 z_z_2 hlt8_p hlt8_q hlt8_z
           clear hk26 HSZ8
           have hRx26 := hid (hRx21.out.keep (Below.step (Below.step (Below.step (Below.step b22.out b23.out) b24.out) b25.out) b26.out))
           have hRp26 := hid (hRp21.out.keep (Below.step (Below.step (Below.step (Below.step b22.out b23.out) b24.out) b25.out) b26.out))
           have hRy26 := hid (hRy21.out.keep (Below.step (Below.step (Below.step (Below.step b22.out b23.out) b24.out) b25.out) b26.out))
           have hRq26 := hid (hRq21.out.keep (Below.step (Below.step (Below.step (Below.step b22.out b23.out) b24.out) b25.out) b26.out))
           have LRx26 : Hid (w26.heap[w2.heap.size]? = some (.cells #[.bool (decide (x.num < 0)), .slice C1 (Vx.len x.num.natAbs) j1, .slice C2 (Vx.len (below x.den)) j2] 25 (0, 0))) := ((Below.step (Below.step (Below.step (Below.step b22.out b23.out) b24.out) b25.out) b26.out).block _ (Array.getElem?_eq_some_iff.1 LRx21.out).1).trans LRx21.out
           have LRp26 : Hid (w26.heap[w2.heap.size + 1]? = some (.cells #[.bool (decide (x.num < 0)), .slice C3 (len x.num.natAbs) j3, .slice C4 (len x.den) j4] 33 (0, 0))) := ((Below.step (Below.step (Below.step (Below.step b22.out b23.out) b24.out) b25.out) b26.out).block _ (Array.getElem?_eq_some_iff.1 LRp21.out).1).trans LRp21.out
           have LRy26 : Hid (w26.heap[w4.heap.size]? = some (.cells #[.bool (decide (y.num < 0)), .slice C5 (Vx.len y.num.natAbs) j5, .slice C6 (Vx.len (below y.den)) j6] 25 (0, 0))) := ((Below.step (Below.step (Below.step (Below.step b22.out b23.out) b24.out) b25.out) b26.out).block _ (Array.getElem?_eq_some_iff.1 LRy21.out).1).trans LRy21.out
           have LRq26 : Hid (w26.heap[w4.heap.size + 1]? = some (.cells #[.bool (decide (y.num < 0)), .slice C7 (len y.num.natAbs) j7, .slice C8 (len y.den) j8] 33 (0, 0))) := ((Below.step (Below.step (Below.step (Below.step b22.out b23.out) b24.out) b25.out) b26.out).block _ (Array.getElem?_eq_some_iff.1 LRq21.out).1).trans LRq21.out
           have HMB26 := hid (cell_keep HMB21.out (Below.step (Below.step (Below.step (Below.step b22.out b23.out) b24.out) b25.out) b26.out))
           have HTB26 := hid (tab_keep HTB21.out (Below.step (Below.step (Below.step (Below.step b22.out b23.out) b24.out) b25.out) b26.out))
           have HBB26 := hid (Below.step HBB21.out (Below.step (Below.step (Below.step (Below.step b22.out b23.out) b24.out) b25.out) b26.out))
           clear hRx21 hRp21 hRy21 hRq21 LRx21 LRp21 LRy21 LRq21 HMB21 HTB21 HBB21 b22 b23 b24 b25 b26
           go_wp2_with fail
           obtain ⟨NN10, hNN⟩ : ∃ n : Nat, w26.heap.size = n := ⟨_, rfl⟩
           have HSZ10 : Hid (w26.heap.size = NN10) := hNN
           have hg : w26.heap[w2.heap.size]? = some (.cells #[.bool (decide (x.num < 0)), .slice C1 (Vx.len x.num.natAbs) j1, .slice C2 (Vx.len (below x.den)) j2] 25 (0, 0)) := ((Below.refl _ w26).block _ (Array.getElem?_eq_some_iff.1 LRx26.out).1).trans LRx26.out
           obtain ⟨z_x_0, z_x_1, z_x_2⟩ := cells3 hg
           clear hg
           have hlt10_x : w2.heap.size < NN10 := Nat.lt_of_lt_of_eq (World.block_lt_of_cell? _ _ z_x_0) hNN
           have hg : w26.heap[w2.heap.size + 1]? = some (.cells #[.bool (decide (x.num < 0)), .slice C3 (len x.num.natAbs) j3, .slice C4 (len x.den) j4] 33 (0, 0)) := ((Below.refl _ w26).block _ (Array.getElem?_eq_some_iff.1 LRp26.out).1).trans LRp26.out
           obtain ⟨z_p_0, z_p_1, z_p_2⟩ := cells3 hg
           clear hg
           have hlt10_p : w2.heap.size + 1 < NN10 := Nat.lt_of_lt_of_eq (World.block_lt_of_cell? _ _ z_p_0) hNN
           have hg : w26.heap[w4.heap.size]? = some (.cells #[.bool (decide (y.num < 0)), .slice C5 (Vx.len y.num.natAbs) j5, .slice C6 (Vx.len (below y.den)) j6] 25 (0, 0)) := ((Below.refl _ w26).block _ (Array.getElem?_eq_some_iff.1 LRy26.out).1).trans LRy26.out
           obtain ⟨z_y_0, z_y_1, z_y_2⟩ := cells3 hg
           clear hg
           have hlt10_y : w4.heap.size < NN10 := Nat.lt_of_lt_of_eq (World.block_lt_of_cell? _ _ z_y_0) hNN
           have hg : w26.heap[w4.heap.size + 1]? = some (.cells #[.bool (decide (y.num < 0)), .slice C7 (len y.num.natAbs) j7, .slice C8 (len y.den) j8] 33 (0, 0)) := ((Below.refl _ w26).block _ (Array.getElem?_eq_some_iff.1 LRq26.out).1).trans LRq26.out
           obtain ⟨z_q_0, z_q_1, z_q_2⟩ := cells3 hg
           clear hg
           have hlt10_q : w4.heap.size + 1 < NN10 := Nat.lt_of_lt_of_eq (World.block_lt_of_cell? _ _ z_q_0) hNN
           have H0 := Held0.start w26 NN10
           have H0' := H0
           unfold Held0 at H0'
           refine wp_region_held_drew (S := (fun w' => (∀ b o, b < NN10 → w'.cell? ⟨b, o, none⟩ = w26.cell? ⟨b, o, none⟩) ∧ Below (NN10) w26 w' ∧ Stay w26 w')) (by kernel_rfl) ?_ (fun hHeld => ?_)
           · (try dsimp only)
             exact H0'
           obtain ⟨w27, hw27⟩ : ∃ u, u = w26.drew := ⟨_, rfl⟩
           have b27 : Hid (Below w26.heap.size w26 w27) := by rw [hw27]; exact ⟨rfl, rfl, rfl, Nat.le_refl _, fun _ _ => rfl⟩
           rw [← hw27] at hHeld H0 ⊢
           clear hw27 H0' hNN
           as_aux_lemma =>
            refine tk (i := 0) (h := ?_)
            try simp only [Act.put, lt, ly, lu]
            refine tk (i := 2) (h := ?_)
            try simp only [Act.put, lt, ly, lu]
            refine wpAnyH_ready (rs := [1]) (by kernel_rfl) (by simp) (AllReadyH.cons (o := ?oq136) ?eq136 ?kq136 AllReadyH.nil)
            case eq136 => simp only [lg, lz, ls]; rfl
            intro K hK; go_simp; go_at_call 35
            refine (neg_val e_ne.out (hRx26.out.keep b27.out) s_x.out).mono ?_
            rintro e w28 ⟨v28, rfl, hv28, b28⟩
            obtain ⟨C39, j39, C40, j40, rfl, -, -⟩ := id hv28.opened
            replace hv28 := hid hv28
            replace b28 := hid b28
            have hk28 := hcall H0 HSZ10 b28.out; have hk28' := hk28; unfold Held0 at hk28'; clear hHeld H0
            refine hK.out _ _ ?_ (fun hHeld => ?_)
            · (try dsimp only); with_reducible exact hk28'
            clear hK K hk28'; try simp only [Act.put, lt, ly, lu]
            refine wpAnyH_ready (rs := [3]) (by kernel_rfl) (by simp) (AllReadyH.cons (o := ?oq137) ?eq137 ?kq137 AllReadyH.nil)
            case eq137 => simp only [lg, lz, ls]; rfl
            intro K hK; go_simp; go_at_call 36
            refine (negR_any e_ne.out (hRp26.out.keep (Below.step b27.out b28.out)) ).mono ?_
            rintro e w29 ⟨v29, rfl, hv29, b29⟩
            obtain ⟨C41, j41, C42, j42, rfl, -, -⟩ := id hv29.opened
            replace hv29 := hid hv29
            replace b29 := hid b29
            have hk29 := hcall hk28 HSZ10 b29.out; have hk29' := hk29; unfold Held0 at hk29'; clear hHeld hk28
            refine hK.out _ _ ?_ (fun hHeld => ?_)
            · (try dsimp only); with_reducible exact hk29'
            clear hK K hk29'; try simp only [Act.put, lt, ly, lu]
            refine wpAnyH_ready (rs := [4]) (by kernel_rfl) (by simp) (AllReadyH.cons (o := ?oq138) ?eq138 ?kq138 AllReadyH.nil)
            case eq138 => simp only [lg, lz, ls]; rfl
            intro K hK; go_simp; go_at_call 13
            refine (same_any (hv28.out.keep b29.out) hv29.out z_ne.out (tab_keep HTB26.out (Below.step (Below.step b27.out b28.out) b29.out))).mono ?_
            rintro e w30 ⟨rfl, b30⟩
            replace b30 := hid b30
            have hk30 := hcall hk29 HSZ10 b30.out; have hk30' := hk30; unfold Held0 at hk30'; clear hHeld hk29
            refine hK.out _ _ ?_ (fun hHeld => ?_)
            · (try dsimp only); with_reducible exact hk30'
            clear hK K hk30'; try simp only [Act.put, lt, ly, lu]
            refine tk (i := 5) (h := ?_)
            try simp only [Act.put, lt, ly, lu]
            refine tk (i := 6) (h := ?_)
            try simp only [Act.put, lt, ly, lu]
            refine tk (i := 8) (h := ?_)
            try simp only [Act.put, lt, ly, lu]
            refine wpAnyH_ready (rs := [7]) (by kernel_rfl) (by simp) (AllReadyH.cons (o := ?oq142) ?eq142 ?kq142 AllReadyH.nil)
            case eq142 => simp only [lg, lz, ls]; rfl
            intro K hK; go_simp; go_at_call 37
            refine (nabs_val e_ab.out (hRx26.out.keep (Below.step (Below.step (Below.step b27.out b28.out) b29.out) b30.out)) s_x.out).mono ?_
            rintro e w31 ⟨v31, rfl, hv31, b31⟩
            obtain ⟨C43, j43, C44, j44, rfl, -, -⟩ := id hv31.opened
            replace hv31 := hid hv31
            replace b31 := hid b31
            have hk31 := hcall hk30 HSZ10 b31.out; have hk31' := hk31; unfold Held0 at hk31'; clear hHeld hk30
            refine hK.out _ _ ?_ (fun hHeld => ?_)
            · (try dsimp only); with_reducible exact hk31'
            clear hK K hk31'; try simp only [Act.put, lt, ly, lu]
            refine wpAnyH_ready (rs := [9]) (by kernel_rfl) (by simp) (AllReadyH.cons (o := ?oq143) ?eq143 ?kq143 AllReadyH.nil)
            case eq143 => simp only [lg, lz, ls]; rfl
            intro K hK; go_simp; go_at_call 38
            refine (absR_any e_ab.out (hRp26.out.keep (Below.step (Below.step (Below.step (Below.step b27.out b28.out) b29.out) b30.out) b31.out)) ).mono ?_
            rintro e w32 ⟨v32, rfl, hv32, b32⟩
            obtain ⟨C45, j45, C46, j46, rfl, -, -⟩ := id hv32.opened
            replace hv32 := hid hv32
            replace b32 := hid b32
            have hk32 := hcall hk31 HSZ10 b32.out; have hk32' := hk32; unfold Held0 at hk32'; clear hHeld hk31
            refine hK.out _ _ ?_ (fun hHeld => ?_)
            · (try dsimp only); with_reducible exact hk32'
            clear hK K hk32'; try simp only [Act.put, lt, ly, lu]
            refine wpAnyH_ready (rs := [10]) (by kernel_rfl) (by simp) (AllReadyH.cons (o := ?oq144) ?eq144 ?kq144 AllReadyH.nil)
            case eq144 => simp only [lg, lz, ls]; rfl
            intro K hK; go_simp; go_at_call 13
            refine (same_any (hv31.out.keep b32.out) hv32.out z_ab.out (tab_keep HTB26.out (Below.step (Below.step (Below.step (Below.step (Below.step b27.out b28.out) b29.out) b30.out) b31.out) b32.out))).mono ?_
            rintro e w33 ⟨rfl, b33⟩
            replace b33 := hid b33
            have hk33 := hcall hk32 HSZ10 b33.out; have hk33' := hk33; unfold Held0 at hk33'; clear hHeld hk32
            refine hK.out _ _ ?_ (fun hHeld => ?_)
            · (try dsimp only); with_reducible exact hk33'
            clear hK K hk33'; try simp only [Act.put, lt, ly, lu]
            refine tk (i := 11) (h := ?_)
            try simp only [Act.put, lt, ly, lu]
            as_aux_lemma =>
             refine tk (i := 12) (h := ?_)
             try simp only [Act.put, lt, ly, lu]
             refine tk (i := 13) (h := ?_)
             try simp only [Act.put, lt, ly, lu]
             refine tk (i := 15) (h := ?_)
             try simp only [Act.put, lt, ly, lu]
             refine wpAnyH_ready (rs := [14]) (by kernel_rfl) (by simp) (AllReadyH.cons (o := ?oq149) ?eq149 ?kq149 AllReadyH.nil)
             case eq149 => simp only [lg, lz, ls]; rfl
             intro K hK; go_simp; go_at_call 39
             refine (floor_val e_fl.out (hRx26.out.keep (Below.step (Below.step (Below.step (Below.step (Below.step (Below.step b27.out b28.out) b29.out) b30.out) b31.out) b32.out) b33.out)) s_x.out).mono ?_
             rintro e w34 ⟨v34, rfl, hv34, b34⟩
             obtain ⟨C47, j47, C48, j48, rfl, -, -⟩ := id hv34.opened
             replace hv34 := hid hv34
             replace b34 := hid b34
             have hk34 := hcall hk33 HSZ10 b34.out; have hk34' := hk34; unfold Held0 at hk34'; clear hHeld hk33
             refine hK.out _ _ ?_ (fun hHeld => ?_)
             · (try dsimp only); with_reducible exact hk34'
             clear hK K hk34'; try simp only [Act.put, lt, ly, lu]
             refine wpAnyH_ready (rs := [16]) (by kernel_rfl) (by simp) (AllReadyH.cons (o := ?oq150) ?eq150 ?kq150 AllReadyH.nil)
             case eq150 => simp only [lg, lz, ls]; rfl
             intro K hK; go_simp; go_at_call 40
             refine (floorR_val e_fl.out (hRp26.out.keep (Below.step (Below.step (Below.step (Below.step (Below.step (Below.step (Below.step b27.out b28.out) b29.out) b30.out) b31.out) b32.out) b33.out) b34.out)) t_x.out).mono ?_
             rintro e w35 ⟨v35, rfl, hv35, b35⟩
             obtain ⟨C49, j49, C50, j50, rfl, -, -⟩ := id hv35.opened
             replace hv35 := hid hv35
             replace b35 := hid b35
             have hk35 := hcall hk34 HSZ10 b35.out; have hk35' := hk35; unfold Held0 at hk35'; clear hHeld hk34
             refine hK.out _ _ ?_ (fun hHeld => ?_)
             · (try dsimp only); with_reducible exact hk35'
             clear hK K hk35'; try simp only [Act.put, lt, ly, lu]
             refine wpAnyH_ready (rs := [17]) (by kernel_rfl) (by simp) (AllReadyH.cons (o := ?oq151) ?eq151 ?kq151 AllReadyH.nil)
             case eq151 => simp only [lg, lz, ls]; rfl
             intro K hK; go_simp; go_at_call 13
             refine (same_any (hv34.out.keep b35.out) hv35.out z_fl.out (tab_keep HTB26.out (Below.step (Below.step (Below.step (Below.step (Below.step (Below.step (Below.step (Below.step b27.out b28.out) b29.out) b30.out) b31.out) b32.out) b33.out) b34.out) b35.out))).mono ?_
             rintro e w36 ⟨rfl, b36⟩
             replace b36 := hid b36
             have hk36 := hcall hk35 HSZ10 b36.out; have hk36' := hk36; unfold Held0 at hk36'; clear hHeld hk35
             refine hK.out _ _ ?_ (fun hHeld => ?_)
             · (try dsimp only); with_reducible exact hk36'
             clear hK K hk36'; try simp only [Act.put, lt, ly, lu]
             refine tk (i := 18) (h := ?_)
             try simp only [Act.put, lt, ly, lu]
             refine tk (i := 19) (h := ?_)
             try simp only [Act.put, lt, ly, lu]
             refine tk (i := 20) (h := ?_)
             try simp only [Act.put, lt, ly, lu]
             refine tk (i := 21) (h := ?_)
             try simp only [Act.put, lt, ly, lu]
             refine wpAnyH_ready (rs := [22]) (by kernel_rfl) (by simp) (AllReadyH.cons (o := ?oq156) ?eq156 ?kq156 AllReadyH.nil)
             case eq156 => simp only [lg, lz, ls]; rfl
             intro K hK; go_simp; go_at_call 13
             refine (same_any (hRx26.out.keep (Below.step (Below.step (Below.step (Below.step (Below.step (Below.step (Below.step (Below.step (Below.step b27.out b28.out) b29.out) b30.out) b31.out) b32.out) b33.out) b34.out) b35.out) b36.out)) (hRp26.out.keep (Below.step (Below.step (Below.step (Below.step (Below.step (Below.step (Below.step (Below.step (Below.step b27.out b28.out) b29.out) b30.out) b31.out) b32.out) b33.out) b34.out) b35.out) b36.out)) zz_x.out (tab_keep HTB26.out (Below.step (Below.step (Below.step (Below.step (Below.step (Below.step (Below.step (Below.step (Below.step b27.out b28.out) b29.out) b30.out) b31.out) b32.out) b33.out) b34.out) b35.out) b36.out))).mono ?_
             rintro e w37 ⟨rfl, b37⟩
             replace b37 := hid b37
             have hk37 := hcall hk36 HSZ10 b37.out; have hk37' := hk37; unfold Held0 at hk37'; clear hHeld hk36
             refine hK.out _ _ ?_ (fun hHeld => ?_)
             · (try dsimp only); with_reducible exact hk37'
             clear hK K hk37'; try simp only [Act.put, lt, ly, lu]
             refine tk (i := 23) (h := ?_)
             try simp only [Act.put, lt, ly, lu]
             as_aux_lemma =>
              refine tk (i := 24) (h := ?_)
              try simp only [Act.put, lt, ly, lu]
              refine tk (i := 25) (h := ?_)
              try simp only [Act.put, lt, ly, lu]
              refine tk (i := 26) (h := ?_)
              try simp only [Act.put, lt, ly, lu]
              refine wpAnyH_ready (rs := [27]) (by kernel_rfl) (by simp) (AllReadyH.cons (o := ?oq161) ?eq161 ?kq161 AllReadyH.nil)
              case eq161 => simp only [lg, lz, ls]; rfl
              intro K hK; go_simp; go_at_call 13
              refine (same_any (hRy26.out.keep (Below.step (Below.step (Below.step (Below.step (Below.step (Below.step (Below.step (Below.step (Below.step (Below.step b27.out b28.out) b29.out) b30.out) b31.out) b32.out) b33.out) b34.out) b35.out) b36.out) b37.out)) (hRq26.out.keep (Below.step (Below.step (Below.step (Below.step (Below.step (Below.step (Below.step (Below.step (Below.step (Below.step b27.out b28.out) b29.out) b30.out) b31.out) b32.out) b33.out) b34.out) b35.out) b36.out) b37.out)) zz_y.out (tab_keep HTB26.out (Below.step (Below.step (Below.step (Below.step (Below.step (Below.step (Below.step (Below.step (Below.step (Below.step b27.out b28.out) b29.out) b30.out) b31.out) b32.out) b33.out) b34.out) b35.out) b36.out) b37.out))).mono ?_
              rintro e w38 ⟨rfl, b38⟩
              replace b38 := hid b38
              have hk38 := hcall hk37 HSZ10 b38.out; have hk38' := hk38; unfold Held0 at hk38'; clear hHeld hk37
              refine hK.out _ _ ?_ (fun hHeld => ?_)
              · (try dsimp only); with_reducible exact hk38'
              clear hK K hk38'; try simp only [Act.put, lt, ly, lu]
              refine tk (i := 28) (h := ?_)
              try simp only [Act.put, lt, ly, lu]
              refine tk (i := 29) (h := ?_)
              try simp only [Act.put, lt, ly, lu]
              refine wpAnyH_ready (rs := [30]) (by kernel_rfl) (by simp) (AllReadyH.cons (o := ?oq164) ?eq164 ?kq164 AllReadyH.nil)
              case eq164 => simp only [lg, lz, ls]; rfl
              intro K hK; go_simp; go_at_call 17
              refine (known_any (cell_keep HMB26.out (Below.step (Below.step (Below.step (Below.step (Below.step (Below.step (Below.step (Below.step (Below.step (Below.step (Below.step b27.out b28.out) b29.out) b30.out) b31.out) b32.out) b33.out) b34.out) b35.out) b36.out) b37.out) b38.out)) (tab_keep HTB26.out (Below.step (Below.step (Below.step (Below.step (Below.step (Below.step (Below.step (Below.step (Below.step (Below.step (Below.step b27.out b28.out) b29.out) b30.out) b31.out) b32.out) b33.out) b34.out) b35.out) b36.out) b37.out) b38.out))).mono ?_
              rintro e w39 ⟨rfl, b39⟩
              replace b39 := hid b39
              have hk39 := hcall hk38 HSZ10 b39.out; have hk39' := hk39; unfold Held0 at hk39'; clear hHeld hk38
              refine hK.out _ _ ?_ (fun hHeld => ?_)
              · (try dsimp only); with_reducible exact hk39'
              clear hK K hk39'; try simp only [Act.put, lt, ly, lu]
              refine tk (i := 31) (h := ?_)
              try simp only [Act.put, lt, ly, lu]
              refine tk (i := 32) (h := ?_)
              try simp only [Act.put, lt, ly, lu]
              have HE := hid (Below.step HBB26.out (Below.step (Below.step (Below.step (Below.step (Below.step (Below.step (Below.step (Below.step (Below.step (Below.step (Below.step (Below.step b27.out b28.out) b29.out) b30.out) b31.out) b32.out) b33.out) b34.out) b35.out) b36.out) b37.out) b38.out) b39.out))
              refine wpAnyH_done (by kernel_rfl) ?_ _
              clear hHeld
              go_wp2_with fail
              go_ret
              exact ⟨rfl, HE.out⟩

theorem computes_any {w : World} {sa sb : ByteArray} {mx : Int} (hM : w.cell? ⟨3, 0, none⟩ = some (.int .i64 mx)) (hT : TabAt 0 Lib.deBruijn64tab w) :
    Calls Tryz.prog 4 #[.string sa, .string sb] w (BoolRet w true) := by
  rcases h : [sa, sb].any (fun s => decide (120 < s.size)) with _ | _
  · exact computes_short h hM hT
  · exact computes_long h hM hT
end Go.Proofs.YtfppimacnhcflaaGreatDoor.Rf
