/-
  Contracts of the functions that the law calls, for every input (FdA FdB).
-/
import Derived.Test.YtkihlhmdiidenaaGreatDoorJ27
set_option linter.all false
namespace Go.Proofs.YtkihlhmdiidenaaGreatDoor
open Go.RowKit
open Vx

theorem parse_siz (s : ByteArray) : siz (parseV s).1 ≤ 4100 := by
  unfold parseV
  split
  · exact Nat.le_trans (show siz 0 ≤ 3 by decide +kernel) (by omega)
  · rename_i h0
    have hsz : s.data.toList.length ≤ 2000 := by
      rw [size_data]; omega
    split
    · exact Nat.le_trans (show siz 0 ≤ 3 by decide +kernel) (by omega)
    · rename_i q hq
      have ht := trim_len s.data.toList [45]
      have c1 := cut_len (Lib.trimPrefix s.data.toList [45]) [47]
      have c2 := cut_len (Lib.trimPrefix s.data.toList [45]) [46]
      unfold parseL at hq
      split at hq
      · split at hq
        · rename_i h1
          obtain rfl := Option.some.inj hq
          refine Nat.le_trans (siz_mk _ _) ?_
          have n1 := len_valL (dig_all (whole_dig h1.1))
          have n2 := len_valL (dig_all (whole_dig h1.2.1))
          rw [sgn_natAbs]
          omega
        · cases hq
      · split at hq
        · rename_i h1 h2
          obtain rfl := Option.some.inj hq
          refine Nat.le_trans (siz_mk _ _) ?_
          have hb : (Lib.cut (Lib.trimPrefix s.data.toList [45]) [46]).2.1.all digC = true := by
            rcases hf : (Lib.cut (Lib.trimPrefix s.data.toList [45]) [46]).2.2 with _ | _
            · rw [cut_none _ _ hf]; rfl
            · exact dig_all (h2.2 hf)
          have hab : ((Lib.cut (Lib.trimPrefix s.data.toList [45]) [46]).1 ++ (Lib.cut (Lib.trimPrefix s.data.toList [45]) [46]).2.1).all digC = true := by
            rw [List.all_append, hb, dig_all (whole_dig h2.1)]; rfl
          have n1 := len_valL hab
          rw [List.length_append] at n1
          have n2 := len_pow_le 10 (Lib.cut (Lib.trimPrefix s.data.toList [45]) [46]).2.1.length
          have n3 : len 10 = 1 := by decide +kernel
          rw [n3] at n2
          rw [sgn_natAbs]
          omega
        · cases hq
theorem add_val {w : World} {vx vy : Value} {x y q : Rat} (hq : x + y = q) (hx : IsNum w vx x) (hy : IsNum w vy y) (hs : siz x ≤ 536870912) (ht : siz y ≤ 536870912) :
    Calls Tryz.prog 14 #[vx, vy] w (NumRet w q) := by rw [← hq]; exact numAdd_any hx hy (Nat.le_trans hs (by omega)) (Nat.le_trans ht (by omega))
theorem sub_val {w : World} {vx vy : Value} {x y q : Rat} (hq : x - y = q) (hx : IsNum w vx x) (hy : IsNum w vy y) (hs : siz x ≤ 536870912) (ht : siz y ≤ 536870912) :
    Calls Tryz.prog 16 #[vx, vy] w (NumRet w q) := by rw [← hq]; exact numSub_any hx hy (Nat.le_trans hs (by omega)) (Nat.le_trans ht (by omega))
theorem mul_val' {w : World} {vx vy : Value} {x y q : Rat} (hq : x * y = q) (hx : IsNum w vx x) (hy : IsNum w vy y) (hs : siz x ≤ 536870912) (ht : siz y ≤ 536870912) :
    Calls Tryz.prog 15 #[vx, vy] w (NumRet w q) := by rw [← hq]; exact numMul_any hx hy (Nat.le_trans hs (by omega)) (Nat.le_trans ht (by omega))
theorem neg_val {w : World} {vx : Value} {x q : Rat} (hq : -x = q) (hx : IsNum w vx x) (hs : siz x ≤ 536870912) :
    Calls Tryz.prog 17 #[vx] w (NumRet w q) := by rw [← hq]; exact numNeg_any hx (Nat.le_trans hs (by omega))
theorem zero_at {q : Rat} (h : q = 0) (w : World) : IsNum w (.agg #[.bool false, .slice none 0 0, .slice none 0 0]) q := by rw [h]; exact zero_num w
theorem Held0.drew {wB wS w : World} {G : Nat} (h : Held0 wB G wS w) (hG : G ≤ wB.heap.size) : Held0 wB G wS w.drew := h.call hG ⟨rfl, rfl, rfl, Nat.le_refl _, fun _ _ => rfl⟩
theorem div_val {w : World} {vx vy : Value} {x y q : Rat} {c : Int} (hq : x / y = q) (hc : (if y = 0 then 10 else 0) = c) (hx : IsNum w vx x) (hy : IsNum w vy y) (hs : siz x ≤ 536870912) (ht : siz y ≤ 536870912) :
    Calls Tryz.prog 19 #[vx, vy] w (NumErrRet w q c) := by rw [← hq, ← hc]; exact numDiv_any hx hy (Nat.le_trans hs (by omega)) (Nat.le_trans ht (by omega))
theorem sign_val {w : World} {vx : Value} {x : Rat} {n : Int} (hn : x.num.sign = n) (hx : IsNum w vx x) : Calls Tryz.prog 20 #[vx] w (IntRet w n) := by rw [← hn]; exact numSign_any hx
theorem cell_keep {w w' : World} {b : Nat} {v : Value} (h : w.cell? ⟨b, 0, none⟩ = some v) (hb : Below w.heap.size w w') : w'.cell? ⟨b, 0, none⟩ = some v := (hb.cell (p := ⟨b, 0, none⟩) (World.block_lt_of_cell? w _ h)).trans h
theorem number_val {w : World} {s : ByteArray} {mx : Int} {q : Rat} (hM : w.cell? ⟨1, 0, none⟩ = some (.int .i64 mx)) (hq : (parseV s).1 = q) :
    Calls Tryz.prog 12 #[.string s] w (NumRet w q) := number_to hM hq

theorem long_three {w : World} {sa sb sc : ByteArray} {r : Bool} (h : [sa, sb, sc].any (fun s => decide (120 < s.size)) = r) :
    Calls Tryz.prog 10 #[.slice (some ⟨w.heap.size, 0, none⟩) 3 3] (w.alloc (.cells #[.string sa, .string sb, .string sc] 9)) (fun e w' => e = .returned (.bool r) ∧ w' = w.alloc (.cells #[.string sa, .string sb, .string sc] 9)) := by
  have hg : (w.alloc (.cells #[.string sa, .string sb, .string sc] 9)).heap[w.heap.size]? = some (.cells #[.string sa, .string sb, .string sc] 9 (0, 0)) := heap_alloc_new w _
  rw [← h]
  refine long_any (l := [sa, sb, sc]) (o := 0) ?_ (by simp)
  intro i s hi
  match i, hi with
  | 0, hi => obtain rfl := Option.some.inj hi; exact cell_of_row _ _ 0 _ _ _ hg
  | 1, hi => obtain rfl := Option.some.inj hi; exact cell_of_row _ _ 1 _ _ _ hg
  | 2, hi => obtain rfl := Option.some.inj hi; exact cell_of_row _ _ 2 _ _ _ hg
  | _ + 3, hi => exact absurd hi (by simp)
set_option maxRecDepth 100000 in
set_option maxHeartbeats 8000000 in
theorem field_short {w : World} {sa sb sc : ByteArray} {mx : Int} (hlong : [sa, sb, sc].any (fun s => decide (120 < s.size)) = false) (hM : w.cell? ⟨1, 0, none⟩ = some (.int .i64 mx)) (hT : TabAt 0 Lib.deBruijn64tab w) :
    Calls Tryz.prog 3 #[.string sa, .string sb, .string sc] w (BoolRet w true) := by
  obtain ⟨x, e_x⟩ : ∃ q : Rat, (parseV sa).1 = q := ⟨_, rfl⟩
  obtain ⟨y, e_y⟩ : ∃ q : Rat, (parseV sb).1 = q := ⟨_, rfl⟩
  obtain ⟨z, e_z⟩ : ∃ q : Rat, (parseV sc).1 = q := ⟨_, rfl⟩
  have z_x : Hid (siz x ≤ 4100) := by show _ ≤ _; rw [← e_x]; exact parse_siz _
  have z_y : Hid (siz y ≤ 4100) := by show _ ≤ _; rw [← e_y]; exact parse_siz _
  have z_z : Hid (siz z ≤ 4100) := by show _ ≤ _; rw [← e_z]; exact parse_siz _
  obtain ⟨xy, e_xy⟩ : ∃ q : Rat, x + y = q := ⟨_, rfl⟩
  obtain ⟨yx, e_yx⟩ : ∃ q : Rat, y + x = q := ⟨_, rfl⟩
  obtain ⟨mxy, e_mxy⟩ : ∃ q : Rat, x * y = q := ⟨_, rfl⟩
  obtain ⟨myx, e_myx⟩ : ∃ q : Rat, y * x = q := ⟨_, rfl⟩
  obtain ⟨xyz, e_xyz⟩ : ∃ q : Rat, xy + z = q := ⟨_, rfl⟩
  obtain ⟨yz, e_yz⟩ : ∃ q : Rat, y + z = q := ⟨_, rfl⟩
  obtain ⟨x_yz, e_x_yz⟩ : ∃ q : Rat, x + yz = q := ⟨_, rfl⟩
  obtain ⟨mxyz, e_mxyz⟩ : ∃ q : Rat, mxy * z = q := ⟨_, rfl⟩
  obtain ⟨myz, e_myz⟩ : ∃ q : Rat, y * z = q := ⟨_, rfl⟩
  obtain ⟨mx_yz, e_mx_yz⟩ : ∃ q : Rat, x * myz = q := ⟨_, rfl⟩
  obtain ⟨xymz, e_xymz⟩ : ∃ q : Rat, xy * z = q := ⟨_, rfl⟩
  obtain ⟨mxz, e_mxz⟩ : ∃ q : Rat, x * z = q := ⟨_, rfl⟩
  obtain ⟨sxy, e_sxy⟩ : ∃ q : Rat, mxz + myz = q := ⟨_, rfl⟩
  obtain ⟨dxy, e_dxy⟩ : ∃ q : Rat, x - y = q := ⟨_, rfl⟩
  obtain ⟨dxyy, e_dxyy⟩ : ∃ q : Rat, dxy + y = q := ⟨_, rfl⟩
  obtain ⟨nx, e_nx⟩ : ∃ q : Rat, -x = q := ⟨_, rfl⟩
  obtain ⟨xnx, e_xnx⟩ : ∃ q : Rat, x + nx = q := ⟨_, rfl⟩
  obtain ⟨o0, e_o0⟩ : ∃ q : Rat, q = 0 := ⟨_, rfl⟩
  obtain ⟨o1, e_o1⟩ : ∃ q : Rat, q = 1 := ⟨_, rfl⟩
  obtain ⟨xo, e_xo⟩ : ∃ q : Rat, x + o0 = q := ⟨_, rfl⟩
  obtain ⟨x1, e_x1⟩ : ∃ q : Rat, x * o1 = q := ⟨_, rfl⟩
  obtain ⟨dv, e_dv⟩ : ∃ q : Rat, x / y = q := ⟨_, rfl⟩
  obtain ⟨dvy, e_dvy⟩ : ∃ q : Rat, dv * y = q := ⟨_, rfl⟩
  have hbd : siz o0 ≤ 1 ∧ siz o1 ≤ 1 := by rw [e_o0, e_o1]; exact ⟨by decide +kernel, by decide +kernel⟩
  have z_o0 : Hid (siz o0 ≤ 1) := hbd.1
  have z_o1 : Hid (siz o1 ≤ 1) := hbd.2
  clear hbd
  have z_xy : Hid (siz xy ≤ 8201) := by have h1 := z_x.out; have h2 := z_y.out; have h3 := siz_add x y; rw [e_xy] at h3; show _ ≤ _; omega
  have z_yx : Hid (siz yx ≤ 8201) := by have h1 := z_y.out; have h2 := z_x.out; have h3 := siz_add y x; rw [e_yx] at h3; show _ ≤ _; omega
  have z_mxy : Hid (siz mxy ≤ 8201) := by have h1 := z_x.out; have h2 := z_y.out; have h3 := siz_mul x y; rw [e_mxy] at h3; show _ ≤ _; omega
  have z_myx : Hid (siz myx ≤ 8201) := by have h1 := z_y.out; have h2 := z_x.out; have h3 := siz_mul y x; rw [e_myx] at h3; show _ ≤ _; omega
  have z_xyz : Hid (siz xyz ≤ 12302) := by have h1 := z_xy.out; have h2 := z_z.out; have h3 := siz_add xy z; rw [e_xyz] at h3; show _ ≤ _; omega
  have z_yz : Hid (siz yz ≤ 8201) := by have h1 := z_y.out; have h2 := z_z.out; have h3 := siz_add y z; rw [e_yz] at h3; show _ ≤ _; omega
  have z_x_yz : Hid (siz x_yz ≤ 12302) := by have h1 := z_x.out; have h2 := z_yz.out; have h3 := siz_add x yz; rw [e_x_yz] at h3; show _ ≤ _; omega
  have z_mxyz : Hid (siz mxyz ≤ 12302) := by have h1 := z_mxy.out; have h2 := z_z.out; have h3 := siz_mul mxy z; rw [e_mxyz] at h3; show _ ≤ _; omega
  have z_myz : Hid (siz myz ≤ 8201) := by have h1 := z_y.out; have h2 := z_z.out; have h3 := siz_mul y z; rw [e_myz] at h3; show _ ≤ _; omega
  have z_mx_yz : Hid (siz mx_yz ≤ 12302) := by have h1 := z_x.out; have h2 := z_myz.out; have h3 := siz_mul x myz; rw [e_mx_yz] at h3; show _ ≤ _; omega
  have z_xymz : Hid (siz xymz ≤ 12302) := by have h1 := z_xy.out; have h2 := z_z.out; have h3 := siz_mul xy z; rw [e_xymz] at h3; show _ ≤ _; omega
  have z_mxz : Hid (siz mxz ≤ 8201) := by have h1 := z_x.out; have h2 := z_z.out; have h3 := siz_mul x z; rw [e_mxz] at h3; show _ ≤ _; omega
  have z_sxy : Hid (siz sxy ≤ 16403) := by have h1 := z_mxz.out; have h2 := z_myz.out; have h3 := siz_add mxz myz; rw [e_sxy] at h3; show _ ≤ _; omega
  have z_dxy : Hid (siz dxy ≤ 8201) := by have h1 := z_x.out; have h2 := z_y.out; have h3 := siz_sub x y; rw [e_dxy] at h3; show _ ≤ _; omega
  have z_dxyy : Hid (siz dxyy ≤ 12302) := by have h1 := z_dxy.out; have h2 := z_y.out; have h3 := siz_add dxy y; rw [e_dxyy] at h3; show _ ≤ _; omega
  have z_nx : Hid (siz nx ≤ 4100) := by show _ ≤ _; rw [← e_nx, siz_neg]; exact z_x.out
  have z_xnx : Hid (siz xnx ≤ 8201) := by have h1 := z_x.out; have h2 := z_nx.out; have h3 := siz_add x nx; rw [e_xnx] at h3; show _ ≤ _; omega
  have z_xo : Hid (siz xo ≤ 4102) := by have h1 := z_x.out; have h2 := z_o0.out; have h3 := siz_add x o0; rw [e_xo] at h3; show _ ≤ _; omega
  have z_x1 : Hid (siz x1 ≤ 4102) := by have h1 := z_x.out; have h2 := z_o1.out; have h3 := siz_mul x o1; rw [e_x1] at h3; show _ ≤ _; omega
  have z_dv : Hid (siz dv ≤ 8201) := by have h1 := z_x.out; have h2 := z_y.out; have h3 := siz_div x y; rw [e_dv] at h3; show _ ≤ _; omega
  have z_dvy : Hid (siz dvy ≤ 12302) := by have h1 := z_dv.out; have h2 := z_y.out; have h3 := siz_mul dv y; rw [e_dvy] at h3; show _ ≤ _; omega
  have i1 : Hid (xy = yx) := by show _ = _; rw [← e_xy, ← e_yx, Rat.add_comm]
  have i2 : Hid (mxy = myx) := by show _ = _; rw [← e_mxy, ← e_myx, Rat.mul_comm]
  have i3 : Hid (xyz = x_yz) := by show _ = _; rw [← e_xyz, ← e_x_yz, ← e_xy, ← e_yz, Rat.add_assoc]
  have i4 : Hid (mxyz = mx_yz) := by show _ = _; rw [← e_mxyz, ← e_mx_yz, ← e_mxy, ← e_myz, Rat.mul_assoc]
  have i5 : Hid (xymz = sxy) := by show _ = _; rw [← e_xymz, ← e_sxy, ← e_xy, ← e_mxz, ← e_myz, Rat.add_mul]
  have i6 : Hid (dxyy = x) := by show _ = _; rw [← e_dxyy, ← e_dxy, Rat.sub_eq_add_neg, Rat.add_assoc, Rat.neg_add_cancel, Rat.add_zero]
  have i7 : Hid (xnx = o0) := by show _ = _; rw [← e_xnx, ← e_nx, e_o0, Rat.add_neg_cancel]
  have i8 : Hid (xo = x) := by show _ = _; rw [← e_xo, e_o0, Rat.add_zero]
  have i9 : Hid (x1 = x) := by show _ = _; rw [← e_x1, e_o1, Rat.mul_one]
  have iA : Hid (((1 : Int) : Rat) = o1) := by show _ = _; rw [e_o1]; rfl
  replace e_x := Lib.hid e_x
  replace e_y := Lib.hid e_y
  replace e_z := Lib.hid e_z
  replace e_xy := Lib.hid e_xy
  replace e_yx := Lib.hid e_yx
  replace e_mxy := Lib.hid e_mxy
  replace e_myx := Lib.hid e_myx
  replace e_xyz := Lib.hid e_xyz
  replace e_yz := Lib.hid e_yz
  replace e_x_yz := Lib.hid e_x_yz
  replace e_mxyz := Lib.hid e_mxyz
  replace e_myz := Lib.hid e_myz
  replace e_mx_yz := Lib.hid e_mx_yz
  replace e_xymz := Lib.hid e_xymz
  replace e_mxz := Lib.hid e_mxz
  replace e_sxy := Lib.hid e_sxy
  replace e_dxy := Lib.hid e_dxy
  replace e_dxyy := Lib.hid e_dxyy
  replace e_nx := Lib.hid e_nx
  replace e_xnx := Lib.hid e_xnx
  replace e_xo := Lib.hid e_xo
  replace e_x1 := Lib.hid e_x1
  replace e_dv := Lib.hid e_dv
  replace e_dvy := Lib.hid e_dvy
  replace e_o0 := Lib.hid e_o0
  replace e_o1 := Lib.hid e_o1
  replace hM := Lib.hid hM
  replace hT := Lib.hid hT
  go_enter Tryz.func3, Tryz.ntmps3
  go_wp2_with fail
  obtain ⟨w1, hw1⟩ : ∃ u, u = w.alloc (.cells #[.string sa, .string sb, .string sc] 9) := ⟨_, rfl⟩
  have b1 : Hid (Below w.heap.size w w1) := by rw [hw1]; exact (Below.refl _ _).alloc (Nat.le_refl _) _
  have HX := Lib.hid (long_three (w := w) (sa := sa) (sb := sb) (sc := sc) hlong)
  rw [← hw1] at HX ⊢
  clear hw1 hlong
  refine (HX.out).mono ?_
  rintro e w9 ⟨rfl, rfl⟩
  clear HX
  have HX := Lib.hid (number_val ((b1.out.cell (p := ⟨1, 0, none⟩) (World.block_lt_of_cell? w _ hM.out)).trans hM.out) e_x.out)
  go_wp2_with fail
  refine (HX.out).mono ?_
  rintro e w2 ⟨v2, rfl, hv2, b2⟩
  obtain ⟨C1, j1, C2, j2, rfl, -, -⟩ := id hv2.opened
  replace hv2 := Lib.hid hv2
  replace b2 := Lib.hid b2
  clear HX
  have HX := Lib.hid (number_val (((Below.step b1.out b2.out).cell (p := ⟨1, 0, none⟩) (World.block_lt_of_cell? w _ hM.out)).trans hM.out) e_y.out)
  go_wp2_with fail
  refine (HX.out).mono ?_
  rintro e w3 ⟨v3, rfl, hv3, b3⟩
  obtain ⟨C3, j3, C4, j4, rfl, -, -⟩ := id hv3.opened
  replace hv3 := Lib.hid hv3
  replace b3 := Lib.hid b3
  clear HX
  have HX := Lib.hid (number_val (((Below.step (Below.step b1.out b2.out) b3.out).cell (p := ⟨1, 0, none⟩) (World.block_lt_of_cell? w _ hM.out)).trans hM.out) e_z.out)
  go_wp2_with fail
  refine (HX.out).mono ?_
  rintro e w4 ⟨v4, rfl, hv4, b4⟩
  obtain ⟨C5, j5, C6, j6, rfl, -, -⟩ := id hv4.opened
  replace hv4 := Lib.hid hv4
  replace b4 := Lib.hid b4
  clear HX
  go_upto_region 4 with fail
  obtain ⟨w5, hw5⟩ : ∃ u, u = (((w4.alloc (.cells #[.bool (decide (x.num < 0)), .slice C1 (len x.num.natAbs) j1, .slice C2 (len (below x.den)) j2] 27)).alloc (.cells #[.bool (decide (y.num < 0)), .slice C3 (len y.num.natAbs) j3, .slice C4 (len (below y.den)) j4] 27)).alloc (.cells #[.bool (decide (z.num < 0)), .slice C5 (len z.num.natAbs) j5, .slice C6 (len (below z.den)) j6] 27)) := ⟨_, rfl⟩
  obtain ⟨b5, g1, g2, g3⟩ := news3 w4 (.cells #[.bool (decide (x.num < 0)), .slice C1 (len x.num.natAbs) j1, .slice C2 (len (below x.den)) j2] 27) (.cells #[.bool (decide (y.num < 0)), .slice C3 (len y.num.natAbs) j3, .slice C4 (len (below y.den)) j4] 27) (.cells #[.bool (decide (z.num < 0)), .slice C5 (len z.num.natAbs) j5, .slice C6 (len (below z.den)) j6] 27)
  rw [← hw5] at b5 g1 g2 g3
  have HSZ : Hid (w5.heap.size = w4.heap.size + 3) := by show _ = _; rw [hw5, World.size_alloc, World.size_alloc, World.size_alloc]
  rw [← hw5]
  clear hw5
  replace b5 := Lib.hid b5
  have k0 : w5.cell? ⟨w4.heap.size, 0, none⟩ = some (.bool (decide (x.num < 0))) := cell_of_row _ _ _ _ _ _ g1
  have k1 : w5.cell? ⟨w4.heap.size, 1, none⟩ = some (.slice C1 (len x.num.natAbs) j1) := cell_of_row _ _ _ _ _ _ g1
  have k2 : w5.cell? ⟨w4.heap.size, 2, none⟩ = some (.slice C2 (len (below x.den)) j2) := cell_of_row _ _ _ _ _ _ g1
  have k3 : w5.cell? ⟨w4.heap.size + 1, 0, none⟩ = some (.bool (decide (y.num < 0))) := cell_of_row _ _ _ _ _ _ g2
  have k4 : w5.cell? ⟨w4.heap.size + 1, 1, none⟩ = some (.slice C3 (len y.num.natAbs) j3) := cell_of_row _ _ _ _ _ _ g2
  have k5 : w5.cell? ⟨w4.heap.size + 1, 2, none⟩ = some (.slice C4 (len (below y.den)) j4) := cell_of_row _ _ _ _ _ _ g2
  have k6 : w5.cell? ⟨w4.heap.size + 2, 0, none⟩ = some (.bool (decide (z.num < 0))) := cell_of_row _ _ _ _ _ _ g3
  have k7 : w5.cell? ⟨w4.heap.size + 2, 1, none⟩ = some (.slice C5 (len z.num.natAbs) j5) := cell_of_row _ _ _ _ _ _ g3
  have k8 : w5.cell? ⟨w4.heap.size + 2, 2, none⟩ = some (.slice C6 (len (below z.den)) j6) := cell_of_row _ _ _ _ _ _ g3
  clear g1 g2 g3
  have hl0 : w4.heap.size < w4.heap.size + 3 := by omega
  have hl41 : w4.heap.size + 1 < w4.heap.size + 3 := by omega
  have hl42 : w4.heap.size + 2 < w4.heap.size + 3 := by omega
  have hBx := Lib.hid (hv2.out.keep (Below.step (Below.step b3.out b4.out) b5.out))
  have hBy := Lib.hid (hv3.out.keep (Below.step b4.out b5.out))
  have hBz := Lib.hid (hv4.out.keep b5.out)
  have hTB := Lib.hid (tab_keep hT.out (Below.step (Below.step (Below.step (Below.step b1.out b2.out) b3.out) b4.out) b5.out))
  have hMB := Lib.hid (((Below.step (Below.step (Below.step (Below.step b1.out b2.out) b3.out) b4.out) b5.out).cell (p := ⟨1, 0, none⟩) (World.block_lt_of_cell? w _ hM.out)).trans hM.out)
  have HB := Lib.hid (Below.step (Below.step (Below.step (Below.step b1.out b2.out) b3.out) b4.out) b5.out)
  clear hM hT b1 b2 b3 b4 b5 hv2 hv3 hv4
  have H0 := Held0.start w5 (w4.heap.size + 3)
  have H0' := H0
  unfold Held0 at H0'
  replace z_x := Lib.hid (Nat.le_trans z_x.out (show 4100 ≤ 536870912 by omega))
  replace z_y := Lib.hid (Nat.le_trans z_y.out (show 4100 ≤ 536870912 by omega))
  replace z_z := Lib.hid (Nat.le_trans z_z.out (show 4100 ≤ 536870912 by omega))
  replace z_o0 := Lib.hid (Nat.le_trans z_o0.out (show 1 ≤ 536870912 by omega))
  replace z_o1 := Lib.hid (Nat.le_trans z_o1.out (show 1 ≤ 536870912 by omega))
  replace z_xy := Lib.hid (Nat.le_trans z_xy.out (show 8201 ≤ 536870912 by omega))
  replace z_yx := Lib.hid (Nat.le_trans z_yx.out (show 8201 ≤ 536870912 by omega))
  replace z_mxy := Lib.hid (Nat.le_trans z_mxy.out (show 8201 ≤ 536870912 by omega))
  replace z_myx := Lib.hid (Nat.le_trans z_myx.out (show 8201 ≤ 536870912 by omega))
  replace z_xyz := Lib.hid (Nat.le_trans z_xyz.out (show 12302 ≤ 536870912 by omega))
  replace z_yz := Lib.hid (Nat.le_trans z_yz.out (show 8201 ≤ 536870912 by omega))
  replace z_x_yz := Lib.hid (Nat.le_trans z_x_yz.out (show 12302 ≤ 536870912 by omega))
  replace z_mxyz := Lib.hid (Nat.le_trans z_mxyz.out (show 12302 ≤ 536870912 by omega))
  replace z_myz := Lib.hid (Nat.le_trans z_myz.out (show 8201 ≤ 536870912 by omega))
  replace z_mx_yz := Lib.hid (Nat.le_trans z_mx_yz.out (show 12302 ≤ 536870912 by omega))
  replace z_xymz := Lib.hid (Nat.le_trans z_xymz.out (show 12302 ≤ 536870912 by omega))
  replace z_mxz := Lib.hid (Nat.le_trans z_mxz.out (show 8201 ≤ 536870912 by omega))
  replace z_sxy := Lib.hid (Nat.le_trans z_sxy.out (show 16403 ≤ 536870912 by omega))
  replace z_dxy := Lib.hid (Nat.le_trans z_dxy.out (show 8201 ≤ 536870912 by omega))
  replace z_dxyy := Lib.hid (Nat.le_trans z_dxyy.out (show 12302 ≤ 536870912 by omega))
  replace z_nx := Lib.hid (Nat.le_trans z_nx.out (show 4100 ≤ 536870912 by omega))
  replace z_xnx := Lib.hid (Nat.le_trans z_xnx.out (show 8201 ≤ 536870912 by omega))
  replace z_xo := Lib.hid (Nat.le_trans z_xo.out (show 4102 ≤ 536870912 by omega))
  replace z_x1 := Lib.hid (Nat.le_trans z_x1.out (show 4102 ≤ 536870912 by omega))
  replace z_dv := Lib.hid (Nat.le_trans z_dv.out (show 8201 ≤ 536870912 by omega))
  replace z_dvy := Lib.hid (Nat.le_trans z_dvy.out (show 12302 ≤ 536870912 by omega))
  go_wp2_with fail
  go_region_held3 (fun w' => (∀ b o, b < w4.heap.size + 3 → w'.cell? ⟨b, o, none⟩ = w5.cell? ⟨b, o, none⟩) ∧ Below (w4.heap.size + 3) w5 w' ∧ Stay w5 w')
    (first | with_reducible exact H0' | with_reducible exact hk1' | with_reducible exact hk2' | with_reducible exact hk3' | with_reducible exact hk4' | with_reducible exact hk5' | with_reducible exact hk6' | with_reducible exact hk7' | with_reducible exact hk8' | with_reducible exact hk9' | with_reducible exact hk10' | with_reducible exact hk11' | with_reducible exact hk12' | with_reducible exact hk13' | with_reducible exact hk14' | with_reducible exact hk15' | with_reducible exact hk16' | with_reducible exact hk17' | with_reducible exact hk18' | with_reducible exact hk19' | with_reducible exact hk20' | with_reducible exact hk21' | with_reducible exact hk22')
    (first | (go_at_call 13; refine (equal_to (((hv18.keep hbl19).keep hbl20).keep hbl21) hv21 i5.out z_xymz.out (tab_keep hTB.out (below_eq hk21.2.1 HSZ.out))).mono ?_; rintro e w_22 ⟨rfl, hbl22⟩; have hk22 := Held0.call hk21 (Nat.le_of_eq HSZ.out.symm) hbl22; have hk22' := hk22; unfold Held0 at hk22'; clear hk21 hk21'; clear hv17 hv18 hv19 hv20 hv21 hbl17 hbl18 hbl19 hbl20 hbl21 hbl22) | (go_at_call 14; refine (add_val e_sxy.out (hv19.keep hbl20) hv20 z_mxz.out z_myz.out).mono ?_; rintro e w_21 ⟨v21, rfl, hv21, hbl21⟩; obtain ⟨C41, j41, C42, j42, rfl, -, -⟩ := id hv21.opened; have hk21 := Held0.call hk20 (Nat.le_of_eq HSZ.out.symm) hbl21; have hk21' := hk21; unfold Held0 at hk21'; clear hk20 hk20') | (go_at_call 15; refine (mul_val' e_myz.out (hk19.2.2.num hBy.out) (hk19.2.2.num hBz.out) z_y.out z_z.out).mono ?_; rintro e w_20 ⟨v20, rfl, hv20, hbl20⟩; obtain ⟨C39, j39, C40, j40, rfl, -, -⟩ := id hv20.opened; have hk20 := Held0.call hk19 (Nat.le_of_eq HSZ.out.symm) hbl20; have hk20' := hk20; unfold Held0 at hk20'; clear hk19 hk19') | (go_at_call 15; refine (mul_val' e_mxz.out (hk18.2.2.num hBx.out) (hk18.2.2.num hBz.out) z_x.out z_z.out).mono ?_; rintro e w_19 ⟨v19, rfl, hv19, hbl19⟩; obtain ⟨C37, j37, C38, j38, rfl, -, -⟩ := id hv19.opened; have hk19 := Held0.call hk18 (Nat.le_of_eq HSZ.out.symm) hbl19; have hk19' := hk19; unfold Held0 at hk19'; clear hk18 hk18') | (go_at_call 15; refine (mul_val' e_xymz.out hv17 (hk17.2.2.num hBz.out) z_xy.out z_z.out).mono ?_; rintro e w_18 ⟨v18, rfl, hv18, hbl18⟩; obtain ⟨C35, j35, C36, j36, rfl, -, -⟩ := id hv18.opened; have hk18 := Held0.call hk17 (Nat.le_of_eq HSZ.out.symm) hbl18; have hk18' := hk18; unfold Held0 at hk18'; clear hk17 hk17') | (go_at_call 14; refine (add_val e_xy.out (hk16.2.2.num hBx.out) (hk16.2.2.num hBy.out) z_x.out z_y.out).mono ?_; rintro e w_17 ⟨v17, rfl, hv17, hbl17⟩; obtain ⟨C33, j33, C34, j34, rfl, -, -⟩ := id hv17.opened; have hk17 := Held0.call hk16 (Nat.le_of_eq HSZ.out.symm) hbl17; have hk17' := hk17; unfold Held0 at hk17'; clear hk16 hk16') | (go_at_call 13; refine (equal_to ((hv13.keep hbl14).keep hbl15) hv15 i4.out z_mxyz.out (tab_keep hTB.out (below_eq hk15.2.1 HSZ.out))).mono ?_; rintro e w_16 ⟨rfl, hbl16⟩; have hk16 := Held0.call hk15 (Nat.le_of_eq HSZ.out.symm) hbl16; have hk16' := hk16; unfold Held0 at hk16'; clear hk15 hk15'; clear hv12 hv13 hv14 hv15 hbl12 hbl13 hbl14 hbl15 hbl16) | (go_at_call 15; refine (mul_val' e_mx_yz.out (hk14.2.2.num hBx.out) hv14 z_x.out z_myz.out).mono ?_; rintro e w_15 ⟨v15, rfl, hv15, hbl15⟩; obtain ⟨C29, j29, C30, j30, rfl, -, -⟩ := id hv15.opened; have hk15 := Held0.call hk14 (Nat.le_of_eq HSZ.out.symm) hbl15; have hk15' := hk15; unfold Held0 at hk15'; clear hk14 hk14') | (go_at_call 15; refine (mul_val' e_myz.out (hk13.2.2.num hBy.out) (hk13.2.2.num hBz.out) z_y.out z_z.out).mono ?_; rintro e w_14 ⟨v14, rfl, hv14, hbl14⟩; obtain ⟨C27, j27, C28, j28, rfl, -, -⟩ := id hv14.opened; have hk14 := Held0.call hk13 (Nat.le_of_eq HSZ.out.symm) hbl14; have hk14' := hk14; unfold Held0 at hk14'; clear hk13 hk13') | (go_at_call 15; refine (mul_val' e_mxyz.out hv12 (hk12.2.2.num hBz.out) z_mxy.out z_z.out).mono ?_; rintro e w_13 ⟨v13, rfl, hv13, hbl13⟩; obtain ⟨C25, j25, C26, j26, rfl, -, -⟩ := id hv13.opened; have hk13 := Held0.call hk12 (Nat.le_of_eq HSZ.out.symm) hbl13; have hk13' := hk13; unfold Held0 at hk13'; clear hk12 hk12') | (go_at_call 15; refine (mul_val' e_mxy.out (hk11.2.2.num hBx.out) (hk11.2.2.num hBy.out) z_x.out z_y.out).mono ?_; rintro e w_12 ⟨v12, rfl, hv12, hbl12⟩; obtain ⟨C23, j23, C24, j24, rfl, -, -⟩ := id hv12.opened; have hk12 := Held0.call hk11 (Nat.le_of_eq HSZ.out.symm) hbl12; have hk12' := hk12; unfold Held0 at hk12'; clear hk11 hk11') | (go_at_call 13; refine (equal_to ((hv8.keep hbl9).keep hbl10) hv10 i3.out z_xyz.out (tab_keep hTB.out (below_eq hk10.2.1 HSZ.out))).mono ?_; rintro e w_11 ⟨rfl, hbl11⟩; have hk11 := Held0.call hk10 (Nat.le_of_eq HSZ.out.symm) hbl11; have hk11' := hk11; unfold Held0 at hk11'; clear hk10 hk10'; clear hv7 hv8 hv9 hv10 hbl7 hbl8 hbl9 hbl10 hbl11) | (go_at_call 14; refine (add_val e_x_yz.out (hk9.2.2.num hBx.out) hv9 z_x.out z_yz.out).mono ?_; rintro e w_10 ⟨v10, rfl, hv10, hbl10⟩; obtain ⟨C19, j19, C20, j20, rfl, -, -⟩ := id hv10.opened; have hk10 := Held0.call hk9 (Nat.le_of_eq HSZ.out.symm) hbl10; have hk10' := hk10; unfold Held0 at hk10'; clear hk9 hk9') | (go_at_call 14; refine (add_val e_yz.out (hk8.2.2.num hBy.out) (hk8.2.2.num hBz.out) z_y.out z_z.out).mono ?_; rintro e w_9 ⟨v9, rfl, hv9, hbl9⟩; obtain ⟨C17, j17, C18, j18, rfl, -, -⟩ := id hv9.opened; have hk9 := Held0.call hk8 (Nat.le_of_eq HSZ.out.symm) hbl9; have hk9' := hk9; unfold Held0 at hk9'; clear hk8 hk8') | (go_at_call 14; refine (add_val e_xyz.out hv7 (hk7.2.2.num hBz.out) z_xy.out z_z.out).mono ?_; rintro e w_8 ⟨v8, rfl, hv8, hbl8⟩; obtain ⟨C15, j15, C16, j16, rfl, -, -⟩ := id hv8.opened; have hk8 := Held0.call hk7 (Nat.le_of_eq HSZ.out.symm) hbl8; have hk8' := hk8; unfold Held0 at hk8'; clear hk7 hk7') | (go_at_call 14; refine (add_val e_xy.out (hk6.2.2.num hBx.out) (hk6.2.2.num hBy.out) z_x.out z_y.out).mono ?_; rintro e w_7 ⟨v7, rfl, hv7, hbl7⟩; obtain ⟨C13, j13, C14, j14, rfl, -, -⟩ := id hv7.opened; have hk7 := Held0.call hk6 (Nat.le_of_eq HSZ.out.symm) hbl7; have hk7' := hk7; unfold Held0 at hk7'; clear hk6 hk6') | (go_at_call 13; refine (equal_to (hv4.keep hbl5) hv5 i2.out z_mxy.out (tab_keep hTB.out (below_eq hk5.2.1 HSZ.out))).mono ?_; rintro e w_6 ⟨rfl, hbl6⟩; have hk6 := Held0.call hk5 (Nat.le_of_eq HSZ.out.symm) hbl6; have hk6' := hk6; unfold Held0 at hk6'; clear hk5 hk5'; clear hv4 hv5 hbl4 hbl5 hbl6) | (go_at_call 15; refine (mul_val' e_myx.out (hk4.2.2.num hBy.out) (hk4.2.2.num hBx.out) z_y.out z_x.out).mono ?_; rintro e w_5 ⟨v5, rfl, hv5, hbl5⟩; obtain ⟨C9, j9, C10, j10, rfl, -, -⟩ := id hv5.opened; have hk5 := Held0.call hk4 (Nat.le_of_eq HSZ.out.symm) hbl5; have hk5' := hk5; unfold Held0 at hk5'; clear hk4 hk4') | (go_at_call 15; refine (mul_val' e_mxy.out (hk3.2.2.num hBx.out) (hk3.2.2.num hBy.out) z_x.out z_y.out).mono ?_; rintro e w_4 ⟨v4, rfl, hv4, hbl4⟩; obtain ⟨C7, j7, C8, j8, rfl, -, -⟩ := id hv4.opened; have hk4 := Held0.call hk3 (Nat.le_of_eq HSZ.out.symm) hbl4; have hk4' := hk4; unfold Held0 at hk4'; clear hk3 hk3') | (go_at_call 13; refine (equal_to (hv1.keep hbl2) hv2 i1.out z_xy.out (tab_keep hTB.out (below_eq hk2.2.1 HSZ.out))).mono ?_; rintro e w_3 ⟨rfl, hbl3⟩; have hk3 := Held0.call hk2 (Nat.le_of_eq HSZ.out.symm) hbl3; have hk3' := hk3; unfold Held0 at hk3'; clear hk2 hk2'; clear hv1 hv2 hbl1 hbl2 hbl3) | (go_at_call 14; refine (add_val e_yx.out (hk1.2.2.num hBy.out) (hk1.2.2.num hBx.out) z_y.out z_x.out).mono ?_; rintro e w_2 ⟨v2, rfl, hv2, hbl2⟩; obtain ⟨C3, j3, C4, j4, rfl, -, -⟩ := id hv2.opened; have hk2 := Held0.call hk1 (Nat.le_of_eq HSZ.out.symm) hbl2; have hk2' := hk2; unfold Held0 at hk2'; clear hk1 hk1') | (go_at_call 14; refine (add_val e_xy.out (H0.2.2.num hBx.out) (H0.2.2.num hBy.out) z_x.out z_y.out).mono ?_; rintro e w_1 ⟨v1, rfl, hv1, hbl1⟩; obtain ⟨C1, j1, C2, j2, rfl, -, -⟩ := id hv1.opened; have hk1 := Held0.call H0 (Nat.le_of_eq HSZ.out.symm) hbl1; have hk1' := hk1; unfold Held0 at hk1'))
  rename_i hHl
  clear hHl H0 H0'
  have H1 := hk22.drew (Nat.le_of_eq HSZ.out.symm)
  have H1' := H1
  unfold Held0 at H1'
  clear hk22'
  go_wp2_with fail
  go_region_held3 (fun w' => (∀ b o, b < w4.heap.size + 3 → w'.cell? ⟨b, o, none⟩ = w5.cell? ⟨b, o, none⟩) ∧ Below (w4.heap.size + 3) w5 w' ∧ Stay w5 w')
    (first | with_reducible exact H1' | with_reducible exact hk23' | with_reducible exact hk24' | with_reducible exact hk25' | with_reducible exact hk26' | with_reducible exact hk27' | with_reducible exact hk28' | with_reducible exact hk29' | with_reducible exact hk30' | with_reducible exact hk31' | with_reducible exact hk32' | with_reducible exact hk33')
    (first | (go_at_call 13; refine (equal_to hv32 (hk32.2.2.num hBx.out) i9.out z_x1.out (tab_keep hTB.out (below_eq hk32.2.1 HSZ.out))).mono ?_; rintro e w_33 ⟨rfl, hbl33⟩; have hk33 := Held0.call hk32 (Nat.le_of_eq HSZ.out.symm) hbl33; have hk33' := hk33; unfold Held0 at hk33'; clear hk32 hk32'; clear hv31 hv32 hbl31 hbl32 hbl33) | (go_at_call 15; refine (mul_val' e_x1.out (hk31.2.2.num hBx.out) hv31 z_x.out z_o1.out).mono ?_; rintro e w_32 ⟨v32, rfl, hv32, hbl32⟩; obtain ⟨C63, j63, C64, j64, rfl, -, -⟩ := id hv32.opened; have hk32 := Held0.call hk31 (Nat.le_of_eq HSZ.out.symm) hbl32; have hk32' := hk32; unfold Held0 at hk32'; clear hk31 hk31') | (go_at_call 18; refine (whole_val (by omega) (by omega) iA.out).mono ?_; rintro e w_31 ⟨v31, rfl, hv31, hbl31⟩; obtain ⟨C61, j61, C62, j62, rfl, -, -⟩ := id hv31.opened; have hk31 := Held0.call hk30 (Nat.le_of_eq HSZ.out.symm) hbl31; have hk31' := hk31; unfold Held0 at hk31'; clear hk30 hk30') | (go_at_call 13; refine (equal_to hv29 (hk29.2.2.num hBx.out) i8.out z_xo.out (tab_keep hTB.out (below_eq hk29.2.1 HSZ.out))).mono ?_; rintro e w_30 ⟨rfl, hbl30⟩; have hk30 := Held0.call hk29 (Nat.le_of_eq HSZ.out.symm) hbl30; have hk30' := hk30; unfold Held0 at hk30'; clear hk29 hk29'; clear hv29 hbl29 hbl30) | (go_at_call 14; refine (add_val e_xo.out (hk28.2.2.num hBx.out) (zero_at e_o0.out _) z_x.out z_o0.out).mono ?_; rintro e w_29 ⟨v29, rfl, hv29, hbl29⟩; obtain ⟨C57, j57, C58, j58, rfl, -, -⟩ := id hv29.opened; have hk29 := Held0.call hk28 (Nat.le_of_eq HSZ.out.symm) hbl29; have hk29' := hk29; unfold Held0 at hk29'; clear hk28 hk28') | (go_at_call 13; refine (equal_to hv27 (zero_at e_o0.out _) i7.out z_xnx.out (tab_keep hTB.out (below_eq hk27.2.1 HSZ.out))).mono ?_; rintro e w_28 ⟨rfl, hbl28⟩; have hk28 := Held0.call hk27 (Nat.le_of_eq HSZ.out.symm) hbl28; have hk28' := hk28; unfold Held0 at hk28'; clear hk27 hk27'; clear hv26 hv27 hbl26 hbl27 hbl28) | (go_at_call 14; refine (add_val e_xnx.out (hk26.2.2.num hBx.out) hv26 z_x.out z_nx.out).mono ?_; rintro e w_27 ⟨v27, rfl, hv27, hbl27⟩; obtain ⟨C53, j53, C54, j54, rfl, -, -⟩ := id hv27.opened; have hk27 := Held0.call hk26 (Nat.le_of_eq HSZ.out.symm) hbl27; have hk27' := hk27; unfold Held0 at hk27'; clear hk26 hk26') | (go_at_call 17; refine (neg_val e_nx.out (hk25.2.2.num hBx.out) z_x.out).mono ?_; rintro e w_26 ⟨v26, rfl, hv26, hbl26⟩; obtain ⟨C51, j51, C52, j52, rfl, -, -⟩ := id hv26.opened; have hk26 := Held0.call hk25 (Nat.le_of_eq HSZ.out.symm) hbl26; have hk26' := hk26; unfold Held0 at hk26'; clear hk25 hk25') | (go_at_call 13; refine (equal_to hv24 (hk24.2.2.num hBx.out) i6.out z_dxyy.out (tab_keep hTB.out (below_eq hk24.2.1 HSZ.out))).mono ?_; rintro e w_25 ⟨rfl, hbl25⟩; have hk25 := Held0.call hk24 (Nat.le_of_eq HSZ.out.symm) hbl25; have hk25' := hk25; unfold Held0 at hk25'; clear hk24 hk24'; clear hv23 hv24 hbl23 hbl24 hbl25) | (go_at_call 14; refine (add_val e_dxyy.out hv23 (hk23.2.2.num hBy.out) z_dxy.out z_y.out).mono ?_; rintro e w_24 ⟨v24, rfl, hv24, hbl24⟩; obtain ⟨C47, j47, C48, j48, rfl, -, -⟩ := id hv24.opened; have hk24 := Held0.call hk23 (Nat.le_of_eq HSZ.out.symm) hbl24; have hk24' := hk24; unfold Held0 at hk24'; clear hk23 hk23') | (go_at_call 16; refine (sub_val e_dxy.out (H1.2.2.num hBx.out) (H1.2.2.num hBy.out) z_x.out z_y.out).mono ?_; rintro e w_23 ⟨v23, rfl, hv23, hbl23⟩; obtain ⟨C45, j45, C46, j46, rfl, -, -⟩ := id hv23.opened; have hk23 := Held0.call H1 (Nat.le_of_eq HSZ.out.symm) hbl23; have hk23' := hk23; unfold Held0 at hk23'))
  rename_i hHl
  clear hHl H1 H1' hk22 hk33'
  have hcl := hk33.1
  obtain ⟨cc, hcc⟩ : ∃ cc : Int, (if y = 0 then 10 else 0) = cc := ⟨_, rfl⟩
  obtain ⟨sy, hsy⟩ : ∃ n : Int, y.num.sign = n := ⟨_, rfl⟩
  have HX := Lib.hid (div_val e_dv.out hcc (hk33.2.2.num hBx.out) (hk33.2.2.num hBy.out) z_x.out z_y.out)
  replace hcc := Lib.hid hcc
  replace hsy := Lib.hid hsy
  go_wp2_with fail
  refine (HX.out).mono ?_
  rintro e wD ⟨vD, rfl, hvD, hbD⟩
  obtain ⟨D1, d1, D2, d2, rfl, -, -⟩ := id hvD.opened
  clear HX hcl
  have hkD := Held0.call hk33 (Nat.le_of_eq HSZ.out.symm) hbD
  go_upto_region 9 with fail
  obtain ⟨wQ, hwQ⟩ : ∃ u, u = wD.alloc (.cells #[.bool (decide (dv.num < 0)), .slice D1 (len dv.num.natAbs) d1, .slice D2 (len (below dv.den)) d2] 27) := ⟨_, rfl⟩
  have bQ : Below wD.heap.size wD wQ := by rw [hwQ]; exact (Below.refl _ _).alloc (Nat.le_refl _) _
  have gQ : wQ.heap[wD.heap.size]? = some (.cells #[.bool (decide (dv.num < 0)), .slice D1 (len dv.num.natAbs) d1, .slice D2 (len (below dv.den)) d2] 27 (0, 0)) := by rw [hwQ]; exact heap_alloc_new wD _
  have HSQ : Hid (wQ.heap.size = wD.heap.size + 1) := by show _ = _; rw [hwQ, World.size_alloc]
  rw [← hwQ]
  clear hwQ
  have hNS : w4.heap.size + 3 ≤ wD.heap.size := by have := hkD.2.1.size; have := HSZ.out; omega
  have cQ := below_cell bQ
  have k0 := (cQ (w4.heap.size) 0 (by omega)).trans ((hkD.1 _ _ (by omega)).trans k0)
  have k1 := (cQ (w4.heap.size) 1 (by omega)).trans ((hkD.1 _ _ (by omega)).trans k1)
  have k2 := (cQ (w4.heap.size) 2 (by omega)).trans ((hkD.1 _ _ (by omega)).trans k2)
  have k3 := (cQ (w4.heap.size + 1) 0 (by omega)).trans ((hkD.1 _ _ (by omega)).trans k3)
  have k4 := (cQ (w4.heap.size + 1) 1 (by omega)).trans ((hkD.1 _ _ (by omega)).trans k4)
  have k5 := (cQ (w4.heap.size + 1) 2 (by omega)).trans ((hkD.1 _ _ (by omega)).trans k5)
  have k6 := (cQ (w4.heap.size + 2) 0 (by omega)).trans ((hkD.1 _ _ (by omega)).trans k6)
  have k7 := (cQ (w4.heap.size + 2) 1 (by omega)).trans ((hkD.1 _ _ (by omega)).trans k7)
  have k8 := (cQ (w4.heap.size + 2) 2 (by omega)).trans ((hkD.1 _ _ (by omega)).trans k8)
  have d0' := cell_of_row _ _ 0 _ _ _ gQ
  have d1' := cell_of_row _ _ 1 _ _ _ gQ
  have d2' := cell_of_row _ _ 2 _ _ _ gQ
  simp only [List.getElem?_toArray, List.getElem?_cons_zero, List.getElem?_cons_succ] at d0' d1' d2'
  have hQx := Lib.hid ((hkD.2.2.num hBx.out).keep bQ)
  have hQy := Lib.hid ((hkD.2.2.num hBy.out).keep bQ)
  have hQd := Lib.hid (hvD.keep bQ)
  have BQ : Below w5.heap.size w5 wQ := Below.step (below_eq hkD.2.1 HSZ.out) bQ
  have hTQ := Lib.hid (tab_keep hTB.out BQ)
  have hMQ := Lib.hid (cell_keep hMB.out BQ)
  have HBQ := Lib.hid (Below.step HB.out BQ)
  clear gQ cQ bQ hkD hvD hbD hk33 hBx hBy hBz hTB hMB HB BQ
  have hN0 : w4.heap.size < wD.heap.size + 1 := by omega
  have hN1 : w4.heap.size + 1 < wD.heap.size + 1 := by omega
  have hN2 : w4.heap.size + 2 < wD.heap.size + 1 := by omega
  have hN3 : wD.heap.size < wD.heap.size + 1 := by omega
  have H2 := Held0.start wQ (wD.heap.size + 1)
  have H2' := H2
  unfold Held0 at H2'
  replace HSZ := HSQ
  clear HSQ hNS
  rcases Decidable.em (y = 0) with hy0 | hy0
  · have hd1 : cc = 10 := by rw [← hcc.out, if_pos hy0]
    have hd2 : (sy == 0) = true := by rw [← hsy.out, hy0]; rfl
    subst hd1
    replace hy0 := Lib.hid hy0
    go_wp2_with fail
    refine wp_region_held_drew (S := (fun w' => (∀ b o, b < wD.heap.size + 1 → w'.cell? ⟨b, o, none⟩ = wQ.cell? ⟨b, o, none⟩) ∧ Below (wD.heap.size + 1) wQ w' ∧ Stay wQ w')) (by kernel_rfl) ?_ (fun hHeld => ?_)
    · (try dsimp only)
      exact H2'
    refine wpAnyH_take (i := 0) (v := ?v0) (oi := ?o0) ?e0 ?a0 ?b0 ?c0 ?d0 ?y0 ?s0 ?r0
    case e0 => simp only [List.getElem?_toArray, List.getElem?_cons_zero, List.getElem?_cons_succ]; rfl
    case a0 => kernel_rfl
    case b0 => kernel_rfl
    case c0 => kernel_rfl
    case d0 => exact fun _ _ _ h => h
    case y0 =>
      refine Or.inl ⟨by rfl, ?_⟩
      intro w hSw
      (try dsimp only at hSw)
      go_simp
      try with_reducible rfl
    case s0 => assumption
    try simp only [Act.put, List.setIfInBounds_toArray, List.set_cons_zero, List.set_cons_succ]
    refine wpAnyH_take (i := 1) (v := ?v1) (oi := ?o1) ?e1 ?a1 ?b1 ?c1 ?d1 ?y1 ?s1 ?r1
    case e1 => simp only [List.getElem?_toArray, List.getElem?_cons_zero, List.getElem?_cons_succ]; rfl
    case a1 => kernel_rfl
    case b1 => kernel_rfl
    case c1 => kernel_rfl
    case d1 => exact fun _ _ _ h => h
    case y1 =>
      refine Or.inl ⟨by rfl, ?_⟩
      intro w hSw
      (try dsimp only at hSw)
      go_simp
      try with_reducible rfl
    case s1 => assumption
    try simp only [Act.put, List.setIfInBounds_toArray, List.set_cons_zero, List.set_cons_succ]
    refine wpAnyH_take (i := 2) (v := ?v2) (oi := ?o2) ?e2 ?a2 ?b2 ?c2 ?d2 ?y2 ?s2 ?r2
    case e2 => simp only [List.getElem?_toArray, List.getElem?_cons_zero, List.getElem?_cons_succ]; rfl
    case a2 => kernel_rfl
    case b2 => kernel_rfl
    case c2 => kernel_rfl
    case d2 => exact fun _ _ _ h => h
    case y2 =>
      refine Or.inl ⟨by rfl, ?_⟩
      intro w hSw
      (try dsimp only at hSw)
      go_simp
      try with_reducible rfl
    case s2 => assumption
    try simp only [Act.put, List.setIfInBounds_toArray, List.set_cons_zero, List.set_cons_succ]
    refine wpAnyH_ready (rs := [3]) (by kernel_rfl) (by simp) ?_
    refine AllReadyH.cons (o := ?o3) ?e3 ?k3 AllReadyH.nil
    case e3 => simp only [List.getElem?_toArray, List.getElem?_cons_zero, List.getElem?_cons_succ]; rfl
    intro K hK
    go_simp
    go_at_call 20
    refine (sign_val hsy.out (H2.2.2.num hQy.out)).mono ?_
    rintro e w_51 ⟨rfl, hbl51⟩
    have hk51 := Held0.call H2 (Nat.le_of_eq HSZ.out.symm) hbl51
    have hk51' := hk51
    unfold Held0 at hk51'
    refine hK.out _ _ ?_ (fun hHeld => ?_)
    · (try dsimp only)
      with_reducible exact hk51'
    clear hK K
    try simp only [Act.put, List.setIfInBounds_toArray, List.set_cons_zero, List.set_cons_succ]
    refine wpAnyH_take (i := 4) (v := ?v4) (oi := ?o4) ?e4 ?a4 ?b4 ?c4 ?d4 ?y4 ?s4 ?r4
    case e4 => simp only [List.getElem?_toArray, List.getElem?_cons_zero, List.getElem?_cons_succ]; rfl
    case a4 => kernel_rfl
    case b4 => kernel_rfl
    case c4 => kernel_rfl
    case d4 => exact fun _ _ _ h => h
    case y4 =>
      refine Or.inl ⟨by rfl, ?_⟩
      intro w hSw
      (try dsimp only at hSw)
      go_simp
      try with_reducible rfl
    case s4 => assumption
    try simp only [Act.put, List.setIfInBounds_toArray, List.set_cons_zero, List.set_cons_succ]
    refine wpAnyH_take (i := 5) (v := ?v5) (oi := ?o5) ?e5 ?a5 ?b5 ?c5 ?d5 ?y5 ?s5 ?r5
    case e5 => simp only [List.getElem?_toArray, List.getElem?_cons_zero, List.getElem?_cons_succ]; rfl
    case a5 => kernel_rfl
    case b5 => kernel_rfl
    case c5 => kernel_rfl
    case d5 => exact fun _ _ _ h => h
    case y5 =>
      refine Or.inl ⟨by rfl, ?_⟩
      intro w hSw
      (try dsimp only at hSw)
      go_simp
      try with_reducible rfl
    case s5 => assumption
    try simp only [Act.put, List.setIfInBounds_toArray, List.set_cons_zero, List.set_cons_succ]
    refine wpAnyH_take (i := 6) (v := ?v6) (oi := ?o6) ?e6 ?a6 ?b6 ?c6 ?d6 ?y6 ?s6 ?r6
    case e6 => simp only [List.getElem?_toArray, List.getElem?_cons_zero, List.getElem?_cons_succ]; rfl
    case a6 => kernel_rfl
    case b6 => kernel_rfl
    case c6 => kernel_rfl
    case d6 => exact fun _ _ _ h => h
    case y6 =>
      refine Or.inl ⟨by rfl, ?_⟩
      intro w hSw
      (try dsimp only at hSw)
      go_simp
      try with_reducible rfl
    case s6 => assumption
    try simp only [Act.put, List.setIfInBounds_toArray, List.set_cons_zero, List.set_cons_succ]
    refine wpAnyH_take (i := 7) (v := ?v7) (oi := ?o7) ?e7 ?a7 ?b7 ?c7 ?d7 ?y7 ?s7 ?r7
    case e7 => simp only [List.getElem?_toArray, List.getElem?_cons_zero, List.getElem?_cons_succ]; rfl
    case a7 => kernel_rfl
    case b7 => kernel_rfl
    case c7 => kernel_rfl
    case d7 => exact fun _ _ _ h => h
    case y7 =>
      refine Or.inl ⟨by rfl, ?_⟩
      intro w hSw
      (try dsimp only at hSw)
      go_simp
      try with_reducible rfl
    case s7 => assumption
    try simp only [Act.put, List.setIfInBounds_toArray, List.set_cons_zero, List.set_cons_succ]
    refine wpAnyH_take (i := 8) (v := ?v8) (oi := ?o8) ?e8 ?a8 ?b8 ?c8 ?d8 ?y8 ?s8 ?r8
    case e8 => simp only [List.getElem?_toArray, List.getElem?_cons_zero, List.getElem?_cons_succ]; rfl
    case a8 => kernel_rfl
    case b8 => kernel_rfl
    case c8 => kernel_rfl
    case d8 => exact fun _ _ _ h => h
    case y8 =>
      refine Or.inl ⟨by rfl, ?_⟩
      intro w hSw
      (try dsimp only at hSw)
      go_simp
      try with_reducible rfl
    case s8 => assumption
    try simp only [Act.put, List.setIfInBounds_toArray, List.set_cons_zero, List.set_cons_succ]
    refine wpAnyH_take (i := 9) (v := ?v9) (oi := ?o9) ?e9 ?a9 ?b9 ?c9 ?d9 ?y9 ?s9 ?r9
    case e9 => simp only [List.getElem?_toArray, List.getElem?_cons_zero, List.getElem?_cons_succ]; rfl
    case a9 => kernel_rfl
    case b9 => kernel_rfl
    case c9 => kernel_rfl
    case d9 => exact fun _ _ _ h => h
    case y9 =>
      refine Or.inl ⟨by rfl, ?_⟩
      intro w hSw
      (try dsimp only at hSw)
      go_simp
      try with_reducible rfl
    case s9 => assumption
    try simp only [Act.put, List.setIfInBounds_toArray, List.set_cons_zero, List.set_cons_succ]
    refine wpAnyH_take (i := 10) (v := undef) (oi := ?o10) ?e10 ?a10 ?b10 ?c10 ?d10 ?y10 ?s10 ?r10
    case e10 => simp only [List.getElem?_toArray, List.getElem?_cons_zero, List.getElem?_cons_succ]; rfl
    case a10 => kernel_rfl
    case b10 => kernel_rfl
    case c10 => kernel_rfl
    case d10 => exact fun _ _ _ h => h
    case y10 => exact Or.inr ⟨by rfl, rfl⟩
    case s10 => assumption
    try simp only [Act.put, List.setIfInBounds_toArray, List.set_cons_zero, List.set_cons_succ]
    refine wpAnyH_take (i := 11) (v := undef) (oi := ?o11) ?e11 ?a11 ?b11 ?c11 ?d11 ?y11 ?s11 ?r11
    case e11 => simp only [List.getElem?_toArray, List.getElem?_cons_zero, List.getElem?_cons_succ]; rfl
    case a11 => kernel_rfl
    case b11 => kernel_rfl
    case c11 => kernel_rfl
    case d11 => exact fun _ _ _ h => h
    case y11 => exact Or.inr ⟨by rfl, rfl⟩
    case s11 => assumption
    try simp only [Act.put, List.setIfInBounds_toArray, List.set_cons_zero, List.set_cons_succ]
    refine wpAnyH_take (i := 13) (v := undef) (oi := ?o13) ?e13 ?a13 ?b13 ?c13 ?d13 ?y13 ?s13 ?r13
    case e13 => simp only [List.getElem?_toArray, List.getElem?_cons_zero, List.getElem?_cons_succ]; rfl
    case a13 => kernel_rfl
    case b13 => kernel_rfl
    case c13 => kernel_rfl
    case d13 => exact fun _ _ _ h => h
    case y13 => exact Or.inr ⟨by rfl, rfl⟩
    case s13 => assumption
    try simp only [Act.put, List.setIfInBounds_toArray, List.set_cons_zero, List.set_cons_succ]
    refine wpAnyH_ready (rs := [12]) (by kernel_rfl) (by simp) ?_
    refine AllReadyH.cons (o := ?o12) ?e12 ?k12 AllReadyH.nil
    case e12 => simp only [List.getElem?_toArray, List.getElem?_cons_zero, List.getElem?_cons_succ]; rfl
    intro K hK
    go_simp
    refine hK.out _ _ ?_ (fun hHeld => ?_)
    · (try dsimp only)
      with_reducible exact hk51'
    clear hK K
    try simp only [Act.put, List.setIfInBounds_toArray, List.set_cons_zero, List.set_cons_succ]
    refine wpAnyH_ready (rs := [14]) (by kernel_rfl) (by simp) ?_
    refine AllReadyH.cons (o := ?o14) ?e14 ?k14 AllReadyH.nil
    case e14 => simp only [List.getElem?_toArray, List.getElem?_cons_zero, List.getElem?_cons_succ]; rfl
    intro K hK
    go_simp
    refine hK.out _ _ ?_ (fun hHeld => ?_)
    · (try dsimp only)
      with_reducible exact hk51'
    clear hK K
    try simp only [Act.put, List.setIfInBounds_toArray, List.set_cons_zero, List.set_cons_succ]
    refine wpAnyH_take (i := 15) (v := ?v15) (oi := ?o15) ?e15 ?a15 ?b15 ?c15 ?d15 ?y15 ?s15 ?r15
    case e15 => simp only [List.getElem?_toArray, List.getElem?_cons_zero, List.getElem?_cons_succ]; rfl
    case a15 => kernel_rfl
    case b15 => kernel_rfl
    case c15 => kernel_rfl
    case d15 => exact fun _ _ _ h => h
    case y15 =>
      refine Or.inl ⟨by rfl, ?_⟩
      intro w hSw
      (try dsimp only at hSw)
      go_simp
      try with_reducible rfl
    case s15 => assumption
    try simp only [Act.put, List.setIfInBounds_toArray, List.set_cons_zero, List.set_cons_succ]
    refine wpAnyH_take (i := 16) (v := ?v16) (oi := ?o16) ?e16 ?a16 ?b16 ?c16 ?d16 ?y16 ?s16 ?r16
    case e16 => simp only [List.getElem?_toArray, List.getElem?_cons_zero, List.getElem?_cons_succ]; rfl
    case a16 => kernel_rfl
    case b16 => kernel_rfl
    case c16 => kernel_rfl
    case d16 => exact fun _ _ _ h => h
    case y16 =>
      refine Or.inl ⟨by rfl, ?_⟩
      intro w hSw
      (try dsimp only at hSw)
      go_simp
      try with_reducible rfl
    case s16 => assumption
    try simp only [Act.put, List.setIfInBounds_toArray, List.set_cons_zero, List.set_cons_succ]
    refine wpAnyH_take (i := 17) (v := ?v17) (oi := ?o17) ?e17 ?a17 ?b17 ?c17 ?d17 ?y17 ?s17 ?r17
    case e17 => simp only [List.getElem?_toArray, List.getElem?_cons_zero, List.getElem?_cons_succ]; rfl
    case a17 => kernel_rfl
    case b17 => kernel_rfl
    case c17 => kernel_rfl
    case d17 => exact fun _ _ _ h => h
    case y17 =>
      refine Or.inl ⟨by rfl, ?_⟩
      intro w hSw
      (try dsimp only at hSw)
      go_simp
      try with_reducible rfl
    case s17 => assumption
    try simp only [Act.put, List.setIfInBounds_toArray, List.set_cons_zero, List.set_cons_succ]
    refine wpAnyH_ready (rs := [18]) (by kernel_rfl) (by simp) ?_
    refine AllReadyH.cons (o := ?o18) ?e18 ?k18 AllReadyH.nil
    case e18 => simp only [List.getElem?_toArray, List.getElem?_cons_zero, List.getElem?_cons_succ]; rfl
    intro K hK
    go_simp
    go_at_call 11
    refine (known_any (cell_keep hMQ.out (below_eq hk51.2.1 HSZ.out)) (tab_keep hTQ.out (below_eq hk51.2.1 HSZ.out))).mono ?_
    rintro e w_52 ⟨rfl, hbl52⟩
    have hk52 := Held0.call hk51 (Nat.le_of_eq HSZ.out.symm) hbl52
    have hk52' := hk52
    unfold Held0 at hk52'
    refine hK.out _ _ ?_ (fun hHeld => ?_)
    · (try dsimp only)
      with_reducible exact hk52'
    clear hK K
    try simp only [Act.put, List.setIfInBounds_toArray, List.set_cons_zero, List.set_cons_succ]
    refine wpAnyH_take (i := 19) (v := ?v19) (oi := ?o19) ?e19 ?a19 ?b19 ?c19 ?d19 ?y19 ?s19 ?r19
    case e19 => simp only [List.getElem?_toArray, List.getElem?_cons_zero, List.getElem?_cons_succ]; rfl
    case a19 => kernel_rfl
    case b19 => kernel_rfl
    case c19 => kernel_rfl
    case d19 => exact fun _ _ _ h => h
    case y19 =>
      refine Or.inl ⟨by rfl, ?_⟩
      intro w hSw
      (try dsimp only at hSw)
      go_simp
      try with_reducible rfl
    case s19 => assumption
    try simp only [Act.put, List.setIfInBounds_toArray, List.set_cons_zero, List.set_cons_succ]
    refine wpAnyH_take (i := 20) (v := ?v20) (oi := ?o20) ?e20 ?a20 ?b20 ?c20 ?d20 ?y20 ?s20 ?r20
    case e20 => simp only [List.getElem?_toArray, List.getElem?_cons_zero, List.getElem?_cons_succ]; rfl
    case a20 => kernel_rfl
    case b20 => kernel_rfl
    case c20 => kernel_rfl
    case d20 => exact fun _ _ _ h => h
    case y20 =>
      refine Or.inl ⟨by rfl, ?_⟩
      intro w hSw
      (try dsimp only at hSw)
      go_simp
      try with_reducible rfl
    case s20 => assumption
    try simp only [Act.put, List.setIfInBounds_toArray, List.set_cons_zero, List.set_cons_succ]
    refine wpAnyH_done (by kernel_rfl) ?_ _
    have HE := Lib.hid (Below.step HBQ.out (below_eq hk52.2.1 HSZ.out))
    go_wp2_with fail
    go_ret
    exact ⟨rfl, HE.out⟩
  · have hd1 : cc = 0 := by rw [← hcc.out, if_neg hy0]
    have hd2 : (sy == 0) = false := by
      rw [beq_eq_false_iff_ne, ← hsy.out]
      exact fun e => hy0 (Rat.num_eq_zero.1 (Int.sign_eq_zero_iff_zero.1 e))
    have iB : Hid (dvy = x) := by show _ = _; rw [← e_dvy.out, ← e_dv.out, Rat.div_mul_cancel hy0]
    subst hd1
    replace hy0 := Lib.hid hy0
    go_wp2_with fail
    go_region_held3 (fun w' => (∀ b o, b < wD.heap.size + 1 → w'.cell? ⟨b, o, none⟩ = wQ.cell? ⟨b, o, none⟩) ∧ Below (wD.heap.size + 1) wQ w' ∧ Stay wQ w')
      (first | with_reducible exact H2' | with_reducible exact hk61' | with_reducible exact hk62' | with_reducible exact hk63' | with_reducible exact hk64')
      (first | (go_at_call 11; refine (known_any (cell_keep hMQ.out (below_eq hk63.2.1 HSZ.out)) (tab_keep hTQ.out (below_eq hk63.2.1 HSZ.out))).mono ?_; rintro e w_64 ⟨rfl, hbl64⟩; have hk64 := Held0.call hk63 (Nat.le_of_eq HSZ.out.symm) hbl64; have hk64' := hk64; unfold Held0 at hk64'; clear hk63 hk63') | (go_at_call 13; refine (equal_to hv62 (hk62.2.2.num hQx.out) iB.out z_dvy.out (tab_keep hTQ.out (below_eq hk62.2.1 HSZ.out))).mono ?_; rintro e w_63 ⟨rfl, hbl63⟩; have hk63 := Held0.call hk62 (Nat.le_of_eq HSZ.out.symm) hbl63; have hk63' := hk63; unfold Held0 at hk63'; clear hk62 hk62'; clear hv62 hbl61 hbl62 hbl63) | (go_at_call 15; refine (mul_val' e_dvy.out (hk61.2.2.num hQd.out) (hk61.2.2.num hQy.out) z_dv.out z_y.out).mono ?_; rintro e w_62 ⟨v62, rfl, hv62, hbl62⟩; obtain ⟨C123, j123, C124, j124, rfl, -, -⟩ := id hv62.opened; have hk62 := Held0.call hk61 (Nat.le_of_eq HSZ.out.symm) hbl62; have hk62' := hk62; unfold Held0 at hk62'; clear hk61 hk61') | (go_at_call 20; refine (sign_val hsy.out (H2.2.2.num hQy.out)).mono ?_; rintro e w_61 ⟨rfl, hbl61⟩; have hk61 := Held0.call H2 (Nat.le_of_eq HSZ.out.symm) hbl61; have hk61' := hk61; unfold Held0 at hk61'))
    rename_i hHl
    clear hHl H2 H2'
    have HE := Lib.hid (Below.step HBQ.out (below_eq hk64.2.1 HSZ.out))
    go_wp2_with fail
    go_ret
    exact ⟨rfl, HE.out⟩
end Go.Proofs.YtkihlhmdiidenaaGreatDoor
namespace Go.Proofs.YtkihlhmdiidenaaGreatDoor
open Go.RowKit
open Vx

set_option maxRecDepth 100000 in
set_option maxHeartbeats 8000000 in
theorem field_long {w : World} {sa sb sc : ByteArray} {mx : Int} (hlong : [sa, sb, sc].any (fun s => decide (120 < s.size)) = true) (hM : w.cell? ⟨1, 0, none⟩ = some (.int .i64 mx)) (hT : TabAt 0 Lib.deBruijn64tab w) :
    Calls Tryz.prog 3 #[.string sa, .string sb, .string sc] w (BoolRet w true) := by
  replace hM := Lib.hid hM
  replace hT := Lib.hid hT
  have HX := Lib.hid (long_three (w := w) hlong)
  clear hlong
  go_enter Tryz.func3, Tryz.ntmps3
  go_wp2_with fail
  obtain ⟨w1, hw1⟩ : ∃ u, u = w.alloc (.cells #[.string sa, .string sb, .string sc] 9) := ⟨_, rfl⟩
  have b1 : Hid (Below w.heap.size w w1) := by rw [hw1]; exact (Below.refl _ _).alloc (Nat.le_refl _) _
  rw [← hw1] at HX ⊢
  clear hw1
  refine (HX.out).mono ?_
  rintro e w9 ⟨rfl, rfl⟩
  clear HX
  have HX := Lib.hid (known_any (cell_keep hM.out b1.out) (tab_keep hT.out b1.out))
  go_wp2_with fail
  refine (HX.out).mono ?_
  rintro e w2 ⟨rfl, b2⟩
  have HE := Lib.hid (Below.step b1.out b2)
  clear HX b1 b2
  go_wp2_with fail
  go_ret
  exact ⟨rfl, HE.out⟩
theorem field_any {w : World} {sa sb sc : ByteArray} {mx : Int} (hM : w.cell? ⟨1, 0, none⟩ = some (.int .i64 mx)) (hT : TabAt 0 Lib.deBruijn64tab w) :
    Calls Tryz.prog 3 #[.string sa, .string sb, .string sc] w (BoolRet w true) := by
  rcases h : [sa, sb, sc].any (fun s => decide (120 < s.size)) with _ | _
  · exact field_short h hM hT
  · exact field_long h hM hT
end Go.Proofs.YtkihlhmdiidenaaGreatDoor
