/-
  Contracts of the functions that the law calls, for every input (OrA).
-/
import Derived.Test.YtlffafddmmhbmaaGreatDoorQ01
set_option linter.all false
namespace Go.Proofs.YtlffafddmmhbmaaGreatDoor
open Go.RowKit
open Vx
open Lib (hid)
open List renaming getElem?_toArray → lg, getElem?_cons_zero → lz, getElem?_cons_succ → ls, setIfInBounds_toArray → lt, set_cons_zero → ly, set_cons_succ → lu

set_option maxRecDepth 100000 in
set_option maxHeartbeats 40000000 in
theorem order_long {w : World} {sa sb sc : ByteArray} {mx : Int} (hlong : [sa, sb, sc].any (fun s => decide (120 < s.size)) = true) (hM : w.cell? ⟨1, 0, none⟩ = some (.int .i64 mx)) (hT : TabAt 0 Lib.deBruijn64tab w) :
    Calls Tryz.prog 4 #[.string sa, .string sb, .string sc] w (BoolRet w true) := by
  replace hM := hid hM
  replace hT := hid hT
  have HX := hid (long_three (w := w) hlong)
  clear hlong
  go_enter Tryz.func4, Tryz.ntmps4
  go_wp2_with fail
  obtain ⟨w1, hw1⟩ : ∃ u, u = w.alloc (.cells #[.string sa, .string sb, .string sc] 9) := ⟨_, rfl⟩
  have b1 : Hid (Below w.heap.size w w1) := by rw [hw1]; exact (Below.refl _ _).alloc (Nat.le_refl _) _
  rw [← hw1] at HX ⊢
  clear hw1
  refine (HX.out).mono ?_
  rintro e w9 ⟨rfl, rfl⟩
  clear HX
  have HX := hid (known_any (cell_keep hM.out b1.out) (tab_keep hT.out b1.out))
  go_wp2_with fail
  refine (HX.out).mono ?_
  rintro e w2 ⟨rfl, b2⟩
  replace b2 := hid b2
  clear HX
  have HE := hid (Below.step b1.out b2.out)
  go_wp2_with fail
  go_ret
  exact ⟨rfl, HE.out⟩

set_option maxRecDepth 100000 in
set_option maxHeartbeats 40000000 in
theorem order_short {w : World} {sa sb sc : ByteArray} {mx : Int} (hlong : [sa, sb, sc].any (fun s => decide (120 < s.size)) = false)  (hM : w.cell? ⟨1, 0, none⟩ = some (.int .i64 mx)) (hT : TabAt 0 Lib.deBruijn64tab w) :
    Calls Tryz.prog 4 #[.string sa, .string sb, .string sc] w (BoolRet w true) := by
  have hshort := hlong
  obtain ⟨x, e_x⟩ : ∃ v_ : Rat, (parseV sa).1 = v_ := ⟨_, rfl⟩
  obtain ⟨y, e_y⟩ : ∃ v_ : Rat, (parseV sb).1 = v_ := ⟨_, rfl⟩
  obtain ⟨z, e_z⟩ : ∃ v_ : Rat, (parseV sc).1 = v_ := ⟨_, rfl⟩
  simp only [List.any_cons, List.any_nil, Bool.or_false, Bool.or_eq_false_iff, decide_eq_false_iff_not] at hshort
  have hsx := text_short (q := x) (by rw [← e_x]; exact (parse_small (by omega)).1) (by rw [← e_x]; exact (parse_small (by omega)).2)
  clear hshort
  obtain ⟨tx, e_tx⟩ : ∃ z : ByteArray, (⟨(textQ x).toArray⟩ : ByteArray) = z := ⟨_, rfl⟩
  have zz_x : siz x ≤ 4100 := by rw [← e_x]; exact parse_siz _
  have zz_y : siz y ≤ 4100 := by rw [← e_y]; exact parse_siz _
  have zz_z : siz z ≤ 4100 := by rw [← e_z]; exact parse_siz _
  obtain ⟨k, e_k⟩ : ∃ v_ : Int, cmpQ x y = v_ := ⟨_, rfl⟩
  obtain ⟨k2, e_k2⟩ : ∃ v_ : Int, cmpQ y x = v_ := ⟨_, rfl⟩
  obtain ⟨c1, e_c1⟩ : ∃ v_ : Int, cmpQ y z = v_ := ⟨_, rfl⟩
  obtain ⟨c2, e_c2⟩ : ∃ v_ : Int, cmpQ x z = v_ := ⟨_, rfl⟩
  obtain ⟨sz, e_sz⟩ : ∃ v_ : Int, z.num.sign = v_ := ⟨_, rfl⟩
  obtain ⟨kz, e_kz⟩ : ∃ v_ : Int, k * sz = v_ := ⟨_, rfl⟩
  obtain ⟨n1, n2, n3, n4, n5, n6, n7, n8, n9⟩ := or_cmp x y z k k2 c1 c2 kz sz e_k e_k2 e_c1 e_c2 e_kz e_sz
  obtain ⟨dxy, e_dxy⟩ : ∃ v_ : Rat, x - y = v_ := ⟨_, rfl⟩
  obtain ⟨xz, e_xz⟩ : ∃ v_ : Rat, x + z = v_ := ⟨_, rfl⟩
  obtain ⟨yz, e_yz⟩ : ∃ v_ : Rat, y + z = v_ := ⟨_, rfl⟩
  obtain ⟨mxz, e_mxz⟩ : ∃ v_ : Rat, x * z = v_ := ⟨_, rfl⟩
  obtain ⟨myz, e_myz⟩ : ∃ v_ : Rat, y * z = v_ := ⟨_, rfl⟩
  rw [e_dxy] at n6
  rw [e_xz, e_yz] at n7
  rw [e_mxz, e_myz] at n8
  obtain ⟨fl, e_fl⟩ : ∃ v_ : Rat, flr x = v_ := ⟨_, rfl⟩
  obtain ⟨o1, e_o1⟩ : ∃ z : Rat, ((1 : Int) : Rat) = z := ⟨_, rfl⟩
  obtain ⟨fo, e_fo⟩ : ∃ v_ : Rat, fl + o1 = v_ := ⟨_, rfl⟩
  obtain ⟨c3, e_c3⟩ : ∃ v_ : Int, cmpQ fl x = v_ := ⟨_, rfl⟩
  obtain ⟨c4, e_c4⟩ : ∃ v_ : Int, cmpQ x fo = v_ := ⟨_, rfl⟩
  obtain ⟨m1, m2, m3⟩ := or_floor x fl fo c3 c4 e_fl (by rw [← e_fo, ← e_o1]; rfl) e_c3 e_c4
  obtain ⟨ab, e_ab⟩ : ∃ v_ : Rat, (x.num : Rat) = v_ := ⟨_, rfl⟩
  obtain ⟨be, e_be⟩ : ∃ v_ : Rat, ((x.den : Nat) : Rat) = v_ := ⟨_, rfl⟩
  obtain ⟨sb2, e_sb2⟩ : ∃ v_ : Int, be.num.sign = v_ := ⟨_, rfl⟩
  obtain ⟨f1, f2, f3, f4, f5⟩ := or_frac x ab be sb2 e_ab e_be e_sb2
  have z_x : Hid (siz x ≤ 536870912) := by show _ ≤ _; exact Nat.le_trans zz_x (by omega)
  have z_y : Hid (siz y ≤ 536870912) := by show _ ≤ _; exact Nat.le_trans zz_y (by omega)
  have z_z : Hid (siz z ≤ 536870912) := by show _ ≤ _; exact Nat.le_trans zz_z (by omega)
  have z_dxy : Hid (siz dxy ≤ 536870912) := by show _ ≤ _; rw [← e_dxy]; have i1 := siz_sub x y; omega
  have z_xz : Hid (siz xz ≤ 536870912) := by show _ ≤ _; rw [← e_xz]; have i1 := siz_add x z; omega
  have z_yz : Hid (siz yz ≤ 536870912) := by show _ ≤ _; rw [← e_yz]; have i1 := siz_add y z; omega
  have z_mxz : Hid (siz mxz ≤ 536870912) := by show _ ≤ _; rw [← e_mxz]; have i1 := siz_mul x z; omega
  have z_myz : Hid (siz myz ≤ 536870912) := by show _ ≤ _; rw [← e_myz]; have i1 := siz_mul y z; omega
  have zz_fl : siz fl ≤ 4100 := by rw [← e_fl]; exact Nat.le_trans (siz_flr x) zz_x
  have zz_o1 : siz o1 ≤ 3 := by rw [← e_o1]; decide +kernel
  have zz_ab : siz ab ≤ 4100 := Nat.le_trans (siz_int e_ab (siz_num x)) zz_x
  have zz_be : siz be ≤ 4100 := Nat.le_trans (siz_int (n := (x.den : Int)) e_be (siz_den x)) zz_x
  have z_fl : Hid (siz fl ≤ 536870912) := by show _ ≤ _; exact Nat.le_trans zz_fl (by omega)
  have z_o1 : Hid (siz o1 ≤ 536870912) := by show _ ≤ _; exact Nat.le_trans zz_o1 (by omega)
  have z_ab : Hid (siz ab ≤ 536870912) := by show _ ≤ _; exact Nat.le_trans zz_ab (by omega)
  have z_be : Hid (siz be ≤ 536870912) := by show _ ≤ _; exact Nat.le_trans zz_be (by omega)
  have z_fo : Hid (siz fo ≤ 536870912) := by show _ ≤ _; rw [← e_fo]; have i1 := siz_add fl o1; omega
  replace n1 := hid n1
  replace n2 := hid n2
  replace n3 := hid n3
  replace n4 := hid n4
  replace n5 := hid n5
  replace n6 := hid n6
  replace n7 := hid n7
  replace n8 := hid n8
  replace n9 := hid n9
  replace m1 := hid m1
  replace m2 := hid m2
  replace m3 := hid m3
  replace f1 := hid f1
  replace f2 := hid f2
  replace f3 := hid f3
  replace f4 := hid f4
  replace f5 := hid f5
  replace hsx := hid hsx
  replace zz_x := hid zz_x
  replace zz_y := hid zz_y
  replace zz_z := hid zz_z
  replace zz_fl := hid zz_fl
  replace zz_o1 := hid zz_o1
  replace zz_ab := hid zz_ab
  replace zz_be := hid zz_be
  replace e_x := hid e_x
  replace e_y := hid e_y
  replace e_z := hid e_z
  replace e_tx := hid e_tx
  replace e_k := hid e_k
  replace e_k2 := hid e_k2
  replace e_c1 := hid e_c1
  replace e_c2 := hid e_c2
  replace e_sz := hid e_sz
  replace e_kz := hid e_kz
  replace e_dxy := hid e_dxy
  replace e_xz := hid e_xz
  replace e_yz := hid e_yz
  replace e_mxz := hid e_mxz
  replace e_myz := hid e_myz
  replace e_fl := hid e_fl
  replace e_o1 := hid e_o1
  replace e_fo := hid e_fo
  replace e_c3 := hid e_c3
  replace e_c4 := hid e_c4
  replace e_ab := hid e_ab
  replace e_be := hid e_be
  replace e_sb2 := hid e_sb2
  replace hM := hid hM
  replace hT := hid hT
  have HX := hid (long_three (w := w) hlong)
  clear hlong
  go_enter Tryz.func4, Tryz.ntmps4
  go_wp2_with fail
  obtain ⟨w1, hw1⟩ : ∃ u, u = w.alloc (.cells #[.string sa, .string sb, .string sc] 9) := ⟨_, rfl⟩
  have b1 : Hid (Below w.heap.size w w1) := by rw [hw1]; exact (Below.refl _ _).alloc (Nat.le_refl _) _
  rw [← hw1] at HX ⊢
  clear hw1
  refine (HX.out).mono ?_
  rintro e w9 ⟨rfl, rfl⟩
  clear HX
  have HX := hid (number_val (cell_keep hM.out b1.out) e_x.out)
  go_wp2_with fail
  refine (HX.out).mono ?_
  rintro e w2 ⟨v2, rfl, hv2, b2⟩
  obtain ⟨C1, j1, C2, j2, rfl, -, -⟩ := id hv2.opened
  replace hv2 := hid hv2
  replace b2 := hid b2
  clear HX
  have HX := hid (number_val (cell_keep hM.out (Below.step b1.out b2.out)) e_y.out)
  go_wp2_with fail
  refine (HX.out).mono ?_
  rintro e w3 ⟨v3, rfl, hv3, b3⟩
  obtain ⟨C3, j3, C4, j4, rfl, -, -⟩ := id hv3.opened
  replace hv3 := hid hv3
  replace b3 := hid b3
  clear HX
  have HX := hid (number_val (cell_keep hM.out (Below.step (Below.step b1.out b2.out) b3.out)) e_z.out)
  go_wp2_with fail
  refine (HX.out).mono ?_
  rintro e w4 ⟨v4, rfl, hv4, b4⟩
  obtain ⟨C5, j5, C6, j6, rfl, -, -⟩ := id hv4.opened
  replace hv4 := hid hv4
  replace b4 := hid b4
  clear HX
  go_upto_region 4 with fail
  obtain ⟨w5, hw5⟩ : ∃ u, u = (((w4.alloc (.cells #[.bool (decide (x.num < 0)), .slice C1 (len x.num.natAbs) j1, .slice C2 (len (below x.den)) j2] 27)).alloc (.cells #[.bool (decide (y.num < 0)), .slice C3 (len y.num.natAbs) j3, .slice C4 (len (below y.den)) j4] 27)).alloc (.cells #[.bool (decide (z.num < 0)), .slice C5 (len z.num.natAbs) j5, .slice C6 (len (below z.den)) j6] 27)) := ⟨_, rfl⟩
  obtain ⟨b5, L5, M5, N5⟩ := news3 w4 (.cells #[.bool (decide (x.num < 0)), .slice C1 (len x.num.natAbs) j1, .slice C2 (len (below x.den)) j2] 27) (.cells #[.bool (decide (y.num < 0)), .slice C3 (len y.num.natAbs) j3, .slice C4 (len (below y.den)) j4] 27) (.cells #[.bool (decide (z.num < 0)), .slice C5 (len z.num.natAbs) j5, .slice C6 (len (below z.den)) j6] 27)
  rw [← hw5] at b5 L5 M5 N5 ⊢
  clear hw5
  replace b5 := hid b5
  replace L5 := hid L5
  replace M5 := hid M5
  replace N5 := hid N5
  have hRx5 := hid (hv2.out.keep (Below.step (Below.step b3.out b4.out) b5.out))
  have hRy5 := hid (hv3.out.keep (Below.step b4.out b5.out))
  have hRz5 := hid (hv4.out.keep b5.out)
  have HMB5 := hid (cell_keep hM.out (Below.step (Below.step (Below.step (Below.step b1.out b2.out) b3.out) b4.out) b5.out))
  have HTB5 := hid (tab_keep hT.out (Below.step (Below.step (Below.step (Below.step b1.out b2.out) b3.out) b4.out) b5.out))
  have HBB5 := hid (Below.step (Below.step (Below.step (Below.step b1.out b2.out) b3.out) b4.out) b5.out)
  clear hv2 hv3 hv4 hM hT b1 b2 b3 b4 b5
  have hg : w5.heap[w4.heap.size]? = some (.cells #[.bool (decide (x.num < 0)), .slice C1 (len x.num.natAbs) j1, .slice C2 (len (below x.den)) j2] 27 (0, 0)) := ((Below.refl _ w5).block _ (Array.getElem?_eq_some_iff.1 L5.out).1).trans L5.out
  obtain ⟨z_x_0, z_x_1, z_x_2⟩ := cells3 hg
  clear hg
  have hg : w5.heap[w4.heap.size + 1]? = some (.cells #[.bool (decide (y.num < 0)), .slice C3 (len y.num.natAbs) j3, .slice C4 (len (below y.den)) j4] 27 (0, 0)) := ((Below.refl _ w5).block _ (Array.getElem?_eq_some_iff.1 M5.out).1).trans M5.out
  obtain ⟨z_y_0, z_y_1, z_y_2⟩ := cells3 hg
  clear hg
  have HX := hid (cmp_val e_k.out hRx5.out hRy5.out z_x.out z_y.out)
  go_wp2_with fail
  refine (HX.out).mono ?_
  rintro e w6 ⟨rfl, b6⟩
  replace b6 := hid b6
  clear HX
  clear z_x_0 z_x_1 z_x_2 z_y_0 z_y_1 z_y_2
  go_upto_region 5 with fail
  rename_i G7 hG7 Gb hGb
  replace hG7 := hid hG7
  refine wp_letter ?_
  intro A7 hA7
  replace hA7 := hid hA7
  have rest7 : ∀ (u : World) (y36 y37 y38 y39 y40 y41 y42 y43 y44 y45 y46 y47 y48 y49 y50 y51 y52 y53 y54 y55 y56 y57 y58 y59 y60 y61 y62 y63 y64 y65 y66 y67 y68 y69 y70 y71 y72 y73 y74 y75 y76 y77 y78 y79 y80 y81 y82 y83 y84 y85 y86 y87 y88 y89 y90 y91 y92 y93 y94 y95 y96 y97 y98 : Value), Hid (Below w6.heap.size w6 u) → G7 (Act.put (Act.put (Act.put (Act.put (Act.put (Act.put (Act.put (Act.put (Act.put (Act.put (Act.put (Act.put (Act.put (Act.put (Act.put (Act.put (Act.put (Act.put (Act.put (Act.put (Act.put (Act.put (Act.put (Act.put (Act.put (Act.put (Act.put (Act.put (Act.put (Act.put (Act.put (Act.put (Act.put (Act.put (Act.put (Act.put (Act.put (Act.put (Act.put (Act.put (Act.put (Act.put (Act.put (Act.put (Act.put (Act.put (Act.put (Act.put (Act.put (Act.put (Act.put (Act.put (Act.put (Act.put (Act.put (Act.put (Act.put (Act.put (Act.put (Act.put (Act.put (Act.put (Act.put A7 (some 36) y36) (some 37) y37) (some 38) y38) (some 39) y39) (some 40) y40) (some 41) y41) (some 42) y42) (some 43) y43) (some 44) y44) (some 45) y45) (some 46) y46) (some 47) y47) (some 48) y48) (some 49) y49) (some 50) y50) (some 51) y51) (some 52) y52) (some 53) y53) (some 54) y54) (some 55) y55) (some 56) y56) (some 57) y57) (some 58) y58) (some 59) y59) (some 60) y60) (some 61) y61) (some 62) y62) (some 63) y63) (some 64) y64) (some 65) y65) (some 66) y66) (some 67) y67) (some 68) y68) (some 69) y69) (some 70) y70) (some 71) y71) (some 72) y72) (some 73) y73) (some 74) y74) (some 75) y75) (some 76) y76) (some 77) y77) (some 78) y78) (some 79) y79) (some 80) y80) (some 81) y81) (some 82) y82) (some 83) y83) (some 84) y84) (some 85) y85) (some 86) y86) (some 87) y87) (some 88) y88) (some 89) y89) (some 90) y90) (some 91) y91) (some 92) y92) (some 93) y93) (some 94) y94) (some 95) y95) (some 96) y96) (some 97) y97) (some 98) y98) u := by
   as_aux_lemma =>
    intro u y36 y37 y38 y39 y40 y41 y42 y43 y44 y45 y46 y47 y48 y49 y50 y51 y52 y53 y54 y55 y56 y57 y58 y59 y60 y61 y62 y63 y64 y65 y66 y67 y68 y69 y70 y71 y72 y73 y74 y75 y76 y77 y78 y79 y80 y81 y82 y83 y84 y85 y86 y87 y88 y89 y90 y91 y92 y93 y94 y95 y96 y97 y98 hbu
    refine hG7.out _ _ ?_
    rw [← hA7.out]
    simp only [Act.put, lt, ly, lu]
    clear hG7 hA7 Gb hGb
    obtain ⟨w7, hwq⟩ : ∃ z, z = u := ⟨_, rfl⟩
    rw [← hwq] at hbu ⊢
    clear hwq
    have b7 := hbu
    clear hbu
    have hRx7 := hid (hRx5.out.keep (Below.step b6.out b7.out))
    have hRy7 := hid (hRy5.out.keep (Below.step b6.out b7.out))
    have hRz7 := hid (hRz5.out.keep (Below.step b6.out b7.out))
    have LRx7 : Hid (w7.heap[w4.heap.size]? = some (.cells #[.bool (decide (x.num < 0)), .slice C1 (len x.num.natAbs) j1, .slice C2 (len (below x.den)) j2] 27 (0, 0))) := ((Below.step b6.out b7.out).block _ (Array.getElem?_eq_some_iff.1 L5.out).1).trans L5.out
    have LRy7 : Hid (w7.heap[w4.heap.size + 1]? = some (.cells #[.bool (decide (y.num < 0)), .slice C3 (len y.num.natAbs) j3, .slice C4 (len (below y.den)) j4] 27 (0, 0))) := ((Below.step b6.out b7.out).block _ (Array.getElem?_eq_some_iff.1 M5.out).1).trans M5.out
    have LRz7 : Hid (w7.heap[w4.heap.size + 2]? = some (.cells #[.bool (decide (z.num < 0)), .slice C5 (len z.num.natAbs) j5, .slice C6 (len (below z.den)) j6] 27 (0, 0))) := ((Below.step b6.out b7.out).block _ (Array.getElem?_eq_some_iff.1 N5.out).1).trans N5.out
    have HMB7 := hid (cell_keep HMB5.out (Below.step b6.out b7.out))
    have HTB7 := hid (tab_keep HTB5.out (Below.step b6.out b7.out))
    have HBB7 := hid (Below.step HBB5.out (Below.step b6.out b7.out))
    clear hRx5 hRy5 hRz5 L5 M5 N5 HMB5 HTB5 HBB5 b6 b7
    clear n1 n2 n3 n4 n5 n6 n7 n8 n9 e_k e_k2 e_c1 e_c2 e_kz e_dxy e_xz e_yz e_mxz e_myz z_dxy z_xz z_yz z_mxz z_myz
    have hg : w7.heap[w4.heap.size]? = some (.cells #[.bool (decide (x.num < 0)), .slice C1 (len x.num.natAbs) j1, .slice C2 (len (below x.den)) j2] 27 (0, 0)) := ((Below.refl _ w7).block _ (Array.getElem?_eq_some_iff.1 LRx7.out).1).trans LRx7.out
    obtain ⟨z_x_0, z_x_1, z_x_2⟩ := cells3 hg
    clear hg
    have HX := hid (floor_val e_fl.out hRx7.out z_x.out)
    go_wp2_with fail
    refine (HX.out).mono ?_
    rintro e w8 ⟨v8, rfl, hv8, b8⟩
    obtain ⟨C7, j7, C8, j8, rfl, -, -⟩ := id hv8.opened
    replace hv8 := hid hv8
    replace b8 := hid b8
    clear HX
    clear z_x_0 z_x_1 z_x_2
    go_upto_region 8 with fail
    obtain ⟨w9, hw9⟩ : ∃ u, u = w8.alloc (.cells #[.bool (decide (fl.num < 0)), .slice C7 (len fl.num.natAbs) j7, .slice C8 (len (below fl.den)) j8] 27) := ⟨_, rfl⟩
    have b9 : Hid (Below w8.heap.size w8 w9) := by rw [hw9]; exact (Below.refl _ _).alloc (Nat.le_refl _) _
    have L9 : Hid (w9.heap[w8.heap.size]? = some (.cells #[.bool (decide (fl.num < 0)), .slice C7 (len fl.num.natAbs) j7, .slice C8 (len (below fl.den)) j8] 27 (0, 0))) := by rw [hw9]; exact heap_alloc_new w8 _
    rw [← hw9]
    clear hw9
    have hRx9 := hid (hRx7.out.keep (Below.step b8.out b9.out))
    have hRy9 := hid (hRy7.out.keep (Below.step b8.out b9.out))
    have hRz9 := hid (hRz7.out.keep (Below.step b8.out b9.out))
    have hRfl9 := hid (hv8.out.keep b9.out)
    have LRx9 : Hid (w9.heap[w4.heap.size]? = some (.cells #[.bool (decide (x.num < 0)), .slice C1 (len x.num.natAbs) j1, .slice C2 (len (below x.den)) j2] 27 (0, 0))) := ((Below.step b8.out b9.out).block _ (Array.getElem?_eq_some_iff.1 LRx7.out).1).trans LRx7.out
    have LRy9 : Hid (w9.heap[w4.heap.size + 1]? = some (.cells #[.bool (decide (y.num < 0)), .slice C3 (len y.num.natAbs) j3, .slice C4 (len (below y.den)) j4] 27 (0, 0))) := ((Below.step b8.out b9.out).block _ (Array.getElem?_eq_some_iff.1 LRy7.out).1).trans LRy7.out
    have LRz9 : Hid (w9.heap[w4.heap.size + 2]? = some (.cells #[.bool (decide (z.num < 0)), .slice C5 (len z.num.natAbs) j5, .slice C6 (len (below z.den)) j6] 27 (0, 0))) := ((Below.step b8.out b9.out).block _ (Array.getElem?_eq_some_iff.1 LRz7.out).1).trans LRz7.out
    have HMB9 := hid (cell_keep HMB7.out (Below.step b8.out b9.out))
    have HTB9 := hid (tab_keep HTB7.out (Below.step b8.out b9.out))
    have HBB9 := hid (Below.step HBB7.out (Below.step b8.out b9.out))
    clear hRx7 hRy7 hRz7 hv8 LRx7 LRy7 LRz7 HMB7 HTB7 HBB7 b8 b9
    have v1 := m1.out
    have v2 := m2.out
    go_wp2_with fail
    obtain ⟨NN8, hNN⟩ : ∃ n : Nat, w9.heap.size = n := ⟨_, rfl⟩
    have HSZ8 : Hid (w9.heap.size = NN8) := hNN
    have hg : w9.heap[w4.heap.size]? = some (.cells #[.bool (decide (x.num < 0)), .slice C1 (len x.num.natAbs) j1, .slice C2 (len (below x.den)) j2] 27 (0, 0)) := ((Below.refl _ w9).block _ (Array.getElem?_eq_some_iff.1 LRx9.out).1).trans LRx9.out
    obtain ⟨z_x_0, z_x_1, z_x_2⟩ := cells3 hg
    clear hg
    have hlt8_x : w4.heap.size < NN8 := Nat.lt_of_lt_of_eq (World.block_lt_of_cell? _ _ z_x_0) hNN
    have hg : w9.heap[w8.heap.size]? = some (.cells #[.bool (decide (fl.num < 0)), .slice C7 (len fl.num.natAbs) j7, .slice C8 (len (below fl.den)) j8] 27 (0, 0)) := ((Below.refl _ w9).block _ (Array.getElem?_eq_some_iff.1 L9.out).1).trans L9.out
    obtain ⟨z_fl_0, z_fl_1, z_fl_2⟩ := cells3 hg
    clear hg
    have hlt8_fl : w8.heap.size < NN8 := Nat.lt_of_lt_of_eq (World.block_lt_of_cell? _ _ z_fl_0) hNN
    have H0 := Held0.start w9 NN8
    have H0' := H0
    unfold Held0 at H0'
    refine wp_region_held_drew (S := (fun w' => (∀ b o, b < NN8 → w'.cell? ⟨b, o, none⟩ = w9.cell? ⟨b, o, none⟩) ∧ Below (NN8) w9 w' ∧ Stay w9 w')) (by kernel_rfl) ?_ (fun hHeld => ?_)
    · (try dsimp only)
      exact H0'
    obtain ⟨w10, hw10⟩ : ∃ u, u = w9.drew := ⟨_, rfl⟩
    have b10 : Hid (Below w9.heap.size w9 w10) := by rw [hw10]; exact ⟨rfl, rfl, rfl, Nat.le_refl _, fun _ _ => rfl⟩
    rw [← hw10] at hHeld H0 ⊢
    clear hw10 H0' hNN
    as_aux_lemma =>
     refine tk (i := 0) (h := ?_)
     try simp only [Act.put, lt, ly, lu]
     refine tk (i := 1) (h := ?_)
     try simp only [Act.put, lt, ly, lu]
     refine wpAnyH_ready (rs := [2]) (by kernel_rfl) (by simp) (AllReadyH.cons (o := ?oq3) ?eq3 ?kq3 AllReadyH.nil)
     case eq3 => simp only [lg, lz, ls]; rfl
     intro K hK; go_simp; go_at_call 21
     refine (cmp_val e_c3.out (hRfl9.out.keep b10.out) (hRx9.out.keep b10.out) z_fl.out z_x.out).mono ?_
     rintro e w11 ⟨rfl, b11⟩
     replace b11 := hid b11; have hk11 := hcall H0 HSZ8 b11.out; have hk11' := hk11; unfold Held0 at hk11'; clear hHeld H0
     refine hK.out _ _ ?_ (fun hHeld => ?_)
     · (try dsimp only); with_reducible exact hk11'
     clear hK K hk11'; try simp only [Act.put, lt, ly, lu]
     refine tk (i := 3) (h := ?_)
     try simp only [Act.put, lt, ly, lu]
     refine tk (i := 4) (h := ?_)
     try simp only [Act.put, lt, ly, lu]
     refine tk (i := 5) (h := ?_)
     try simp only [Act.put, lt, ly, lu]
     refine tk (i := 6) (h := ?_)
     try simp only [Act.put, lt, ly, lu]
     refine wpAnyH_ready (rs := [7]) (by kernel_rfl) (by simp) (AllReadyH.cons (o := ?oq8) ?eq8 ?kq8 AllReadyH.nil)
     case eq8 => simp only [lg, lz, ls]; rfl
     intro K hK; go_simp; go_at_call 18
     refine (whole_val (by omega) (by omega) e_o1.out).mono ?_
     rintro e w12 ⟨v12, rfl, hv12, b12⟩
     obtain ⟨C9, j9, C10, j10, rfl, -, -⟩ := id hv12.opened; replace hv12 := hid hv12
     replace b12 := hid b12; have hk12 := hcall hk11 HSZ8 b12.out; have hk12' := hk12; unfold Held0 at hk12'; clear hHeld hk11
     refine hK.out _ _ ?_ (fun hHeld => ?_)
     · (try dsimp only); with_reducible exact hk12'
     clear hK K hk12'; try simp only [Act.put, lt, ly, lu]
     refine wpAnyH_ready (rs := [8]) (by kernel_rfl) (by simp) (AllReadyH.cons (o := ?oq9) ?eq9 ?kq9 AllReadyH.nil)
     case eq9 => simp only [lg, lz, ls]; rfl
     intro K hK; go_simp; go_at_call 14
     refine (add_val e_fo.out (hRfl9.out.keep (Below.step (Below.step b10.out b11.out) b12.out)) hv12.out z_fl.out z_o1.out).mono ?_
     rintro e w13 ⟨v13, rfl, hv13, b13⟩
     obtain ⟨C11, j11, C12, j12, rfl, -, -⟩ := id hv13.opened; replace hv13 := hid hv13
     replace b13 := hid b13; have hk13 := hcall hk12 HSZ8 b13.out; have hk13' := hk13; unfold Held0 at hk13'; clear hHeld hk12
     refine hK.out _ _ ?_ (fun hHeld => ?_)
     · (try dsimp only); with_reducible exact hk13'
     clear hK K hk13'; try simp only [Act.put, lt, ly, lu]
     refine wpAnyH_ready (rs := [9]) (by kernel_rfl) (by simp) (AllReadyH.cons (o := ?oq10) ?eq10 ?kq10 AllReadyH.nil)
     case eq10 => simp only [lg, lz, ls]; rfl
     intro K hK; go_simp; go_at_call 21
     refine (cmp_val e_c4.out (hRx9.out.keep (Below.step (Below.step (Below.step b10.out b11.out) b12.out) b13.out)) hv13.out z_x.out z_fo.out).mono ?_
     rintro e w14 ⟨rfl, b14⟩
     replace b14 := hid b14; have hk14 := hcall hk13 HSZ8 b14.out; have hk14' := hk14; unfold Held0 at hk14'; clear hHeld hk13
     refine hK.out _ _ ?_ (fun hHeld => ?_)
     · (try dsimp only); with_reducible exact hk14'
     clear hK K hk14'; try simp only [Act.put, lt, ly, lu]
     refine tk (i := 10) (h := ?_)
     try simp only [Act.put, lt, ly, lu]
     refine tk (i := 11) (h := ?_)
     try simp only [Act.put, lt, ly, lu]
     as_aux_lemma =>
      refine tk (i := 12) (h := ?_)
      try simp only [Act.put, lt, ly, lu]
      refine tk (i := 13) (h := ?_)
      try simp only [Act.put, lt, ly, lu]
      refine tk (i := 15) (h := ?_)
      try simp only [Act.put, lt, ly, lu]
      refine wpAnyH_ready (rs := [14]) (by kernel_rfl) (by simp) (AllReadyH.cons (o := ?oq16) ?eq16 ?kq16 AllReadyH.nil)
      case eq16 => simp only [lg, lz, ls]; rfl
      intro K hK; go_simp; go_at_call 22
      refine (floor_val m3.out (hRfl9.out.keep (Below.step (Below.step (Below.step (Below.step b10.out b11.out) b12.out) b13.out) b14.out)) z_fl.out).mono ?_
      rintro e w15 ⟨v15, rfl, hv15, b15⟩
      obtain ⟨C13, j13, C14, j14, rfl, -, -⟩ := id hv15.opened; replace hv15 := hid hv15
      replace b15 := hid b15; have hk15 := hcall hk14 HSZ8 b15.out; have hk15' := hk15; unfold Held0 at hk15'; clear hHeld hk14
      refine hK.out _ _ ?_ (fun hHeld => ?_)
      · (try dsimp only); with_reducible exact hk15'
      clear hK K hk15'; try simp only [Act.put, lt, ly, lu]
      refine wpAnyH_ready (rs := [16]) (by kernel_rfl) (by simp) (AllReadyH.cons (o := ?oq17) ?eq17 ?kq17 AllReadyH.nil)
      case eq17 => simp only [lg, lz, ls]; rfl
      intro K hK; go_simp; go_at_call 13
      refine (equal_to hv15.out (hRfl9.out.keep (Below.step (Below.step (Below.step (Below.step (Below.step b10.out b11.out) b12.out) b13.out) b14.out) b15.out)) rfl z_fl.out (tab_keep HTB9.out (Below.step (Below.step (Below.step (Below.step (Below.step b10.out b11.out) b12.out) b13.out) b14.out) b15.out))).mono ?_
      rintro e w16 ⟨rfl, b16⟩
      replace b16 := hid b16; have hk16 := hcall hk15 HSZ8 b16.out; have hk16' := hk16; unfold Held0 at hk16'; clear hHeld hk15
      refine hK.out _ _ ?_ (fun hHeld => ?_)
      · (try dsimp only); with_reducible exact hk16'
      clear hK K hk16'; try simp only [Act.put, lt, ly, lu]
      refine tk (i := 17) (h := ?_)
      try simp only [Act.put, lt, ly, lu]
      refine tk (i := 18) (h := ?_)
      try simp only [Act.put, lt, ly, lu]
      refine wpAnyH_done (by kernel_rfl) ?_ _
      clear hHeld
      clear z_x_0 z_x_1 z_x_2 z_fl_0 z_fl_1 z_fl_2 hlt8_x hlt8_fl
      clear hk16 HSZ8 v1 v2
      have hRx16 := hid (hRx9.out.keep (Below.step (Below.step (Below.step (Below.step (Below.step (Below.step b10.out b11.out) b12.out) b13.out) b14.out) b15.out) b16.out))
      have hRy16 := hid (hRy9.out.keep (Below.step (Below.step (Below.step (Below.step (Below.step (Below.step b10.out b11.out) b12.out) b13.out) b14.out) b15.out) b16.out))
      have hRz16 := hid (hRz9.out.keep (Below.step (Below.step (Below.step (Below.step (Below.step (Below.step b10.out b11.out) b12.out) b13.out) b14.out) b15.out) b16.out))
      have LRx16 : Hid (w16.heap[w4.heap.size]? = some (.cells #[.bool (decide (x.num < 0)), .slice C1 (len x.num.natAbs) j1, .slice C2 (len (below x.den)) j2] 27 (0, 0))) := ((Below.step (Below.step (Below.step (Below.step (Below.step (Below.step b10.out b11.out) b12.out) b13.out) b14.out) b15.out) b16.out).block _ (Array.getElem?_eq_some_iff.1 LRx9.out).1).trans LRx9.out
      have LRy16 : Hid (w16.heap[w4.heap.size + 1]? = some (.cells #[.bool (decide (y.num < 0)), .slice C3 (len y.num.natAbs) j3, .slice C4 (len (below y.den)) j4] 27 (0, 0))) := ((Below.step (Below.step (Below.step (Below.step (Below.step (Below.step b10.out b11.out) b12.out) b13.out) b14.out) b15.out) b16.out).block _ (Array.getElem?_eq_some_iff.1 LRy9.out).1).trans LRy9.out
      have LRz16 : Hid (w16.heap[w4.heap.size + 2]? = some (.cells #[.bool (decide (z.num < 0)), .slice C5 (len z.num.natAbs) j5, .slice C6 (len (below z.den)) j6] 27 (0, 0))) := ((Below.step (Below.step (Below.step (Below.step (Below.step (Below.step b10.out b11.out) b12.out) b13.out) b14.out) b15.out) b16.out).block _ (Array.getElem?_eq_some_iff.1 LRz9.out).1).trans LRz9.out
      have HMB16 := hid (cell_keep HMB9.out (Below.step (Below.step (Below.step (Below.step (Below.step (Below.step b10.out b11.out) b12.out) b13.out) b14.out) b15.out) b16.out))
      have HTB16 := hid (tab_keep HTB9.out (Below.step (Below.step (Below.step (Below.step (Below.step (Below.step b10.out b11.out) b12.out) b13.out) b14.out) b15.out) b16.out))
      have HBB16 := hid (Below.step HBB9.out (Below.step (Below.step (Below.step (Below.step (Below.step (Below.step b10.out b11.out) b12.out) b13.out) b14.out) b15.out) b16.out))
      clear hRx9 hRy9 hRz9 LRx9 LRy9 LRz9 HMB9 HTB9 HBB9 b10 b11 b12 b13 b14 b15 b16
      clear m1 m2 m3 e_fl e_o1 e_fo e_c3 e_c4 z_fl z_o1 z_fo
      have hg : w16.heap[w4.heap.size]? = some (.cells #[.bool (decide (x.num < 0)), .slice C1 (len x.num.natAbs) j1, .slice C2 (len (below x.den)) j2] 27 (0, 0)) := ((Below.refl _ w16).block _ (Array.getElem?_eq_some_iff.1 LRx16.out).1).trans LRx16.out
      obtain ⟨z_x_0, z_x_1, z_x_2⟩ := cells3 hg
      clear hg
      have HX := hid (fracs_val e_ab.out e_be.out hRx16.out z_x.out)
      go_wp2_with fail
      refine (HX.out).mono ?_
      rintro e w17 ⟨va17, vb17, rfl, ha17, hb17, b17⟩
      obtain ⟨C15, j15, C16, j16, rfl, -, -⟩ := id ha17.opened
      replace ha17 := hid ha17
      obtain ⟨C17, j17, C18, j18, rfl, -, -⟩ := id hb17.opened
      replace hb17 := hid hb17
      replace b17 := hid b17
      clear HX
      clear z_x_0 z_x_1 z_x_2
      go_upto_region 11 with fail
      obtain ⟨w18, hw18⟩ : ∃ u, u = (w17.alloc (.cells #[.bool (decide (ab.num < 0)), .slice C15 (len ab.num.natAbs) j15, .slice C16 (len (below ab.den)) j16] 27)).alloc (.cells #[.bool (decide (be.num < 0)), .slice C17 (len be.num.natAbs) j17, .slice C18 (len (below be.den)) j18] 27) := ⟨_, rfl⟩
      obtain ⟨b18, L18, M18⟩ := news2 w17 (.cells #[.bool (decide (ab.num < 0)), .slice C15 (len ab.num.natAbs) j15, .slice C16 (len (below ab.den)) j16] 27) (.cells #[.bool (decide (be.num < 0)), .slice C17 (len be.num.natAbs) j17, .slice C18 (len (below be.den)) j18] 27)
      rw [← hw18] at b18 L18 M18 ⊢
      clear hw18
      replace b18 := hid b18
      replace L18 := hid L18
      replace M18 := hid M18
      have hg : w18.heap[w17.heap.size]? = some (.cells #[.bool (decide (ab.num < 0)), .slice C15 (len ab.num.natAbs) j15, .slice C16 (len (below ab.den)) j16] 27 (0, 0)) := ((Below.refl _ w18).block _ (Array.getElem?_eq_some_iff.1 L18.out).1).trans L18.out
      obtain ⟨z_ab_0, z_ab_1, z_ab_2⟩ := cells3 hg
      clear hg
      have hg : w18.heap[w17.heap.size + 1]? = some (.cells #[.bool (decide (be.num < 0)), .slice C17 (len be.num.natAbs) j17, .slice C18 (len (below be.den)) j18] 27 (0, 0)) := ((Below.refl _ w18).block _ (Array.getElem?_eq_some_iff.1 M18.out).1).trans M18.out
      obtain ⟨z_be_0, z_be_1, z_be_2⟩ := cells3 hg
      clear hg
      have HX := hid (div_val f1.out f2.out (ha17.out.keep b18.out) (hb17.out.keep b18.out) z_ab.out z_be.out)
      go_wp2_with fail
      refine (HX.out).mono ?_
      rintro e w19 ⟨v19, rfl, hv19, b19⟩
      obtain ⟨C19, j19, C20, j20, rfl, -, -⟩ := id hv19.opened
      replace hv19 := hid hv19
      replace b19 := hid b19
      clear HX
      clear z_ab_0 z_ab_1 z_ab_2 z_be_0 z_be_1 z_be_2
      go_upto_region 12 with fail
      obtain ⟨w20, hw20⟩ : ∃ u, u = w19.alloc (.cells #[.bool (decide (x.num < 0)), .slice C19 (len x.num.natAbs) j19, .slice C20 (len (below x.den)) j20] 27) := ⟨_, rfl⟩
      have b20 : Hid (Below w19.heap.size w19 w20) := by rw [hw20]; exact (Below.refl _ _).alloc (Nat.le_refl _) _
      have L20 : Hid (w20.heap[w19.heap.size]? = some (.cells #[.bool (decide (x.num < 0)), .slice C19 (len x.num.natAbs) j19, .slice C20 (len (below x.den)) j20] 27 (0, 0))) := by rw [hw20]; exact heap_alloc_new w19 _
      rw [← hw20]
      clear hw20
      have hg : w20.heap[w4.heap.size]? = some (.cells #[.bool (decide (x.num < 0)), .slice C1 (len x.num.natAbs) j1, .slice C2 (len (below x.den)) j2] 27 (0, 0)) := ((Below.step (Below.step (Below.step b17.out b18.out) b19.out) b20.out).block _ (Array.getElem?_eq_some_iff.1 LRx16.out).1).trans LRx16.out
      obtain ⟨z_x_0, z_x_1, z_x_2⟩ := cells3 hg
      clear hg
      have HX := hid (str_val e_tx.out (hRx16.out.keep (Below.step (Below.step (Below.step b17.out b18.out) b19.out) b20.out)) z_x.out (tab_keep HTB16.out (Below.step (Below.step (Below.step b17.out b18.out) b19.out) b20.out)))
      go_wp2_with fail
      refine (HX.out).mono ?_
      rintro e w21 ⟨rfl, b21⟩
      replace b21 := hid b21
      clear HX
      clear z_x_0 z_x_1 z_x_2
      have HX := hid (parse_back e_tx.out hsx.out (cell_keep HMB16.out (Below.step (Below.step (Below.step (Below.step b17.out b18.out) b19.out) b20.out) b21.out)))
      go_wp2_with fail
      refine (HX.out).mono ?_
      rintro e w22 ⟨v22, rfl, hv22, b22⟩
      obtain ⟨C21, j21, C22, j22, rfl, -, -⟩ := id hv22.opened
      replace hv22 := hid hv22
      replace b22 := hid b22
      clear HX
      go_upto_region 13 with fail
      obtain ⟨w23, hw23⟩ : ∃ u, u = w22.alloc (.cells #[.bool (decide (x.num < 0)), .slice C21 (len x.num.natAbs) j21, .slice C22 (len (below x.den)) j22] 27) := ⟨_, rfl⟩
      have b23 : Hid (Below w22.heap.size w22 w23) := by rw [hw23]; exact (Below.refl _ _).alloc (Nat.le_refl _) _
      have L23 : Hid (w23.heap[w22.heap.size]? = some (.cells #[.bool (decide (x.num < 0)), .slice C21 (len x.num.natAbs) j21, .slice C22 (len (below x.den)) j22] 27 (0, 0))) := by rw [hw23]; exact heap_alloc_new w22 _
      rw [← hw23]
      clear hw23
      have hRx23 := hid (hRx16.out.keep (Below.step (Below.step (Below.step (Below.step (Below.step (Below.step b17.out b18.out) b19.out) b20.out) b21.out) b22.out) b23.out))
      have hRz23 := hid (hRz16.out.keep (Below.step (Below.step (Below.step (Below.step (Below.step (Below.step b17.out b18.out) b19.out) b20.out) b21.out) b22.out) b23.out))
      have hRab23 := hid (ha17.out.keep (Below.step (Below.step (Below.step (Below.step (Below.step b18.out b19.out) b20.out) b21.out) b22.out) b23.out))
      have hRbe23 := hid (hb17.out.keep (Below.step (Below.step (Below.step (Below.step (Below.step b18.out b19.out) b20.out) b21.out) b22.out) b23.out))
      have hRback23 := hid (hv19.out.keep (Below.step (Below.step (Below.step b20.out b21.out) b22.out) b23.out))
      have hRagain23 := hid (hv22.out.keep b23.out)
      have LRx23 : Hid (w23.heap[w4.heap.size]? = some (.cells #[.bool (decide (x.num < 0)), .slice C1 (len x.num.natAbs) j1, .slice C2 (len (below x.den)) j2] 27 (0, 0))) := ((Below.step (Below.step (Below.step (Below.step (Below.step (Below.step b17.out b18.out) b19.out) b20.out) b21.out) b22.out) b23.out).block _ (Array.getElem?_eq_some_iff.1 LRx16.out).1).trans LRx16.out
      have LRz23 : Hid (w23.heap[w4.heap.size + 2]? = some (.cells #[.bool (decide (z.num < 0)), .slice C5 (len z.num.natAbs) j5, .slice C6 (len (below z.den)) j6] 27 (0, 0))) := ((Below.step (Below.step (Below.step (Below.step (Below.step (Below.step b17.out b18.out) b19.out) b20.out) b21.out) b22.out) b23.out).block _ (Array.getElem?_eq_some_iff.1 LRz16.out).1).trans LRz16.out
      have LRab23 : Hid (w23.heap[w17.heap.size]? = some (.cells #[.bool (decide (ab.num < 0)), .slice C15 (len ab.num.natAbs) j15, .slice C16 (len (below ab.den)) j16] 27 (0, 0))) := ((Below.step (Below.step (Below.step (Below.step b19.out b20.out) b21.out) b22.out) b23.out).block _ (Array.getElem?_eq_some_iff.1 L18.out).1).trans L18.out
      have LRbe23 : Hid (w23.heap[w17.heap.size + 1]? = some (.cells #[.bool (decide (be.num < 0)), .slice C17 (len be.num.natAbs) j17, .slice C18 (len (below be.den)) j18] 27 (0, 0))) := ((Below.step (Below.step (Below.step (Below.step b19.out b20.out) b21.out) b22.out) b23.out).block _ (Array.getElem?_eq_some_iff.1 M18.out).1).trans M18.out
      have LRback23 : Hid (w23.heap[w19.heap.size]? = some (.cells #[.bool (decide (x.num < 0)), .slice C19 (len x.num.natAbs) j19, .slice C20 (len (below x.den)) j20] 27 (0, 0))) := ((Below.step (Below.step b21.out b22.out) b23.out).block _ (Array.getElem?_eq_some_iff.1 L20.out).1).trans L20.out
      have HMB23 := hid (cell_keep HMB16.out (Below.step (Below.step (Below.step (Below.step (Below.step (Below.step b17.out b18.out) b19.out) b20.out) b21.out) b22.out) b23.out))
      have HTB23 := hid (tab_keep HTB16.out (Below.step (Below.step (Below.step (Below.step (Below.step (Below.step b17.out b18.out) b19.out) b20.out) b21.out) b22.out) b23.out))
      have HBB23 := hid (Below.step HBB16.out (Below.step (Below.step (Below.step (Below.step (Below.step (Below.step b17.out b18.out) b19.out) b20.out) b21.out) b22.out) b23.out))
      clear hRx16 hRz16 ha17 hb17 hv19 hv22 LRx16 LRz16 L18 M18 L20 HMB16 HTB16 HBB16 b17 b18 b19 b20 b21 b22 b23
      have v1 := f3.out
      go_wp2_with fail
      obtain ⟨NN13, hNN⟩ : ∃ n : Nat, w23.heap.size = n := ⟨_, rfl⟩
      have HSZ13 : Hid (w23.heap.size = NN13) := hNN
      have hg : w23.heap[w4.heap.size]? = some (.cells #[.bool (decide (x.num < 0)), .slice C1 (len x.num.natAbs) j1, .slice C2 (len (below x.den)) j2] 27 (0, 0)) := ((Below.refl _ w23).block _ (Array.getElem?_eq_some_iff.1 LRx23.out).1).trans LRx23.out
      obtain ⟨z_x_0, z_x_1, z_x_2⟩ := cells3 hg
      clear hg
      have hlt13_x : w4.heap.size < NN13 := Nat.lt_of_lt_of_eq (World.block_lt_of_cell? _ _ z_x_0) hNN
      have hg : w23.heap[w17.heap.size]? = some (.cells #[.bool (decide (ab.num < 0)), .slice C15 (len ab.num.natAbs) j15, .slice C16 (len (below ab.den)) j16] 27 (0, 0)) := ((Below.refl _ w23).block _ (Array.getElem?_eq_some_iff.1 LRab23.out).1).trans LRab23.out
      obtain ⟨z_ab_0, z_ab_1, z_ab_2⟩ := cells3 hg
      clear hg
      have hlt13_ab : w17.heap.size < NN13 := Nat.lt_of_lt_of_eq (World.block_lt_of_cell? _ _ z_ab_0) hNN
      have hg : w23.heap[w17.heap.size + 1]? = some (.cells #[.bool (decide (be.num < 0)), .slice C17 (len be.num.natAbs) j17, .slice C18 (len (below be.den)) j18] 27 (0, 0)) := ((Below.refl _ w23).block _ (Array.getElem?_eq_some_iff.1 LRbe23.out).1).trans LRbe23.out
      obtain ⟨z_be_0, z_be_1, z_be_2⟩ := cells3 hg
      clear hg
      have hlt13_be : w17.heap.size + 1 < NN13 := Nat.lt_of_lt_of_eq (World.block_lt_of_cell? _ _ z_be_0) hNN
      have hg : w23.heap[w19.heap.size]? = some (.cells #[.bool (decide (x.num < 0)), .slice C19 (len x.num.natAbs) j19, .slice C20 (len (below x.den)) j20] 27 (0, 0)) := ((Below.refl _ w23).block _ (Array.getElem?_eq_some_iff.1 LRback23.out).1).trans LRback23.out
      obtain ⟨z_back_0, z_back_1, z_back_2⟩ := cells3 hg
      clear hg
      have hlt13_back : w19.heap.size < NN13 := Nat.lt_of_lt_of_eq (World.block_lt_of_cell? _ _ z_back_0) hNN
      have hg : w23.heap[w22.heap.size]? = some (.cells #[.bool (decide (x.num < 0)), .slice C21 (len x.num.natAbs) j21, .slice C22 (len (below x.den)) j22] 27 (0, 0)) := ((Below.refl _ w23).block _ (Array.getElem?_eq_some_iff.1 L23.out).1).trans L23.out
      obtain ⟨z_again_0, z_again_1, z_again_2⟩ := cells3 hg
      clear hg
      have hlt13_again : w22.heap.size < NN13 := Nat.lt_of_lt_of_eq (World.block_lt_of_cell? _ _ z_again_0) hNN
      have H0 := Held0.start w23 NN13
      have H0' := H0
      unfold Held0 at H0'
      refine wp_region_held_drew (S := (fun w' => (∀ b o, b < NN13 → w'.cell? ⟨b, o, none⟩ = w23.cell? ⟨b, o, none⟩) ∧ Below (NN13) w23 w' ∧ Stay w23 w')) (by kernel_rfl) ?_ (fun hHeld => ?_)
      · (try dsimp only)
        exact H0'
      obtain ⟨w24, hw24⟩ : ∃ u, u = w23.drew := ⟨_, rfl⟩
      have b24 : Hid (Below w23.heap.size w23 w24) := by rw [hw24]; exact ⟨rfl, rfl, rfl, Nat.le_refl _, fun _ _ => rfl⟩
      rw [← hw24] at hHeld H0 ⊢
      clear hw24 H0' hNN
      as_aux_lemma =>
       refine tk (i := 0) (h := ?_)
       try simp only [Act.put, lt, ly, lu]
       refine tk (i := 1) (h := ?_)
       try simp only [Act.put, lt, ly, lu]
       refine tk (i := 2) (h := ?_)
       try simp only [Act.put, lt, ly, lu]
       refine tk (i := 3) (h := ?_)
       try simp only [Act.put, lt, ly, lu]
       refine tk (i := 4) (h := ?_)
       try simp only [Act.put, lt, ly, lu]
       refine tk (i := 5) (h := ?_)
       try simp only [Act.put, lt, ly, lu]
       refine tk (i := 6) (h := ?_)
       try simp only [Act.put, lt, ly, lu]
       refine tk (i := 7) (h := ?_)
       try simp only [Act.put, lt, ly, lu]
       refine tk (i := 8) (h := ?_)
       try simp only [Act.put, lt, ly, lu]
       refine wpAnyH_ready (rs := [9]) (by kernel_rfl) (by simp) (AllReadyH.cons (o := ?oq29) ?eq29 ?kq29 AllReadyH.nil)
       case eq29 => simp only [lg, lz, ls]; rfl
       intro K hK; go_simp; go_at_call 13
       refine (equal_to (hRback23.out.keep b24.out) (hRx23.out.keep b24.out) rfl z_x.out (tab_keep HTB23.out b24.out)).mono ?_
       rintro e w25 ⟨rfl, b25⟩
       replace b25 := hid b25; have hk25 := hcall H0 HSZ13 b25.out; have hk25' := hk25; unfold Held0 at hk25'; clear hHeld H0
       refine hK.out _ _ ?_ (fun hHeld => ?_)
       · (try dsimp only); with_reducible exact hk25'
       clear hK K hk25'; try simp only [Act.put, lt, ly, lu]
       refine tk (i := 10) (h := ?_)
       try simp only [Act.put, lt, ly, lu]
       refine tk (i := 11) (h := ?_)
       try simp only [Act.put, lt, ly, lu]
       as_aux_lemma =>
        refine tk (i := 12) (h := ?_)
        try simp only [Act.put, lt, ly, lu]
        refine tk (i := 13) (h := ?_)
        try simp only [Act.put, lt, ly, lu]
        refine tk (i := 14) (h := ?_)
        try simp only [Act.put, lt, ly, lu]
        refine wpAnyH_ready (rs := [15]) (by kernel_rfl) (by simp) (AllReadyH.cons (o := ?oq35) ?eq35 ?kq35 AllReadyH.nil)
        case eq35 => simp only [lg, lz, ls]; rfl
        intro K hK; go_simp; go_at_call 13
        refine (equal_to (hRagain23.out.keep (Below.step b24.out b25.out)) (hRx23.out.keep (Below.step b24.out b25.out)) rfl z_x.out (tab_keep HTB23.out (Below.step b24.out b25.out))).mono ?_
        rintro e w26 ⟨rfl, b26⟩
        replace b26 := hid b26; have hk26 := hcall hk25 HSZ13 b26.out; have hk26' := hk26; unfold Held0 at hk26'; clear hHeld hk25
        refine hK.out _ _ ?_ (fun hHeld => ?_)
        · (try dsimp only); with_reducible exact hk26'
        clear hK K hk26'; try simp only [Act.put, lt, ly, lu]
        refine tk (i := 16) (h := ?_)
        try simp only [Act.put, lt, ly, lu]
        refine tk (i := 17) (h := ?_)
        try simp only [Act.put, lt, ly, lu]
        refine tk (i := 18) (h := ?_)
        try simp only [Act.put, lt, ly, lu]
        refine tk (i := 19) (h := ?_)
        try simp only [Act.put, lt, ly, lu]
        refine wpAnyH_ready (rs := [20]) (by kernel_rfl) (by simp) (AllReadyH.cons (o := ?oq40) ?eq40 ?kq40 AllReadyH.nil)
        case eq40 => simp only [lg, lz, ls]; rfl
        intro K hK; go_simp; go_at_call 20
        refine (sign_val e_sb2.out (hRbe23.out.keep (Below.step (Below.step b24.out b25.out) b26.out))).mono ?_
        rintro e w27 ⟨rfl, b27⟩
        replace b27 := hid b27; have hk27 := hcall hk26 HSZ13 b27.out; have hk27' := hk27; unfold Held0 at hk27'; clear hHeld hk26
        refine hK.out _ _ ?_ (fun hHeld => ?_)
        · (try dsimp only); with_reducible exact hk27'
        clear hK K hk27'; try simp only [Act.put, lt, ly, lu]
        refine tk (i := 21) (h := ?_)
        try simp only [Act.put, lt, ly, lu]
        refine tk (i := 22) (h := ?_)
        try simp only [Act.put, lt, ly, lu]
        refine tk (i := 23) (h := ?_)
        try simp only [Act.put, lt, ly, lu]
        as_aux_lemma =>
         refine tk (i := 24) (h := ?_)
         try simp only [Act.put, lt, ly, lu]
         refine tk (i := 26) (h := ?_)
         try simp only [Act.put, lt, ly, lu]
         refine wpAnyH_ready (rs := [25]) (by kernel_rfl) (by simp) (AllReadyH.cons (o := ?oq46) ?eq46 ?kq46 AllReadyH.nil)
         case eq46 => simp only [lg, lz, ls]; rfl
         intro K hK; go_simp; go_at_call 22
         refine (floor_val f4.out (hRab23.out.keep (Below.step (Below.step (Below.step b24.out b25.out) b26.out) b27.out)) z_ab.out).mono ?_
         rintro e w28 ⟨v28, rfl, hv28, b28⟩
         obtain ⟨C23, j23, C24, j24, rfl, -, -⟩ := id hv28.opened; replace hv28 := hid hv28
         replace b28 := hid b28; have hk28 := hcall hk27 HSZ13 b28.out; have hk28' := hk28; unfold Held0 at hk28'; clear hHeld hk27
         refine hK.out _ _ ?_ (fun hHeld => ?_)
         · (try dsimp only); with_reducible exact hk28'
         clear hK K hk28'; try simp only [Act.put, lt, ly, lu]
         refine wpAnyH_ready (rs := [27]) (by kernel_rfl) (by simp) (AllReadyH.cons (o := ?oq47) ?eq47 ?kq47 AllReadyH.nil)
         case eq47 => simp only [lg, lz, ls]; rfl
         intro K hK; go_simp; go_at_call 13
         refine (equal_to hv28.out (hRab23.out.keep (Below.step (Below.step (Below.step (Below.step b24.out b25.out) b26.out) b27.out) b28.out)) rfl z_ab.out (tab_keep HTB23.out (Below.step (Below.step (Below.step (Below.step b24.out b25.out) b26.out) b27.out) b28.out))).mono ?_
         rintro e w29 ⟨rfl, b29⟩
         replace b29 := hid b29; have hk29 := hcall hk28 HSZ13 b29.out; have hk29' := hk29; unfold Held0 at hk29'; clear hHeld hk28
         refine hK.out _ _ ?_ (fun hHeld => ?_)
         · (try dsimp only); with_reducible exact hk29'
         clear hK K hk29'; try simp only [Act.put, lt, ly, lu]
         refine tk (i := 28) (h := ?_)
         try simp only [Act.put, lt, ly, lu]
         refine tk (i := 29) (h := ?_)
         try simp only [Act.put, lt, ly, lu]
         refine tk (i := 30) (h := ?_)
         try simp only [Act.put, lt, ly, lu]
         refine tk (i := 31) (h := ?_)
         try simp only [Act.put, lt, ly, lu]
         refine tk (i := 33) (h := ?_)
         try simp only [Act.put, lt, ly, lu]
         refine wpAnyH_ready (rs := [32]) (by kernel_rfl) (by simp) (AllReadyH.cons (o := ?oq53) ?eq53 ?kq53 AllReadyH.nil)
         case eq53 => simp only [lg, lz, ls]; rfl
         intro K hK; go_simp; go_at_call 22
         refine (floor_val f5.out (hRbe23.out.keep (Below.step (Below.step (Below.step (Below.step (Below.step b24.out b25.out) b26.out) b27.out) b28.out) b29.out)) z_be.out).mono ?_
         rintro e w30 ⟨v30, rfl, hv30, b30⟩
         obtain ⟨C25, j25, C26, j26, rfl, -, -⟩ := id hv30.opened; replace hv30 := hid hv30
         replace b30 := hid b30; have hk30 := hcall hk29 HSZ13 b30.out; have hk30' := hk30; unfold Held0 at hk30'; clear hHeld hk29
         refine hK.out _ _ ?_ (fun hHeld => ?_)
         · (try dsimp only); with_reducible exact hk30'
         clear hK K hk30'; try simp only [Act.put, lt, ly, lu]
         refine wpAnyH_ready (rs := [34]) (by kernel_rfl) (by simp) (AllReadyH.cons (o := ?oq54) ?eq54 ?kq54 AllReadyH.nil)
         case eq54 => simp only [lg, lz, ls]; rfl
         intro K hK; go_simp; go_at_call 13
         refine (equal_to hv30.out (hRbe23.out.keep (Below.step (Below.step (Below.step (Below.step (Below.step (Below.step b24.out b25.out) b26.out) b27.out) b28.out) b29.out) b30.out)) rfl z_be.out (tab_keep HTB23.out (Below.step (Below.step (Below.step (Below.step (Below.step (Below.step b24.out b25.out) b26.out) b27.out) b28.out) b29.out) b30.out))).mono ?_
         rintro e w31 ⟨rfl, b31⟩
         replace b31 := hid b31; have hk31 := hcall hk30 HSZ13 b31.out; have hk31' := hk31; unfold Held0 at hk31'; clear hHeld hk30
         refine hK.out _ _ ?_ (fun hHeld => ?_)
         · (try dsimp only); with_reducible exact hk31'
         clear hK K hk31'; try simp only [Act.put, lt, ly, lu]
         refine tk (i := 35) (h := ?_)
         try simp only [Act.put, lt, ly, lu]
         as_aux_lemma =>
          refine tk (i := 36) (h := ?_)
          try simp only [Act.put, lt, ly, lu]
          refine wpAnyH_done (by kernel_rfl) ?_ _
          clear hHeld
          clear z_x_0 z_x_1 z_x_2 z_ab_0 z_ab_1 z_ab_2 z_be_0 z_be_1 z_be_2 z_back_0 z_back_1 z_back_2 z_again_0 z_again_1 z_again_2 hlt13_x hlt13_ab hlt13_be hlt13_back hlt13_again
          clear hk31 HSZ13 v1
          have hRx31 := hid (hRx23.out.keep (Below.step (Below.step (Below.step (Below.step (Below.step (Below.step (Below.step b24.out b25.out) b26.out) b27.out) b28.out) b29.out) b30.out) b31.out))
          have hRz31 := hid (hRz23.out.keep (Below.step (Below.step (Below.step (Below.step (Below.step (Below.step (Below.step b24.out b25.out) b26.out) b27.out) b28.out) b29.out) b30.out) b31.out))
          have LRx31 : Hid (w31.heap[w4.heap.size]? = some (.cells #[.bool (decide (x.num < 0)), .slice C1 (len x.num.natAbs) j1, .slice C2 (len (below x.den)) j2] 27 (0, 0))) := ((Below.step (Below.step (Below.step (Below.step (Below.step (Below.step (Below.step b24.out b25.out) b26.out) b27.out) b28.out) b29.out) b30.out) b31.out).block _ (Array.getElem?_eq_some_iff.1 LRx23.out).1).trans LRx23.out
          have LRz31 : Hid (w31.heap[w4.heap.size + 2]? = some (.cells #[.bool (decide (z.num < 0)), .slice C5 (len z.num.natAbs) j5, .slice C6 (len (below z.den)) j6] 27 (0, 0))) := ((Below.step (Below.step (Below.step (Below.step (Below.step (Below.step (Below.step b24.out b25.out) b26.out) b27.out) b28.out) b29.out) b30.out) b31.out).block _ (Array.getElem?_eq_some_iff.1 LRz23.out).1).trans LRz23.out
          have HMB31 := hid (cell_keep HMB23.out (Below.step (Below.step (Below.step (Below.step (Below.step (Below.step (Below.step b24.out b25.out) b26.out) b27.out) b28.out) b29.out) b30.out) b31.out))
          have HTB31 := hid (tab_keep HTB23.out (Below.step (Below.step (Below.step (Below.step (Below.step (Below.step (Below.step b24.out b25.out) b26.out) b27.out) b28.out) b29.out) b30.out) b31.out))
          have HBB31 := hid (Below.step HBB23.out (Below.step (Below.step (Below.step (Below.step (Below.step (Below.step (Below.step b24.out b25.out) b26.out) b27.out) b28.out) b29.out) b30.out) b31.out))
          clear hRx23 hRz23 LRx23 LRz23 HMB23 HTB23 HBB23 b24 b25 b26 b27 b28 b29 b30 b31
          clear f1 f2 f3 f4 f5 hsx e_tx e_ab e_be e_sb2 z_ab z_be
          rcases Decidable.em (0 < z.num) with hz | hz
          · skip
            obtain ⟨r, e_r⟩ : ∃ v_ : Rat, flr (x / z + mkRat 1 2) * z = v_ := ⟨_, rfl⟩
            obtain ⟨tm, e_tm⟩ : ∃ v_ : Rat, r / z = v_ := ⟨_, rfl⟩
            obtain ⟨rx, e_rx⟩ : ∃ v_ : Rat, r - x = v_ := ⟨_, rfl⟩
            obtain ⟨far, e_far⟩ : ∃ v_ : Rat, rx + rx = v_ := ⟨_, rfl⟩
            obtain ⟨fz, e_fz⟩ : ∃ v_ : Rat, far + z = v_ := ⟨_, rfl⟩
            obtain ⟨c5, e_c5⟩ : ∃ v_ : Int, cmpQ far z = v_ := ⟨_, rfl⟩
            obtain ⟨c6, e_c6⟩ : ∃ v_ : Int, fz.num.sign = v_ := ⟨_, rfl⟩
            obtain ⟨g1, g2, g3, g4, g5⟩ := or_round (x := x) hz r tm rx far fz c5 c6 sz e_r e_tm e_rx e_far e_c5 e_fz e_c6 e_sz.out
            have zy_x := zz_x.out
            have zy_z := zz_z.out
            have zz_r : siz r ≤ 20000 := by
              rw [← e_r]
              have i1 := siz_mul (flr (x / z + mkRat 1 2)) z
              have i2 := siz_flr (x / z + mkRat 1 2)
              have i3 := siz_add (x / z) (mkRat 1 2)
              have i4 := siz_div x z
              have i5 : siz (mkRat 1 2) ≤ 3 := by decide +kernel
              omega
            have zz_rx : siz rx ≤ 30000 := by rw [← e_rx]; have i1 := siz_sub r x; omega
            have zz_far : siz far ≤ 60001 := by rw [← e_far]; have i1 := siz_add rx rx; omega
            have z_r : Hid (siz r ≤ 536870912) := by show _ ≤ _; exact Nat.le_trans zz_r (by omega)
            have z_rx : Hid (siz rx ≤ 536870912) := by show _ ≤ _; exact Nat.le_trans zz_rx (by omega)
            have z_far : Hid (siz far ≤ 536870912) := by show _ ≤ _; exact Nat.le_trans zz_far (by omega)
            have z_tm : Hid (siz tm ≤ 536870912) := by show _ ≤ _; rw [← e_tm]; have i1 := siz_div r z; omega
            have z_fz : Hid (siz fz ≤ 536870912) := by show _ ≤ _; rw [← e_fz]; have i1 := siz_add far z; omega
            clear zy_x zy_z zz_r zz_rx zz_far
            replace g1 := hid g1
            replace g2 := hid g2
            replace g3 := hid g3
            replace g4 := hid g4
            replace hz := hid hz
            replace e_r := hid e_r
            replace e_tm := hid e_tm
            replace e_rx := hid e_rx
            replace e_far := hid e_far
            replace e_fz := hid e_fz
            replace e_c5 := hid e_c5
            replace e_c6 := hid e_c6
            have hg : w31.heap[w4.heap.size]? = some (.cells #[.bool (decide (x.num < 0)), .slice C1 (len x.num.natAbs) j1, .slice C2 (len (below x.den)) j2] 27 (0, 0)) := ((Below.refl _ w31).block _ (Array.getElem?_eq_some_iff.1 LRx31.out).1).trans LRx31.out
            obtain ⟨z_x_0, z_x_1, z_x_2⟩ := cells3 hg
            clear hg
            have hg : w31.heap[w4.heap.size + 2]? = some (.cells #[.bool (decide (z.num < 0)), .slice C5 (len z.num.natAbs) j5, .slice C6 (len (below z.den)) j6] 27 (0, 0)) := ((Below.refl _ w31).block _ (Array.getElem?_eq_some_iff.1 LRz31.out).1).trans LRz31.out
            obtain ⟨z_z_0, z_z_1, z_z_2⟩ := cells3 hg
            clear hg
            have HX := hid (round_val e_r.out hz.out hRx31.out hRz31.out z_x.out z_z.out)
            go_wp2_with fail
            refine (HX.out).mono ?_
            rintro e w32 ⟨v32, rfl, hv32, b32⟩
            obtain ⟨C27, j27, C28, j28, rfl, -, -⟩ := id hv32.opened
            replace hv32 := hid hv32
            replace b32 := hid b32
            clear HX
            clear z_x_0 z_x_1 z_x_2 z_z_0 z_z_1 z_z_2
            go_upto_region 16 with fail
            obtain ⟨w33, hw33⟩ : ∃ u, u = w32.alloc (.cells #[.bool (decide (r.num < 0)), .slice C27 (len r.num.natAbs) j27, .slice C28 (len (below r.den)) j28] 27) := ⟨_, rfl⟩
            have b33 : Hid (Below w32.heap.size w32 w33) := by rw [hw33]; exact (Below.refl _ _).alloc (Nat.le_refl _) _
            have L33 : Hid (w33.heap[w32.heap.size]? = some (.cells #[.bool (decide (r.num < 0)), .slice C27 (len r.num.natAbs) j27, .slice C28 (len (below r.den)) j28] 27 (0, 0))) := by rw [hw33]; exact heap_alloc_new w32 _
            rw [← hw33]
            clear hw33
            have hg : w33.heap[w4.heap.size + 2]? = some (.cells #[.bool (decide (z.num < 0)), .slice C5 (len z.num.natAbs) j5, .slice C6 (len (below z.den)) j6] 27 (0, 0)) := ((Below.step b32.out b33.out).block _ (Array.getElem?_eq_some_iff.1 LRz31.out).1).trans LRz31.out
            obtain ⟨z_z_0, z_z_1, z_z_2⟩ := cells3 hg
            clear hg
            have HX := hid (sign_val e_sz.out (hRz31.out.keep (Below.step b32.out b33.out)))
            go_wp2_with fail
            refine (HX.out).mono ?_
            rintro e w34 ⟨rfl, b34⟩
            replace b34 := hid b34
            clear HX
            clear z_z_0 z_z_1 z_z_2
            have hg : w34.heap[w32.heap.size]? = some (.cells #[.bool (decide (r.num < 0)), .slice C27 (len r.num.natAbs) j27, .slice C28 (len (below r.den)) j28] 27 (0, 0)) := (b34.out.block _ (Array.getElem?_eq_some_iff.1 L33.out).1).trans L33.out
            obtain ⟨z_r_0, z_r_1, z_r_2⟩ := cells3 hg
            clear hg
            have hg : w34.heap[w4.heap.size + 2]? = some (.cells #[.bool (decide (z.num < 0)), .slice C5 (len z.num.natAbs) j5, .slice C6 (len (below z.den)) j6] 27 (0, 0)) := ((Below.step (Below.step b32.out b33.out) b34.out).block _ (Array.getElem?_eq_some_iff.1 LRz31.out).1).trans LRz31.out
            obtain ⟨z_z_0, z_z_1, z_z_2⟩ := cells3 hg
            clear hg
            have HX := hid (div_val e_tm.out g1.out (hv32.out.keep (Below.step b33.out b34.out)) (hRz31.out.keep (Below.step (Below.step b32.out b33.out) b34.out)) z_r.out z_z.out)
            go_wp2_with fail
            refine (HX.out).mono ?_
            rintro e w35 ⟨v35, rfl, hv35, b35⟩
            obtain ⟨C29, j29, C30, j30, rfl, -, -⟩ := id hv35.opened
            replace hv35 := hid hv35
            replace b35 := hid b35
            clear HX
            clear z_r_0 z_r_1 z_r_2 z_z_0 z_z_1 z_z_2
            go_upto_region 19 with fail
            obtain ⟨w36, hw36⟩ : ∃ u, u = w35.alloc (.cells #[.bool (decide (tm.num < 0)), .slice C29 (len tm.num.natAbs) j29, .slice C30 (len (below tm.den)) j30] 27) := ⟨_, rfl⟩
            have b36 : Hid (Below w35.heap.size w35 w36) := by rw [hw36]; exact (Below.refl _ _).alloc (Nat.le_refl _) _
            have L36 : Hid (w36.heap[w35.heap.size]? = some (.cells #[.bool (decide (tm.num < 0)), .slice C29 (len tm.num.natAbs) j29, .slice C30 (len (below tm.den)) j30] 27 (0, 0))) := by rw [hw36]; exact heap_alloc_new w35 _
            rw [← hw36]
            clear hw36
            clear g5
            have hRx36 := hid (hRx31.out.keep (Below.step (Below.step (Below.step (Below.step b32.out b33.out) b34.out) b35.out) b36.out))
            have hRz36 := hid (hRz31.out.keep (Below.step (Below.step (Below.step (Below.step b32.out b33.out) b34.out) b35.out) b36.out))
            have hRr36 := hid (hv32.out.keep (Below.step (Below.step (Below.step b33.out b34.out) b35.out) b36.out))
            have hRtm36 := hid (hv35.out.keep b36.out)
            have LRx36 : Hid (w36.heap[w4.heap.size]? = some (.cells #[.bool (decide (x.num < 0)), .slice C1 (len x.num.natAbs) j1, .slice C2 (len (below x.den)) j2] 27 (0, 0))) := ((Below.step (Below.step (Below.step (Below.step b32.out b33.out) b34.out) b35.out) b36.out).block _ (Array.getElem?_eq_some_iff.1 LRx31.out).1).trans LRx31.out
            have LRz36 : Hid (w36.heap[w4.heap.size + 2]? = some (.cells #[.bool (decide (z.num < 0)), .slice C5 (len z.num.natAbs) j5, .slice C6 (len (below z.den)) j6] 27 (0, 0))) := ((Below.step (Below.step (Below.step (Below.step b32.out b33.out) b34.out) b35.out) b36.out).block _ (Array.getElem?_eq_some_iff.1 LRz31.out).1).trans LRz31.out
            have LRr36 : Hid (w36.heap[w32.heap.size]? = some (.cells #[.bool (decide (r.num < 0)), .slice C27 (len r.num.natAbs) j27, .slice C28 (len (below r.den)) j28] 27 (0, 0))) := ((Below.step (Below.step b34.out b35.out) b36.out).block _ (Array.getElem?_eq_some_iff.1 L33.out).1).trans L33.out
            have HMB36 := hid (cell_keep HMB31.out (Below.step (Below.step (Below.step (Below.step b32.out b33.out) b34.out) b35.out) b36.out))
            have HTB36 := hid (tab_keep HTB31.out (Below.step (Below.step (Below.step (Below.step b32.out b33.out) b34.out) b35.out) b36.out))
            have HBB36 := hid (Below.step HBB31.out (Below.step (Below.step (Below.step (Below.step b32.out b33.out) b34.out) b35.out) b36.out))
            clear hRx31 hRz31 hv32 hv35 LRx31 LRz31 L33 HMB31 HTB31 HBB31 b32 b33 b34 b35 b36
            go_wp2_with fail
            obtain ⟨NN19, hNN⟩ : ∃ n : Nat, w36.heap.size = n := ⟨_, rfl⟩
            have HSZ19 : Hid (w36.heap.size = NN19) := hNN
            have hg : w36.heap[w32.heap.size]? = some (.cells #[.bool (decide (r.num < 0)), .slice C27 (len r.num.natAbs) j27, .slice C28 (len (below r.den)) j28] 27 (0, 0)) := ((Below.refl _ w36).block _ (Array.getElem?_eq_some_iff.1 LRr36.out).1).trans LRr36.out
            obtain ⟨z_r_0, z_r_1, z_r_2⟩ := cells3 hg
            clear hg
            have hlt19_r : w32.heap.size < NN19 := Nat.lt_of_lt_of_eq (World.block_lt_of_cell? _ _ z_r_0) hNN
            have hg : w36.heap[w4.heap.size]? = some (.cells #[.bool (decide (x.num < 0)), .slice C1 (len x.num.natAbs) j1, .slice C2 (len (below x.den)) j2] 27 (0, 0)) := ((Below.refl _ w36).block _ (Array.getElem?_eq_some_iff.1 LRx36.out).1).trans LRx36.out
            obtain ⟨z_x_0, z_x_1, z_x_2⟩ := cells3 hg
            clear hg
            have hlt19_x : w4.heap.size < NN19 := Nat.lt_of_lt_of_eq (World.block_lt_of_cell? _ _ z_x_0) hNN
            have H0 := Held0.start w36 NN19
            refine wp_region_held_drew (S := (fun w' => (∀ b o, b < NN19 → w'.cell? ⟨b, o, none⟩ = w36.cell? ⟨b, o, none⟩))) (by kernel_rfl) ?_ (fun hHeld => ?_)
            · (try dsimp only)
              exact H0.1
            obtain ⟨wd19, hwd⟩ : ∃ u, u = w36.drew := ⟨_, rfl⟩
            rw [← hwd] at hHeld H0 ⊢
            clear hwd hNN
            refine tk (i := 0) (h := ?_)
            try simp only [Act.put, lt, ly, lu]
            refine tk (i := 1) (h := ?_)
            try simp only [Act.put, lt, ly, lu]
            refine tk (i := 3) (h := ?_)
            try simp only [Act.put, lt, ly, lu]
            refine tk (i := 4) (h := ?_)
            try simp only [Act.put, lt, ly, lu]
            generalize hF19 : wpAnyH _ _ _ _ _ = F19
            replace hF19 := hid hF19
            refine letters ?_
            intro A19 hA19
            replace hA19 := hid hA19
            have H0h := hid H0
            clear H0 hHeld
            have st19_3_20 : ∀ (L : Array Bool) (u : World) (v196 v199 v200 : Value) (n20 : Nat), L = #[true, true, true, true, true, true, true, true, false] → Hid (Held0 w36 NN19 w36 u) → Hid (IsNum u v200 far) → Hid (Zero3 u n20) → NN19 ≤ n20 → F19 1 L (Act.put (Act.put (Act.put (Act.put A19 (some 20) (.pointer (some ⟨n20, 0, none⟩))) (some 196) v196) (some 199) v199) (some 200) v200) u := by
             intro L u v196 v199 v200 n20 hLL HK I200 Z20 g20
             subst hLL
             rw [← hF19.out, ← hA19.out]
             try simp only [Act.put, lt, ly, lu]
             clear H0h z_r_0 z_r_1 z_r_2 z_x_0 z_x_1 z_x_2 hlt19_r hlt19_x
             obtain ⟨B20x0, b20x0, B20x1, b20x1, rfl, -, -⟩ := id I200.out.opened
             refine wpAnyH_ready (rs := [8]) (by kernel_rfl) (by simp) ?_
             refine AllReadyH.cons (o := ?oq61) ?eq61 ?kq61 AllReadyH.nil
             case eq61 => simp only [lg, lz, ls]; rfl
             intro K hK
             have q0 : u.cell? ⟨n20, 0, none⟩ = some (.bool false) := cell_of_row _ _ _ _ _ _ Z20.out
             have F0 : u.frozen? ⟨n20, 0, none⟩ = false := frozen_of_row u n20 0 _ _ Z20.out
             have q1 : u.cell? ⟨n20, 1, none⟩ = some (.slice none 0 0) := cell_of_row _ _ _ _ _ _ Z20.out
             have F1 : u.frozen? ⟨n20, 1, none⟩ = false := frozen_of_row u n20 1 _ _ Z20.out
             have q2 : u.cell? ⟨n20, 2, none⟩ = some (.slice none 0 0) := cell_of_row _ _ _ _ _ _ Z20.out
             have F2 : u.frozen? ⟨n20, 2, none⟩ = false := frozen_of_row u n20 2 _ _ Z20.out
             go_simp
             clear q0 F0 q1 F1 q2 F2
             obtain ⟨us19_20, hw⟩ : ∃ z, z = (((u.setCell ⟨n20, 0, none⟩ (.bool (decide (far.num < 0)))).setCell ⟨n20, 1, none⟩ (.slice B20x0 (len far.num.natAbs) b20x0)).setCell ⟨n20, 2, none⟩ (.slice B20x1 (len (below far.den)) b20x1)) := ⟨_, rfl⟩
             obtain ⟨HK20, ZZ20, II20, OT, OB, ON⟩ := put3_all hw HK.out Z20.out g20 I200.out
             rw [← hw]
             clear hw
             replace HK20 := hid HK20
             replace ZZ20 := hid ZZ20
             replace II20 := hid II20
             refine hK.out _ _ ?_ (fun hHeld => ?_)
             · (try dsimp only)
               exact HK20.out.1
             clear hK K hHeld OT OB ON HK Z20 I200
             try simp only [Act.put, lt, ly, lu]
             refine wpAnyH_done (by kernel_rfl) ?_ _
             obtain ⟨w37, hwq⟩ : ∃ z, z = us19_20 := ⟨_, rfl⟩
             rw [← hwq] at HK20 ZZ20 II20 ⊢
             clear hwq hF19 hA19
             have b37 : Hid (Below w36.heap.size w36 w37) := below_eq HK20.out.2.1 HSZ19.out
             clear HK20 HSZ19
             have hRz37 := hid (hRz36.out.keep b37.out)
             have hRtm37 := hid (hRtm36.out.keep b37.out)
             have LRz37 : Hid (w37.heap[w4.heap.size + 2]? = some (.cells #[.bool (decide (z.num < 0)), .slice C5 (len z.num.natAbs) j5, .slice C6 (len (below z.den)) j6] 27 (0, 0))) := (b37.out.block _ (Array.getElem?_eq_some_iff.1 LRz36.out).1).trans LRz36.out
             have LRtm37 : Hid (w37.heap[w35.heap.size]? = some (.cells #[.bool (decide (tm.num < 0)), .slice C29 (len tm.num.natAbs) j29, .slice C30 (len (below tm.den)) j30] 27 (0, 0))) := (b37.out.block _ (Array.getElem?_eq_some_iff.1 L36.out).1).trans L36.out
             have HMB37 := hid (cell_keep HMB36.out b37.out)
             have HTB37 := hid (tab_keep HTB36.out b37.out)
             have HBB37 := hid (Below.step HBB36.out b37.out)
             clear hRz36 hRtm36 LRz36 L36 HMB36 HTB36 HBB36 b37
             have v1 := g3.out
             have v2 := g4.out
             go_wp2_with fail
             obtain ⟨NN20, hNN⟩ : ∃ n : Nat, w37.heap.size = n := ⟨_, rfl⟩
             have HSZ20 : Hid (w37.heap.size = NN20) := hNN
             have hg : w37.heap[w4.heap.size + 2]? = some (.cells #[.bool (decide (z.num < 0)), .slice C5 (len z.num.natAbs) j5, .slice C6 (len (below z.den)) j6] 27 (0, 0)) := ((Below.refl _ w37).block _ (Array.getElem?_eq_some_iff.1 LRz37.out).1).trans LRz37.out
             obtain ⟨z_z_0, z_z_1, z_z_2⟩ := cells3 hg
             clear hg
             have hlt20_z : w4.heap.size + 2 < NN20 := Nat.lt_of_lt_of_eq (World.block_lt_of_cell? _ _ z_z_0) hNN
             have hg : w37.heap[w35.heap.size]? = some (.cells #[.bool (decide (tm.num < 0)), .slice C29 (len tm.num.natAbs) j29, .slice C30 (len (below tm.den)) j30] 27 (0, 0)) := ((Below.refl _ w37).block _ (Array.getElem?_eq_some_iff.1 LRtm37.out).1).trans LRtm37.out
             obtain ⟨z_tm_0, z_tm_1, z_tm_2⟩ := cells3 hg
             clear hg
             have hlt20_tm : w35.heap.size < NN20 := Nat.lt_of_lt_of_eq (World.block_lt_of_cell? _ _ z_tm_0) hNN
             have hg : w37.heap[n20]? = some (.cells #[.bool (decide (far.num < 0)), .slice B20x0 (len far.num.natAbs) b20x0, .slice B20x1 (len (below far.den)) b20x1] 27 (0, 0)) := ((Below.refl _ w37).block _ (Array.getElem?_eq_some_iff.1 ZZ20.out).1).trans ZZ20.out
             obtain ⟨z_far_0, z_far_1, z_far_2⟩ := cells3 hg
             clear hg
             have hlt20_far : n20 < NN20 := Nat.lt_of_lt_of_eq (World.block_lt_of_cell? _ _ z_far_0) hNN
             have H0 := Held0.start w37 NN20
             have H0' := H0
             unfold Held0 at H0'
             refine wp_region_held_drew (S := (fun w' => (∀ b o, b < NN20 → w'.cell? ⟨b, o, none⟩ = w37.cell? ⟨b, o, none⟩) ∧ Below (NN20) w37 w' ∧ Stay w37 w')) (by kernel_rfl) ?_ (fun hHeld => ?_)
             · (try dsimp only)
               exact H0'
             obtain ⟨w38, hw38⟩ : ∃ u, u = w37.drew := ⟨_, rfl⟩
             have b38 : Hid (Below w37.heap.size w37 w38) := by rw [hw38]; exact ⟨rfl, rfl, rfl, Nat.le_refl _, fun _ _ => rfl⟩
             rw [← hw38] at hHeld H0 ⊢
             clear hw38 H0' hNN
             as_aux_lemma =>
              refine tk (i := 0) (h := ?_)
              try simp only [Act.put, lt, ly, lu]
              refine tk (i := 1) (h := ?_)
              try simp only [Act.put, lt, ly, lu]
              refine tk (i := 2) (h := ?_)
              try simp only [Act.put, lt, ly, lu]
              refine tk (i := 3) (h := ?_)
              try simp only [Act.put, lt, ly, lu]
              refine tk (i := 4) (h := ?_)
              try simp only [Act.put, lt, ly, lu]
              refine tk (i := 5) (h := ?_)
              try simp only [Act.put, lt, ly, lu]
              refine tk (i := 6) (h := ?_)
              try simp only [Act.put, lt, ly, lu]
              refine tk (i := 7) (h := ?_)
              try simp only [Act.put, lt, ly, lu]
              refine tk (i := 9) (h := ?_)
              try simp only [Act.put, lt, ly, lu]
              refine wpAnyH_ready (rs := [8]) (by kernel_rfl) (by simp) (AllReadyH.cons (o := ?oq71) ?eq71 ?kq71 AllReadyH.nil)
              case eq71 => simp only [lg, lz, ls]; rfl
              intro K hK; go_simp; go_at_call 22
              refine (floor_val g2.out (hRtm37.out.keep b38.out) z_tm.out).mono ?_
              rintro e w39 ⟨v39, rfl, hv39, b39⟩
              obtain ⟨C31, j31, C32, j32, rfl, -, -⟩ := id hv39.opened; replace hv39 := hid hv39
              replace b39 := hid b39; have hk39 := hcall H0 HSZ20 b39.out; have hk39' := hk39; unfold Held0 at hk39'; clear hHeld H0
              refine hK.out _ _ ?_ (fun hHeld => ?_)
              · (try dsimp only); with_reducible exact hk39'
              clear hK K hk39'; try simp only [Act.put, lt, ly, lu]
              refine wpAnyH_ready (rs := [10]) (by kernel_rfl) (by simp) (AllReadyH.cons (o := ?oq72) ?eq72 ?kq72 AllReadyH.nil)
              case eq72 => simp only [lg, lz, ls]; rfl
              intro K hK; go_simp; go_at_call 13
              refine (equal_to hv39.out (hRtm37.out.keep (Below.step b38.out b39.out)) rfl z_tm.out (tab_keep HTB37.out (Below.step b38.out b39.out))).mono ?_
              rintro e w40 ⟨rfl, b40⟩
              replace b40 := hid b40; have hk40 := hcall hk39 HSZ20 b40.out; have hk40' := hk40; unfold Held0 at hk40'; clear hHeld hk39
              refine hK.out _ _ ?_ (fun hHeld => ?_)
              · (try dsimp only); with_reducible exact hk40'
              clear hK K hk40'; try simp only [Act.put, lt, ly, lu]
              refine tk (i := 11) (h := ?_)
              try simp only [Act.put, lt, ly, lu]
              as_aux_lemma =>
               refine tk (i := 12) (h := ?_)
               try simp only [Act.put, lt, ly, lu]
               refine tk (i := 13) (h := ?_)
               try simp only [Act.put, lt, ly, lu]
               refine tk (i := 14) (h := ?_)
               try simp only [Act.put, lt, ly, lu]
               refine wpAnyH_ready (rs := [15]) (by kernel_rfl) (by simp) (AllReadyH.cons (o := ?oq77) ?eq77 ?kq77 AllReadyH.nil)
               case eq77 => simp only [lg, lz, ls]; rfl
               intro K hK; go_simp; go_at_call 21
               refine (cmp_val e_c5.out (II20.out.keep (Below.step (Below.step b38.out b39.out) b40.out)) (hRz37.out.keep (Below.step (Below.step b38.out b39.out) b40.out)) z_far.out z_z.out).mono ?_
               rintro e w41 ⟨rfl, b41⟩
               replace b41 := hid b41; have hk41 := hcall hk40 HSZ20 b41.out; have hk41' := hk41; unfold Held0 at hk41'; clear hHeld hk40
               refine hK.out _ _ ?_ (fun hHeld => ?_)
               · (try dsimp only); with_reducible exact hk41'
               clear hK K hk41'; try simp only [Act.put, lt, ly, lu]
               refine tk (i := 16) (h := ?_)
               try simp only [Act.put, lt, ly, lu]
               refine tk (i := 17) (h := ?_)
               try simp only [Act.put, lt, ly, lu]
               refine tk (i := 18) (h := ?_)
               try simp only [Act.put, lt, ly, lu]
               refine tk (i := 19) (h := ?_)
               try simp only [Act.put, lt, ly, lu]
               refine tk (i := 20) (h := ?_)
               try simp only [Act.put, lt, ly, lu]
               refine wpAnyH_ready (rs := [21]) (by kernel_rfl) (by simp) (AllReadyH.cons (o := ?oq83) ?eq83 ?kq83 AllReadyH.nil)
               case eq83 => simp only [lg, lz, ls]; rfl
               intro K hK; go_simp; go_at_call 14
               refine (add_val e_fz.out (II20.out.keep (Below.step (Below.step (Below.step b38.out b39.out) b40.out) b41.out)) (hRz37.out.keep (Below.step (Below.step (Below.step b38.out b39.out) b40.out) b41.out)) z_far.out z_z.out).mono ?_
               rintro e w42 ⟨v42, rfl, hv42, b42⟩
               obtain ⟨C33, j33, C34, j34, rfl, -, -⟩ := id hv42.opened; replace hv42 := hid hv42
               replace b42 := hid b42; have hk42 := hcall hk41 HSZ20 b42.out; have hk42' := hk42; unfold Held0 at hk42'; clear hHeld hk41
               refine hK.out _ _ ?_ (fun hHeld => ?_)
               · (try dsimp only); with_reducible exact hk42'
               clear hK K hk42'; try simp only [Act.put, lt, ly, lu]
               refine wpAnyH_ready (rs := [22]) (by kernel_rfl) (by simp) (AllReadyH.cons (o := ?oq84) ?eq84 ?kq84 AllReadyH.nil)
               case eq84 => simp only [lg, lz, ls]; rfl
               intro K hK; go_simp; go_at_call 20
               refine (sign_val e_c6.out hv42.out).mono ?_
               rintro e w43 ⟨rfl, b43⟩
               replace b43 := hid b43; have hk43 := hcall hk42 HSZ20 b43.out; have hk43' := hk43; unfold Held0 at hk43'; clear hHeld hk42
               refine hK.out _ _ ?_ (fun hHeld => ?_)
               · (try dsimp only); with_reducible exact hk43'
               clear hK K hk43'; try simp only [Act.put, lt, ly, lu]
               refine tk (i := 23) (h := ?_)
               try simp only [Act.put, lt, ly, lu]
               as_aux_lemma =>
                refine tk (i := 24) (h := ?_)
                try simp only [Act.put, lt, ly, lu]
                refine tk (i := 25) (h := ?_)
                try simp only [Act.put, lt, ly, lu]
                refine wpAnyH_ready (rs := [26]) (by kernel_rfl) (by simp) (AllReadyH.cons (o := ?oq88) ?eq88 ?kq88 AllReadyH.nil)
                case eq88 => simp only [lg, lz, ls]; rfl
                intro K hK; go_simp; go_at_call 11
                refine (known_any (cell_keep HMB37.out (Below.step (Below.step (Below.step (Below.step (Below.step b38.out b39.out) b40.out) b41.out) b42.out) b43.out)) (tab_keep HTB37.out (Below.step (Below.step (Below.step (Below.step (Below.step b38.out b39.out) b40.out) b41.out) b42.out) b43.out))).mono ?_
                rintro e w44 ⟨rfl, b44⟩
                replace b44 := hid b44; have hk44 := hcall hk43 HSZ20 b44.out; have hk44' := hk44; unfold Held0 at hk44'; clear hHeld hk43
                refine hK.out _ _ ?_ (fun hHeld => ?_)
                · (try dsimp only); with_reducible exact hk44'
                clear hK K hk44'; try simp only [Act.put, lt, ly, lu]
                refine tk (i := 27) (h := ?_)
                try simp only [Act.put, lt, ly, lu]
                refine tk (i := 28) (h := ?_)
                try simp only [Act.put, lt, ly, lu]
                have HE := hid (Below.step HBB37.out (Below.step (Below.step (Below.step (Below.step (Below.step (Below.step b38.out b39.out) b40.out) b41.out) b42.out) b43.out) b44.out))
                refine wpAnyH_done (by kernel_rfl) ?_ _
                clear hHeld
                go_wp2_with fail
                go_ret
                exact ⟨rfl, HE.out⟩
            try simp only [← hA19.out, Act.put, lt, ly, lu] at st19_3_20
            replace st19_3_20 := hid st19_3_20
            have st19_3_n : ∀ (L : Array Bool) (u : World) (v196 v199 v200 : Value), L = #[true, true, true, true, true, true, true, false, false] → Hid (Held0 w36 NN19 w36 u) → Hid (IsNum u v200 far) → F19 2 L (Act.put (Act.put (Act.put A19 (some 196) v196) (some 199) v199) (some 200) v200) u := by
             intro L u v196 v199 v200 hLL HK I200
             subst hLL
             rw [← hF19.out, ← hA19.out]
             try simp only [Act.put, lt, ly, lu]
             refine wpAnyH_ready (rs := [7]) (by kernel_rfl) (by simp) (AllReadyH.cons (o := ?o7q91) ?e7q91 ?k7q91 AllReadyH.nil)
             case e7q91 => simp only [lg, lz, ls] <;> rfl
             case k7q91 =>
              intro K hK
              go_simp
              have hb2 := zero_below u
              have Z2 := zero3_at u
              have hsz := hgrow HK.out HSZ19
              have HK2 := hcall HK.out HSZ19 hb2
              refine hK.out _ _ ?_ (fun hHeld => ?_)
              · (try dsimp only); exact HK2.1
              clear hK K; try simp only [Act.put, lt, ly, lu]
              rw [hF19.out]
              exact st19_3_20.out _ _ v196 v199 v200 u.heap.size (by kernel_rfl) HK2 (I200.out.keep hb2) Z2 hsz
            try simp only [← hA19.out, Act.put, lt, ly, lu] at st19_3_n
            replace st19_3_n := hid st19_3_n
            have st19_2_20 : ∀ (L : Array Bool) (u : World) (v196 v199 : Value) (n20 : Nat), L = #[true, true, true, true, true, true, false, true, false] → Hid (Held0 w36 NN19 w36 u) → Hid (IsNum u v196 rx) → Hid (IsNum u v199 rx) → Hid (Zero3 u n20) → NN19 ≤ n20 → F19 2 L (Act.put (Act.put (Act.put A19 (some 20) (.pointer (some ⟨n20, 0, none⟩))) (some 196) v196) (some 199) v199) u := by
             intro L u v196 v199 n20 hLL HK I196 I199 Z20 g20
             subst hLL
             rw [← hF19.out, ← hA19.out]
             try simp only [Act.put, lt, ly, lu]
             refine wpAnyH_ready (rs := [6]) (by kernel_rfl) (by simp) (AllReadyH.cons (o := ?o6q92) ?e6q92 ?k6q92 AllReadyH.nil)
             case e6q92 => simp only [lg, lz, ls] <;> rfl
             case k6q92 =>
              intro K hK
              go_simp
              go_at_call 14
              refine (add_val e_far.out I196.out I199.out z_rx.out z_rx.out).mono ?_
              rintro e u2 ⟨v2, rfl, hv2, hb2⟩
              have HK2 := hcall HK.out HSZ19 hb2
              refine hK.out _ _ ?_ (fun hHeld => ?_)
              · (try dsimp only); exact HK2.1
              clear hK K; try simp only [Act.put, lt, ly, lu]
              rw [hF19.out]
              exact st19_3_20.out _ _ v196 v199 v2 n20 (by kernel_rfl) HK2 hv2 (at_keep Z20.out hb2) g20
            try simp only [← hA19.out, Act.put, lt, ly, lu] at st19_2_20
            replace st19_2_20 := hid st19_2_20
            have st19_2_n : ∀ (L : Array Bool) (u : World) (v196 v199 : Value), L = #[true, true, true, true, true, true, false, false, false] → Hid (Held0 w36 NN19 w36 u) → Hid (IsNum u v196 rx) → Hid (IsNum u v199 rx) → F19 3 L (Act.put (Act.put A19 (some 196) v196) (some 199) v199) u := by
             intro L u v196 v199 hLL HK I196 I199
             subst hLL
             rw [← hF19.out, ← hA19.out]
             try simp only [Act.put, lt, ly, lu]
             refine wpAnyH_ready (rs := [6, 7]) (by kernel_rfl) (by simp) (AllReadyH.cons (o := ?o6q93) ?e6q93 ?k6q93 (AllReadyH.cons (o := ?o7q93) ?e7q93 ?k7q93 AllReadyH.nil))
             case e6q93 => simp only [lg, lz, ls] <;> rfl
             case e7q93 => simp only [lg, lz, ls] <;> rfl
             case k6q93 =>
              intro K hK
              go_simp
              go_at_call 14
              refine (add_val e_far.out I196.out I199.out z_rx.out z_rx.out).mono ?_
              rintro e u2 ⟨v2, rfl, hv2, hb2⟩
              have HK2 := hcall HK.out HSZ19 hb2
              refine hK.out _ _ ?_ (fun hHeld => ?_)
              · (try dsimp only); exact HK2.1
              clear hK K; try simp only [Act.put, lt, ly, lu]
              rw [hF19.out]
              exact st19_3_n.out _ _ v196 v199 v2 (by kernel_rfl) HK2 hv2
             case k7q93 =>
              intro K hK
              go_simp
              have hb2 := zero_below u
              have Z2 := zero3_at u
              have hsz := hgrow HK.out HSZ19
              have HK2 := hcall HK.out HSZ19 hb2
              refine hK.out _ _ ?_ (fun hHeld => ?_)
              · (try dsimp only); exact HK2.1
              clear hK K; try simp only [Act.put, lt, ly, lu]
              rw [hF19.out]
              exact st19_2_20.out _ _ v196 v199 u.heap.size (by kernel_rfl) HK2 (I196.out.keep hb2) (I199.out.keep hb2) Z2 hsz
            try simp only [← hA19.out, Act.put, lt, ly, lu] at st19_2_n
            replace st19_2_n := hid st19_2_n
            have st19_1_20 : ∀ (L : Array Bool) (u : World) (v196 : Value) (n20 : Nat), L = #[true, true, true, true, true, false, false, true, false] → Hid (Held0 w36 NN19 w36 u) → Hid (IsNum u v196 rx) → Hid (Zero3 u n20) → NN19 ≤ n20 → F19 3 L (Act.put (Act.put A19 (some 20) (.pointer (some ⟨n20, 0, none⟩))) (some 196) v196) u := by
             intro L u v196 n20 hLL HK I196 Z20 g20
             subst hLL
             rw [← hF19.out, ← hA19.out]
             try simp only [Act.put, lt, ly, lu]
             refine wpAnyH_ready (rs := [5]) (by kernel_rfl) (by simp) (AllReadyH.cons (o := ?o5q94) ?e5q94 ?k5q94 AllReadyH.nil)
             case e5q94 => simp only [lg, lz, ls] <;> rfl
             case k5q94 =>
              intro K hK
              go_simp
              go_at_call 16
              refine (sub_val e_rx.out (HK.out.2.2.num hRr36.out) (HK.out.2.2.num hRx36.out) z_r.out z_x.out).mono ?_
              rintro e u2 ⟨v2, rfl, hv2, hb2⟩
              have HK2 := hcall HK.out HSZ19 hb2
              refine hK.out _ _ ?_ (fun hHeld => ?_)
              · (try dsimp only); exact HK2.1
              clear hK K; try simp only [Act.put, lt, ly, lu]
              rw [hF19.out]
              exact st19_2_20.out _ _ v196 v2 n20 (by kernel_rfl) HK2 (I196.out.keep hb2) hv2 (at_keep Z20.out hb2) g20
            try simp only [← hA19.out, Act.put, lt, ly, lu] at st19_1_20
            replace st19_1_20 := hid st19_1_20
            have st19_1_n : ∀ (L : Array Bool) (u : World) (v196 : Value), L = #[true, true, true, true, true, false, false, false, false] → Hid (Held0 w36 NN19 w36 u) → Hid (IsNum u v196 rx) → F19 4 L (Act.put A19 (some 196) v196) u := by
             intro L u v196 hLL HK I196
             subst hLL
             rw [← hF19.out, ← hA19.out]
             try simp only [Act.put, lt, ly, lu]
             refine wpAnyH_ready (rs := [5, 7]) (by kernel_rfl) (by simp) (AllReadyH.cons (o := ?o5q95) ?e5q95 ?k5q95 (AllReadyH.cons (o := ?o7q95) ?e7q95 ?k7q95 AllReadyH.nil))
             case e5q95 => simp only [lg, lz, ls] <;> rfl
             case e7q95 => simp only [lg, lz, ls] <;> rfl
             case k5q95 =>
              intro K hK
              go_simp
              go_at_call 16
              refine (sub_val e_rx.out (HK.out.2.2.num hRr36.out) (HK.out.2.2.num hRx36.out) z_r.out z_x.out).mono ?_
              rintro e u2 ⟨v2, rfl, hv2, hb2⟩
              have HK2 := hcall HK.out HSZ19 hb2
              refine hK.out _ _ ?_ (fun hHeld => ?_)
              · (try dsimp only); exact HK2.1
              clear hK K; try simp only [Act.put, lt, ly, lu]
              rw [hF19.out]
              exact st19_2_n.out _ _ v196 v2 (by kernel_rfl) HK2 (I196.out.keep hb2) hv2
             case k7q95 =>
              intro K hK
              go_simp
              have hb2 := zero_below u
              have Z2 := zero3_at u
              have hsz := hgrow HK.out HSZ19
              have HK2 := hcall HK.out HSZ19 hb2
              refine hK.out _ _ ?_ (fun hHeld => ?_)
              · (try dsimp only); exact HK2.1
              clear hK K; try simp only [Act.put, lt, ly, lu]
              rw [hF19.out]
              exact st19_1_20.out _ _ v196 u.heap.size (by kernel_rfl) HK2 (I196.out.keep hb2) Z2 hsz
            try simp only [← hA19.out, Act.put, lt, ly, lu] at st19_1_n
            replace st19_1_n := hid st19_1_n
            have st19_0_20 : ∀ (L : Array Bool) (u : World) (n20 : Nat), L = #[true, true, false, true, true, false, false, true, false] → Hid (Held0 w36 NN19 w36 u) → Hid (Zero3 u n20) → NN19 ≤ n20 → F19 4 L (Act.put A19 (some 20) (.pointer (some ⟨n20, 0, none⟩))) u := by
             intro L u n20 hLL HK Z20 g20
             subst hLL
             rw [← hF19.out, ← hA19.out]
             try simp only [Act.put, lt, ly, lu]
             refine wpAnyH_ready (rs := [2]) (by kernel_rfl) (by simp) (AllReadyH.cons (o := ?o2q96) ?e2q96 ?k2q96 AllReadyH.nil)
             case e2q96 => simp only [lg, lz, ls] <;> rfl
             case k2q96 =>
              intro K hK
              go_simp
              go_at_call 16
              refine (sub_val e_rx.out (HK.out.2.2.num hRr36.out) (HK.out.2.2.num hRx36.out) z_r.out z_x.out).mono ?_
              rintro e u2 ⟨v2, rfl, hv2, hb2⟩
              have HK2 := hcall HK.out HSZ19 hb2
              refine hK.out _ _ ?_ (fun hHeld => ?_)
              · (try dsimp only); exact HK2.1
              clear hK K; try simp only [Act.put, lt, ly, lu]
              rw [hF19.out]
              exact st19_1_20.out _ _ v2 n20 (by kernel_rfl) HK2 hv2 (at_keep Z20.out hb2) g20
            try simp only [← hA19.out, Act.put, lt, ly, lu] at st19_0_20
            replace st19_0_20 := hid st19_0_20
            have st19_0_n : ∀ (L : Array Bool) (u : World), L = #[true, true, false, true, true, false, false, false, false] → Hid (Held0 w36 NN19 w36 u) → F19 5 L A19 u := by
             intro L u  hLL HK
             subst hLL
             rw [← hF19.out, ← hA19.out]
             try simp only [Act.put, lt, ly, lu]
             refine wpAnyH_ready (rs := [2, 7]) (by kernel_rfl) (by simp) (AllReadyH.cons (o := ?o2q97) ?e2q97 ?k2q97 (AllReadyH.cons (o := ?o7q97) ?e7q97 ?k7q97 AllReadyH.nil))
             case e2q97 => simp only [lg, lz, ls] <;> rfl
             case e7q97 => simp only [lg, lz, ls] <;> rfl
             case k2q97 =>
              intro K hK
              go_simp
              go_at_call 16
              refine (sub_val e_rx.out (HK.out.2.2.num hRr36.out) (HK.out.2.2.num hRx36.out) z_r.out z_x.out).mono ?_
              rintro e u2 ⟨v2, rfl, hv2, hb2⟩
              have HK2 := hcall HK.out HSZ19 hb2
              refine hK.out _ _ ?_ (fun hHeld => ?_)
              · (try dsimp only); exact HK2.1
              clear hK K; try simp only [Act.put, lt, ly, lu]
              rw [hF19.out]
              exact st19_1_n.out _ _ v2 (by kernel_rfl) HK2 hv2
             case k7q97 =>
              intro K hK
              go_simp
              have hb2 := zero_below u
              have Z2 := zero3_at u
              have hsz := hgrow HK.out HSZ19
              have HK2 := hcall HK.out HSZ19 hb2
              refine hK.out _ _ ?_ (fun hHeld => ?_)
              · (try dsimp only); exact HK2.1
              clear hK K; try simp only [Act.put, lt, ly, lu]
              rw [hF19.out]
              exact st19_0_20.out _ _ u.heap.size (by kernel_rfl) HK2 Z2 hsz
            try simp only [← hA19.out, Act.put, lt, ly, lu] at st19_0_n
            replace st19_0_n := hid st19_0_n
            have HA := hA19.out
            subst HA
            exact st19_0_n.out _ _ (by kernel_rfl) H0h
          · skip
            obtain ⟨o, e_o⟩ : ∃ q : Rat, 0 = q := ⟨_, rfl⟩
            have v1 : decide (sz ≤ 0) = true := decide_eq_true (by rw [← e_sz.out]; exact Int.sign_nonpos_iff.2 (by omega))
            replace e_o := hid e_o
            have hz2 := hid (show z.num ≤ 0 by omega)
            clear hz
            have hg : w31.heap[w4.heap.size]? = some (.cells #[.bool (decide (x.num < 0)), .slice C1 (len x.num.natAbs) j1, .slice C2 (len (below x.den)) j2] 27 (0, 0)) := ((Below.refl _ w31).block _ (Array.getElem?_eq_some_iff.1 LRx31.out).1).trans LRx31.out
            obtain ⟨z_x_0, z_x_1, z_x_2⟩ := cells3 hg
            clear hg
            have hg : w31.heap[w4.heap.size + 2]? = some (.cells #[.bool (decide (z.num < 0)), .slice C5 (len z.num.natAbs) j5, .slice C6 (len (below z.den)) j6] 27 (0, 0)) := ((Below.refl _ w31).block _ (Array.getElem?_eq_some_iff.1 LRz31.out).1).trans LRz31.out
            obtain ⟨z_z_0, z_z_1, z_z_2⟩ := cells3 hg
            clear hg
            have HX := hid (round_no e_o.out hz2.out hRx31.out hRz31.out)
            go_wp2_with fail
            refine (HX.out).mono ?_
            rintro e w32 ⟨v32, rfl, hv32, b32⟩
            obtain ⟨C27, j27, C28, j28, rfl, -, -⟩ := id hv32.opened
            replace hv32 := hid hv32
            replace b32 := hid b32
            clear HX
            clear z_x_0 z_x_1 z_x_2 z_z_0 z_z_1 z_z_2
            go_upto_region 16 with fail
            obtain ⟨w33, hw33⟩ : ∃ u, u = w32.alloc (.cells #[.bool (decide (o.num < 0)), .slice C27 (len o.num.natAbs) j27, .slice C28 (len (below o.den)) j28] 27) := ⟨_, rfl⟩
            have b33 : Hid (Below w32.heap.size w32 w33) := by rw [hw33]; exact (Below.refl _ _).alloc (Nat.le_refl _) _
            have L33 : Hid (w33.heap[w32.heap.size]? = some (.cells #[.bool (decide (o.num < 0)), .slice C27 (len o.num.natAbs) j27, .slice C28 (len (below o.den)) j28] 27 (0, 0))) := by rw [hw33]; exact heap_alloc_new w32 _
            rw [← hw33]
            clear hw33
            have hg : w33.heap[w4.heap.size + 2]? = some (.cells #[.bool (decide (z.num < 0)), .slice C5 (len z.num.natAbs) j5, .slice C6 (len (below z.den)) j6] 27 (0, 0)) := ((Below.step b32.out b33.out).block _ (Array.getElem?_eq_some_iff.1 LRz31.out).1).trans LRz31.out
            obtain ⟨z_z_0, z_z_1, z_z_2⟩ := cells3 hg
            clear hg
            have HX := hid (sign_val e_sz.out (hRz31.out.keep (Below.step b32.out b33.out)))
            go_wp2_with fail
            refine (HX.out).mono ?_
            rintro e w34 ⟨rfl, b34⟩
            replace b34 := hid b34
            clear HX
            clear z_z_0 z_z_1 z_z_2
            have HX := hid (known_any (cell_keep HMB31.out (Below.step (Below.step b32.out b33.out) b34.out)) (tab_keep HTB31.out (Below.step (Below.step b32.out b33.out) b34.out)))
            go_wp2_with fail
            refine (HX.out).mono ?_
            rintro e w35 ⟨rfl, b35⟩
            replace b35 := hid b35
            clear HX
            have HE := hid (Below.step HBB31.out (Below.step (Below.step (Below.step b32.out b33.out) b34.out) b35.out))
            go_wp2_with fail
            go_ret
            exact ⟨rfl, HE.out⟩
  simp only [← hA7.out, Act.put, lt, ly, lu] at rest7
  replace rest7 := hid rest7
  have HA := hA7.out
  subst HA
  clear hG7
  have v1 := n1.out
  have v2 := n2.out
  have v3 := n3.out
  have v4 := n4.out
  have v5 := n5.out
  have v6 := e_kz.out
  go_wp2_with fail
  obtain ⟨NN5, hNN⟩ : ∃ n : Nat, w6.heap.size = n := ⟨_, rfl⟩
  have HSZ5 : Hid (w6.heap.size = NN5) := hNN
  have hg : w6.heap[w4.heap.size]? = some (.cells #[.bool (decide (x.num < 0)), .slice C1 (len x.num.natAbs) j1, .slice C2 (len (below x.den)) j2] 27 (0, 0)) := (b6.out.block _ (Array.getElem?_eq_some_iff.1 L5.out).1).trans L5.out
  obtain ⟨z_x_0, z_x_1, z_x_2⟩ := cells3 hg
  clear hg
  have hlt5_x : w4.heap.size < NN5 := Nat.lt_of_lt_of_eq (World.block_lt_of_cell? _ _ z_x_0) hNN
  have hg : w6.heap[w4.heap.size + 1]? = some (.cells #[.bool (decide (y.num < 0)), .slice C3 (len y.num.natAbs) j3, .slice C4 (len (below y.den)) j4] 27 (0, 0)) := (b6.out.block _ (Array.getElem?_eq_some_iff.1 M5.out).1).trans M5.out
  obtain ⟨z_y_0, z_y_1, z_y_2⟩ := cells3 hg
  clear hg
  have hlt5_y : w4.heap.size + 1 < NN5 := Nat.lt_of_lt_of_eq (World.block_lt_of_cell? _ _ z_y_0) hNN
  have hg : w6.heap[w4.heap.size + 2]? = some (.cells #[.bool (decide (z.num < 0)), .slice C5 (len z.num.natAbs) j5, .slice C6 (len (below z.den)) j6] 27 (0, 0)) := (b6.out.block _ (Array.getElem?_eq_some_iff.1 N5.out).1).trans N5.out
  obtain ⟨z_z_0, z_z_1, z_z_2⟩ := cells3 hg
  clear hg
  have hlt5_z : w4.heap.size + 2 < NN5 := Nat.lt_of_lt_of_eq (World.block_lt_of_cell? _ _ z_z_0) hNN
  have H0 := Held0.start w6 NN5
  have H0' := H0
  unfold Held0 at H0'
  refine wp_region_held_drew (S := (fun w' => (∀ b o, b < NN5 → w'.cell? ⟨b, o, none⟩ = w6.cell? ⟨b, o, none⟩) ∧ Below (NN5) w6 w' ∧ Stay w6 w')) (by kernel_rfl) ?_ (fun hHeld => ?_)
  · (try dsimp only)
    exact H0'
  obtain ⟨w7, hw7⟩ : ∃ u, u = w6.drew := ⟨_, rfl⟩
  have b7 : Hid (Below w6.heap.size w6 w7) := by rw [hw7]; exact ⟨rfl, rfl, rfl, Nat.le_refl _, fun _ _ => rfl⟩
  rw [← hw7] at hHeld H0 ⊢
  clear hw7 H0' hNN
  as_aux_lemma =>
   refine tk (i := 0) (h := ?_)
   try simp only [Act.put, lt, ly, lu]
   refine tk (i := 1) (h := ?_)
   try simp only [Act.put, lt, ly, lu]
   refine tk (i := 2) (h := ?_)
   try simp only [Act.put, lt, ly, lu]
   refine wpAnyH_ready (rs := [3]) (by kernel_rfl) (by simp) (AllReadyH.cons (o := ?oq101) ?eq101 ?kq101 AllReadyH.nil)
   case eq101 => simp only [lg, lz, ls]; rfl
   intro K hK; go_simp; go_at_call 21
   refine (cmp_val e_k2.out (hRy5.out.keep (Below.step b6.out b7.out)) (hRx5.out.keep (Below.step b6.out b7.out)) z_y.out z_x.out).mono ?_
   rintro e w8 ⟨rfl, b8⟩
   replace b8 := hid b8; have hk8 := hcall H0 HSZ5 b8.out; have hk8' := hk8; unfold Held0 at hk8'; clear hHeld H0
   refine hK.out _ _ ?_ (fun hHeld => ?_)
   · (try dsimp only); with_reducible exact hk8'
   clear hK K hk8'; try simp only [Act.put, lt, ly, lu]
   refine tk (i := 4) (h := ?_)
   try simp only [Act.put, lt, ly, lu]
   refine tk (i := 5) (h := ?_)
   try simp only [Act.put, lt, ly, lu]
   refine tk (i := 6) (h := ?_)
   try simp only [Act.put, lt, ly, lu]
   refine tk (i := 7) (h := ?_)
   try simp only [Act.put, lt, ly, lu]
   refine tk (i := 8) (h := ?_)
   try simp only [Act.put, lt, ly, lu]
   refine tk (i := 9) (h := ?_)
   try simp only [Act.put, lt, ly, lu]
   refine tk (i := 10) (h := ?_)
   try simp only [Act.put, lt, ly, lu]
   refine tk (i := 11) (h := ?_)
   try simp only [Act.put, lt, ly, lu]
   as_aux_lemma =>
    refine tk (i := 12) (h := ?_)
    try simp only [Act.put, lt, ly, lu]
    refine tk (i := 13) (h := ?_)
    try simp only [Act.put, lt, ly, lu]
    refine tk (i := 14) (h := ?_)
    try simp only [Act.put, lt, ly, lu]
    refine tk (i := 15) (h := ?_)
    try simp only [Act.put, lt, ly, lu]
    refine tk (i := 16) (h := ?_)
    try simp only [Act.put, lt, ly, lu]
    refine tk (i := 19) (h := ?_)
    try simp only [Act.put, lt, ly, lu]
    refine wpAnyH_ready (rs := [17]) (by kernel_rfl) (by simp) (AllReadyH.cons (o := ?oq116) ?eq116 ?kq116 AllReadyH.nil)
    case eq116 => simp only [lg, lz, ls]; rfl
    intro K hK; go_simp; go_at_call 16
    refine (sub_val e_dxy.out (hRx5.out.keep (Below.step (Below.step b6.out b7.out) b8.out)) (hRy5.out.keep (Below.step (Below.step b6.out b7.out) b8.out)) z_x.out z_y.out).mono ?_
    rintro e w9 ⟨v9, rfl, hv9, b9⟩
    obtain ⟨C7, j7, C8, j8, rfl, -, -⟩ := id hv9.opened; replace hv9 := hid hv9
    replace b9 := hid b9; have hk9 := hcall hk8 HSZ5 b9.out; have hk9' := hk9; unfold Held0 at hk9'; clear hHeld hk8
    refine hK.out _ _ ?_ (fun hHeld => ?_)
    · (try dsimp only); with_reducible exact hk9'
    clear hK K hk9'; try simp only [Act.put, lt, ly, lu]
    refine wpAnyH_ready (rs := [18]) (by kernel_rfl) (by simp) (AllReadyH.cons (o := ?oq117) ?eq117 ?kq117 AllReadyH.nil)
    case eq117 => simp only [lg, lz, ls]; rfl
    intro K hK; go_simp; go_at_call 20
    refine (sign_val n6.out hv9.out).mono ?_
    rintro e w10 ⟨rfl, b10⟩
    replace b10 := hid b10; have hk10 := hcall hk9 HSZ5 b10.out; have hk10' := hk10; unfold Held0 at hk10'; clear hHeld hk9
    refine hK.out _ _ ?_ (fun hHeld => ?_)
    · (try dsimp only); with_reducible exact hk10'
    clear hK K hk10'; try simp only [Act.put, lt, ly, lu]
    refine tk (i := 20) (h := ?_)
    try simp only [Act.put, lt, ly, lu]
    refine tk (i := 21) (h := ?_)
    try simp only [Act.put, lt, ly, lu]
    refine tk (i := 22) (h := ?_)
    try simp only [Act.put, lt, ly, lu]
    refine tk (i := 23) (h := ?_)
    try simp only [Act.put, lt, ly, lu]
    as_aux_lemma =>
     refine tk (i := 24) (h := ?_)
     try simp only [Act.put, lt, ly, lu]
     refine tk (i := 26) (h := ?_)
     try simp only [Act.put, lt, ly, lu]
     refine tk (i := 27) (h := ?_)
     try simp only [Act.put, lt, ly, lu]
     refine tk (i := 30) (h := ?_)
     try simp only [Act.put, lt, ly, lu]
     refine wpAnyH_ready (rs := [25]) (by kernel_rfl) (by simp) (AllReadyH.cons (o := ?oq126) ?eq126 ?kq126 AllReadyH.nil)
     case eq126 => simp only [lg, lz, ls]; rfl
     intro K hK; go_simp; go_at_call 14
     refine (add_val e_xz.out (hRx5.out.keep (Below.step (Below.step (Below.step (Below.step b6.out b7.out) b8.out) b9.out) b10.out)) (hRz5.out.keep (Below.step (Below.step (Below.step (Below.step b6.out b7.out) b8.out) b9.out) b10.out)) z_x.out z_z.out).mono ?_
     rintro e w11 ⟨v11, rfl, hv11, b11⟩
     obtain ⟨C9, j9, C10, j10, rfl, -, -⟩ := id hv11.opened; replace hv11 := hid hv11
     replace b11 := hid b11; have hk11 := hcall hk10 HSZ5 b11.out; have hk11' := hk11; unfold Held0 at hk11'; clear hHeld hk10
     refine hK.out _ _ ?_ (fun hHeld => ?_)
     · (try dsimp only); with_reducible exact hk11'
     clear hK K hk11'; try simp only [Act.put, lt, ly, lu]
     refine wpAnyH_ready (rs := [28]) (by kernel_rfl) (by simp) (AllReadyH.cons (o := ?oq127) ?eq127 ?kq127 AllReadyH.nil)
     case eq127 => simp only [lg, lz, ls]; rfl
     intro K hK; go_simp; go_at_call 14
     refine (add_val e_yz.out (hRy5.out.keep (Below.step (Below.step (Below.step (Below.step (Below.step b6.out b7.out) b8.out) b9.out) b10.out) b11.out)) (hRz5.out.keep (Below.step (Below.step (Below.step (Below.step (Below.step b6.out b7.out) b8.out) b9.out) b10.out) b11.out)) z_y.out z_z.out).mono ?_
     rintro e w12 ⟨v12, rfl, hv12, b12⟩
     obtain ⟨C11, j11, C12, j12, rfl, -, -⟩ := id hv12.opened; replace hv12 := hid hv12
     replace b12 := hid b12; have hk12 := hcall hk11 HSZ5 b12.out; have hk12' := hk12; unfold Held0 at hk12'; clear hHeld hk11
     refine hK.out _ _ ?_ (fun hHeld => ?_)
     · (try dsimp only); with_reducible exact hk12'
     clear hK K hk12'; try simp only [Act.put, lt, ly, lu]
     refine wpAnyH_ready (rs := [29]) (by kernel_rfl) (by simp) (AllReadyH.cons (o := ?oq128) ?eq128 ?kq128 AllReadyH.nil)
     case eq128 => simp only [lg, lz, ls]; rfl
     intro K hK; go_simp; go_at_call 21
     refine (cmp_val n7.out (hv11.out.keep b12.out) hv12.out z_xz.out z_yz.out).mono ?_
     rintro e w13 ⟨rfl, b13⟩
     replace b13 := hid b13; have hk13 := hcall hk12 HSZ5 b13.out; have hk13' := hk13; unfold Held0 at hk13'; clear hHeld hk12
     refine hK.out _ _ ?_ (fun hHeld => ?_)
     · (try dsimp only); with_reducible exact hk13'
     clear hK K hk13'; try simp only [Act.put, lt, ly, lu]
     refine tk (i := 31) (h := ?_)
     try simp only [Act.put, lt, ly, lu]
     refine tk (i := 32) (h := ?_)
     try simp only [Act.put, lt, ly, lu]
     refine tk (i := 33) (h := ?_)
     try simp only [Act.put, lt, ly, lu]
     refine tk (i := 34) (h := ?_)
     try simp only [Act.put, lt, ly, lu]
     refine tk (i := 35) (h := ?_)
     try simp only [Act.put, lt, ly, lu]
     as_aux_lemma =>
      refine tk (i := 37) (h := ?_)
      try simp only [Act.put, lt, ly, lu]
      refine tk (i := 38) (h := ?_)
      try simp only [Act.put, lt, ly, lu]
      refine tk (i := 41) (h := ?_)
      try simp only [Act.put, lt, ly, lu]
      refine tk (i := 42) (h := ?_)
      try simp only [Act.put, lt, ly, lu]
      refine wpAnyH_ready (rs := [36]) (by kernel_rfl) (by simp) (AllReadyH.cons (o := ?oq138) ?eq138 ?kq138 AllReadyH.nil)
      case eq138 => simp only [lg, lz, ls]; rfl
      intro K hK; go_simp; go_at_call 15
      refine (mul_val' e_mxz.out (hRx5.out.keep (Below.step (Below.step (Below.step (Below.step (Below.step (Below.step (Below.step b6.out b7.out) b8.out) b9.out) b10.out) b11.out) b12.out) b13.out)) (hRz5.out.keep (Below.step (Below.step (Below.step (Below.step (Below.step (Below.step (Below.step b6.out b7.out) b8.out) b9.out) b10.out) b11.out) b12.out) b13.out)) z_x.out z_z.out).mono ?_
      rintro e w14 ⟨v14, rfl, hv14, b14⟩
      obtain ⟨C13, j13, C14, j14, rfl, -, -⟩ := id hv14.opened; replace hv14 := hid hv14
      replace b14 := hid b14; have hk14 := hcall hk13 HSZ5 b14.out; have hk14' := hk14; unfold Held0 at hk14'; clear hHeld hk13
      refine hK.out _ _ ?_ (fun hHeld => ?_)
      · (try dsimp only); with_reducible exact hk14'
      clear hK K hk14'; try simp only [Act.put, lt, ly, lu]
      refine wpAnyH_ready (rs := [39]) (by kernel_rfl) (by simp) (AllReadyH.cons (o := ?oq139) ?eq139 ?kq139 AllReadyH.nil)
      case eq139 => simp only [lg, lz, ls]; rfl
      intro K hK; go_simp; go_at_call 15
      refine (mul_val' e_myz.out (hRy5.out.keep (Below.step (Below.step (Below.step (Below.step (Below.step (Below.step (Below.step (Below.step b6.out b7.out) b8.out) b9.out) b10.out) b11.out) b12.out) b13.out) b14.out)) (hRz5.out.keep (Below.step (Below.step (Below.step (Below.step (Below.step (Below.step (Below.step (Below.step b6.out b7.out) b8.out) b9.out) b10.out) b11.out) b12.out) b13.out) b14.out)) z_y.out z_z.out).mono ?_
      rintro e w15 ⟨v15, rfl, hv15, b15⟩
      obtain ⟨C15, j15, C16, j16, rfl, -, -⟩ := id hv15.opened; replace hv15 := hid hv15
      replace b15 := hid b15; have hk15 := hcall hk14 HSZ5 b15.out; have hk15' := hk15; unfold Held0 at hk15'; clear hHeld hk14
      refine hK.out _ _ ?_ (fun hHeld => ?_)
      · (try dsimp only); with_reducible exact hk15'
      clear hK K hk15'; try simp only [Act.put, lt, ly, lu]
      refine wpAnyH_ready (rs := [40]) (by kernel_rfl) (by simp) (AllReadyH.cons (o := ?oq140) ?eq140 ?kq140 AllReadyH.nil)
      case eq140 => simp only [lg, lz, ls]; rfl
      intro K hK; go_simp; go_at_call 21
      refine (cmp_val n8.out (hv14.out.keep b15.out) hv15.out z_mxz.out z_myz.out).mono ?_
      rintro e w16 ⟨rfl, b16⟩
      replace b16 := hid b16; have hk16 := hcall hk15 HSZ5 b16.out; have hk16' := hk16; unfold Held0 at hk16'; clear hHeld hk15
      refine hK.out _ _ ?_ (fun hHeld => ?_)
      · (try dsimp only); with_reducible exact hk16'
      clear hK K hk16'; try simp only [Act.put, lt, ly, lu]
      refine wpAnyH_ready (rs := [43]) (by kernel_rfl) (by simp) (AllReadyH.cons (o := ?oq141) ?eq141 ?kq141 AllReadyH.nil)
      case eq141 => simp only [lg, lz, ls]; rfl
      intro K hK; go_simp; go_at_call 20
      refine (sign_val e_sz.out (hRz5.out.keep (Below.step (Below.step (Below.step (Below.step (Below.step (Below.step (Below.step (Below.step (Below.step (Below.step b6.out b7.out) b8.out) b9.out) b10.out) b11.out) b12.out) b13.out) b14.out) b15.out) b16.out))).mono ?_
      rintro e w17 ⟨rfl, b17⟩
      replace b17 := hid b17; have hk17 := hcall hk16 HSZ5 b17.out; have hk17' := hk17; unfold Held0 at hk17'; clear hHeld hk16
      refine hK.out _ _ ?_ (fun hHeld => ?_)
      · (try dsimp only); with_reducible exact hk17'
      clear hK K hk17'; try simp only [Act.put, lt, ly, lu]
      refine tk (i := 44) (h := ?_)
      try simp only [Act.put, lt, ly, lu]
      refine tk (i := 45) (h := ?_)
      try simp only [Act.put, lt, ly, lu]
      refine tk (i := 46) (h := ?_)
      try simp only [Act.put, lt, ly, lu]
      clear v1 v2 v3 v4 v5 v6
      rcases Decidable.em (k ≤ 0) with hk0 | hk0
      · skip
        rcases Decidable.em (c1 ≤ 0) with hc0 | hc0
        · have v7 := n9.out hk0 hc0
          have v8 : decide (k ≤ 0) = true := decide_eq_true hk0
          have v9 : decide (c1 ≤ 0) = true := decide_eq_true hc0
          clear hk0 hc0
          as_aux_lemma =>
           refine tk (i := 47) (h := ?_)
           try simp only [Act.put, lt, ly, lu]
           refine tk (i := 48) (h := ?_)
           try simp only [Act.put, lt, ly, lu]
           refine tk (i := 49) (h := ?_)
           try simp only [Act.put, lt, ly, lu]
           refine tk (i := 50) (h := ?_)
           try simp only [Act.put, lt, ly, lu]
           refine tk (i := 51) (h := ?_)
           try simp only [Act.put, lt, ly, lu]
           refine tk (i := 52) (h := ?_)
           try simp only [Act.put, lt, ly, lu]
           refine wpAnyH_ready (rs := [53]) (by kernel_rfl) (by simp) (AllReadyH.cons (o := ?oq151) ?eq151 ?kq151 AllReadyH.nil)
           case eq151 => simp only [lg, lz, ls]; rfl
           intro K hK; go_simp; go_at_call 21
           refine (cmp_val e_c1.out (hRy5.out.keep (Below.step (Below.step (Below.step (Below.step (Below.step (Below.step (Below.step (Below.step (Below.step (Below.step (Below.step b6.out b7.out) b8.out) b9.out) b10.out) b11.out) b12.out) b13.out) b14.out) b15.out) b16.out) b17.out)) (hRz5.out.keep (Below.step (Below.step (Below.step (Below.step (Below.step (Below.step (Below.step (Below.step (Below.step (Below.step (Below.step b6.out b7.out) b8.out) b9.out) b10.out) b11.out) b12.out) b13.out) b14.out) b15.out) b16.out) b17.out)) z_y.out z_z.out).mono ?_
           rintro e w18 ⟨rfl, b18⟩
           replace b18 := hid b18; have hk18 := hcall hk17 HSZ5 b18.out; have hk18' := hk18; unfold Held0 at hk18'; clear hHeld hk17
           refine hK.out _ _ ?_ (fun hHeld => ?_)
           · (try dsimp only); with_reducible exact hk18'
           clear hK K hk18'; try simp only [Act.put, lt, ly, lu]
           refine tk (i := 54) (h := ?_)
           try simp only [Act.put, lt, ly, lu]
           refine tk (i := 55) (h := ?_)
           try simp only [Act.put, lt, ly, lu]
           refine tk (i := 56) (h := ?_)
           try simp only [Act.put, lt, ly, lu]
           refine tk (i := 57) (h := ?_)
           try simp only [Act.put, lt, ly, lu]
           refine tk (i := 58) (h := ?_)
           try simp only [Act.put, lt, ly, lu]
           as_aux_lemma =>
            refine wpAnyH_ready (rs := [59]) (by kernel_rfl) (by simp) (AllReadyH.cons (o := ?oq157) ?eq157 ?kq157 AllReadyH.nil)
            case eq157 => simp only [lg, lz, ls]; rfl
            intro K hK; go_simp; go_at_call 21
            refine (cmp_val e_c2.out (hRx5.out.keep (Below.step (Below.step (Below.step (Below.step (Below.step (Below.step (Below.step (Below.step (Below.step (Below.step (Below.step (Below.step b6.out b7.out) b8.out) b9.out) b10.out) b11.out) b12.out) b13.out) b14.out) b15.out) b16.out) b17.out) b18.out)) (hRz5.out.keep (Below.step (Below.step (Below.step (Below.step (Below.step (Below.step (Below.step (Below.step (Below.step (Below.step (Below.step (Below.step b6.out b7.out) b8.out) b9.out) b10.out) b11.out) b12.out) b13.out) b14.out) b15.out) b16.out) b17.out) b18.out)) z_x.out z_z.out).mono ?_
            rintro e w19 ⟨rfl, b19⟩
            replace b19 := hid b19; have hk19 := hcall hk18 HSZ5 b19.out; have hk19' := hk19; unfold Held0 at hk19'; clear hHeld hk18
            refine hK.out _ _ ?_ (fun hHeld => ?_)
            · (try dsimp only); with_reducible exact hk19'
            clear hK K hk19'; try simp only [Act.put, lt, ly, lu]
            refine tk (i := 60) (h := ?_)
            try simp only [Act.put, lt, ly, lu]
            refine tk (i := 61) (h := ?_)
            try simp only [Act.put, lt, ly, lu]
            refine tk (i := 62) (h := ?_)
            try simp only [Act.put, lt, ly, lu]
            refine wpAnyH_done (by kernel_rfl) ?_ _
            clear hHeld
            go_wp2_with fail
            have HBz := hid (Below.step (Below.step (Below.step (Below.step (Below.step (Below.step (Below.step (Below.step (Below.step (Below.step (Below.step (Below.step b7.out b8.out) b9.out) b10.out) b11.out) b12.out) b13.out) b14.out) b15.out) b16.out) b17.out) b18.out) b19.out)
            exact rest7.out _ _ _ _ _ _ _ _ _ _ _ _ _ _ _ _ _ _ _ _ _ _ _ _ _ _ _ _ _ _ _ _ _ _ _ _ _ _ _ _ _ _ _ _ _ _ _ _ _ _ _ _ _ _ _ _ _ _ _ _ _ _ _ _ HBz
        · have v8 : decide (k ≤ 0) = true := decide_eq_true hk0
          have v9 : decide (c1 ≤ 0) = false := decide_eq_false hc0
          clear hk0 hc0
          as_aux_lemma =>
           refine tk (i := 47) (h := ?_)
           try simp only [Act.put, lt, ly, lu]
           refine tk (i := 48) (h := ?_)
           try simp only [Act.put, lt, ly, lu]
           refine tk (i := 49) (h := ?_)
           try simp only [Act.put, lt, ly, lu]
           refine tk (i := 50) (h := ?_)
           try simp only [Act.put, lt, ly, lu]
           refine tk (i := 51) (h := ?_)
           try simp only [Act.put, lt, ly, lu]
           refine tk (i := 52) (h := ?_)
           try simp only [Act.put, lt, ly, lu]
           refine wpAnyH_ready (rs := [53]) (by kernel_rfl) (by simp) (AllReadyH.cons (o := ?oq167) ?eq167 ?kq167 AllReadyH.nil)
           case eq167 => simp only [lg, lz, ls]; rfl
           intro K hK; go_simp; go_at_call 21
           refine (cmp_val e_c1.out (hRy5.out.keep (Below.step (Below.step (Below.step (Below.step (Below.step (Below.step (Below.step (Below.step (Below.step (Below.step (Below.step b6.out b7.out) b8.out) b9.out) b10.out) b11.out) b12.out) b13.out) b14.out) b15.out) b16.out) b17.out)) (hRz5.out.keep (Below.step (Below.step (Below.step (Below.step (Below.step (Below.step (Below.step (Below.step (Below.step (Below.step (Below.step b6.out b7.out) b8.out) b9.out) b10.out) b11.out) b12.out) b13.out) b14.out) b15.out) b16.out) b17.out)) z_y.out z_z.out).mono ?_
           rintro e w18 ⟨rfl, b18⟩
           replace b18 := hid b18; have hk18 := hcall hk17 HSZ5 b18.out; have hk18' := hk18; unfold Held0 at hk18'; clear hHeld hk17
           refine hK.out _ _ ?_ (fun hHeld => ?_)
           · (try dsimp only); with_reducible exact hk18'
           clear hK K hk18'; try simp only [Act.put, lt, ly, lu]
           refine tk (i := 54) (h := ?_)
           try simp only [Act.put, lt, ly, lu]
           refine tk (i := 55) (h := ?_)
           try simp only [Act.put, lt, ly, lu]
           refine tk (i := 56) (h := ?_)
           try simp only [Act.put, lt, ly, lu]
           refine tk (i := 57) (v := undef) (hy := by exact Or.inr ⟨by rfl, rfl⟩) (h := ?_)
           try simp only [Act.put, lt, ly, lu]
           refine tk (i := 58) (v := undef) (hy := by exact Or.inr ⟨by rfl, rfl⟩) (h := ?_)
           try simp only [Act.put, lt, ly, lu]
           as_aux_lemma =>
            refine wpAnyH_ready (rs := [59]) (by kernel_rfl) (by simp) (AllReadyH.cons (o := ?oq173) ?eq173 ?kq173 AllReadyH.nil)
            case eq173 => simp only [lg, lz, ls]; rfl
            intro K hK; go_simp
            refine hK.out _ _ ?_ (fun hHeld2 => ?_)
            · (try dsimp only); exact hHeld
            clear hK K hHeld
            try simp only [Act.put, lt, ly, lu]
            have hHeld := hHeld2
            clear hHeld2
            refine tk (i := 60) (v := undef) (hy := by exact Or.inr ⟨by rfl, rfl⟩) (h := ?_)
            try simp only [Act.put, lt, ly, lu]
            refine tk (i := 61) (h := ?_)
            try simp only [Act.put, lt, ly, lu]
            refine tk (i := 62) (h := ?_)
            try simp only [Act.put, lt, ly, lu]
            refine wpAnyH_done (by kernel_rfl) ?_ _
            clear hHeld
            go_wp2_with fail
            have HBz := hid (Below.step (Below.step (Below.step (Below.step (Below.step (Below.step (Below.step (Below.step (Below.step (Below.step (Below.step b7.out b8.out) b9.out) b10.out) b11.out) b12.out) b13.out) b14.out) b15.out) b16.out) b17.out) b18.out)
            exact rest7.out _ _ _ _ _ _ _ _ _ _ _ _ _ _ _ _ _ _ _ _ _ _ _ _ _ _ _ _ _ _ _ _ _ _ _ _ _ _ _ _ _ _ _ _ _ _ _ _ _ _ _ _ _ _ _ _ _ _ _ _ _ _ _ _ HBz
      · have v8 : decide (k ≤ 0) = false := decide_eq_false hk0
        clear hk0
        as_aux_lemma =>
         refine tk (i := 47) (h := ?_)
         try simp only [Act.put, lt, ly, lu]
         refine tk (i := 48) (h := ?_)
         try simp only [Act.put, lt, ly, lu]
         refine tk (i := 49) (h := ?_)
         try simp only [Act.put, lt, ly, lu]
         refine tk (i := 50) (h := ?_)
         try simp only [Act.put, lt, ly, lu]
         refine tk (i := 51) (v := undef) (hy := by exact Or.inr ⟨by rfl, rfl⟩) (h := ?_)
         try simp only [Act.put, lt, ly, lu]
         refine tk (i := 52) (v := undef) (hy := by exact Or.inr ⟨by rfl, rfl⟩) (h := ?_)
         try simp only [Act.put, lt, ly, lu]
         refine wpAnyH_ready (rs := [53]) (by kernel_rfl) (by simp) (AllReadyH.cons (o := ?oq183) ?eq183 ?kq183 AllReadyH.nil)
         case eq183 => simp only [lg, lz, ls]; rfl
         intro K hK; go_simp
         refine hK.out _ _ ?_ (fun hHeld2 => ?_)
         · (try dsimp only); exact hHeld
         clear hK K hHeld
         try simp only [Act.put, lt, ly, lu]
         have hHeld := hHeld2
         clear hHeld2
         refine tk (i := 54) (v := undef) (hy := by exact Or.inr ⟨by rfl, rfl⟩) (h := ?_)
         try simp only [Act.put, lt, ly, lu]
         refine tk (i := 55) (h := ?_)
         try simp only [Act.put, lt, ly, lu]
         refine tk (i := 56) (h := ?_)
         try simp only [Act.put, lt, ly, lu]
         refine tk (i := 57) (v := undef) (hy := by exact Or.inr ⟨by rfl, rfl⟩) (h := ?_)
         try simp only [Act.put, lt, ly, lu]
         refine tk (i := 58) (v := undef) (hy := by exact Or.inr ⟨by rfl, rfl⟩) (h := ?_)
         try simp only [Act.put, lt, ly, lu]
         as_aux_lemma =>
          refine wpAnyH_ready (rs := [59]) (by kernel_rfl) (by simp) (AllReadyH.cons (o := ?oq189) ?eq189 ?kq189 AllReadyH.nil)
          case eq189 => simp only [lg, lz, ls]; rfl
          intro K hK; go_simp
          refine hK.out _ _ ?_ (fun hHeld2 => ?_)
          · (try dsimp only); exact hHeld
          clear hK K hHeld
          try simp only [Act.put, lt, ly, lu]
          have hHeld := hHeld2
          clear hHeld2
          refine tk (i := 60) (v := undef) (hy := by exact Or.inr ⟨by rfl, rfl⟩) (h := ?_)
          try simp only [Act.put, lt, ly, lu]
          refine tk (i := 61) (h := ?_)
          try simp only [Act.put, lt, ly, lu]
          refine tk (i := 62) (h := ?_)
          try simp only [Act.put, lt, ly, lu]
          refine wpAnyH_done (by kernel_rfl) ?_ _
          clear hHeld
          go_wp2_with fail
          have HBz := hid (Below.step (Below.step (Below.step (Below.step (Below.step (Below.step (Below.step (Below.step (Below.step (Below.step b7.out b8.out) b9.out) b10.out) b11.out) b12.out) b13.out) b14.out) b15.out) b16.out) b17.out)
          exact rest7.out _ _ _ _ _ _ _ _ _ _ _ _ _ _ _ _ _ _ _ _ _ _ _ _ _ _ _ _ _ _ _ _ _ _ _ _ _ _ _ _ _ _ _ _ _ _ _ _ _ _ _ _ _ _ _ _ _ _ _ _ _ _ _ _ HBz

theorem order_any {w : World} {sa sb sc : ByteArray} {mx : Int} (hM : w.cell? ⟨1, 0, none⟩ = some (.int .i64 mx)) (hT : TabAt 0 Lib.deBruijn64tab w) :
    Calls Tryz.prog 4 #[.string sa, .string sb, .string sc] w (BoolRet w true) := by
  rcases h : [sa, sb, sc].any (fun s => decide (120 < s.size)) with _ | _
  · exact order_short h hM hT
  · exact order_long h hM hT
end Go.Proofs.YtlffafddmmhbmaaGreatDoor
