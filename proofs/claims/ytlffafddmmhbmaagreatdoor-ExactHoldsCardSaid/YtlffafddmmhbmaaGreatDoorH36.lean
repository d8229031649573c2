/-
  Contracts of the functions that the law calls, for every input (HoB).
-/
import Derived.Test.YtlffafddmmhbmaaGreatDoorH35
set_option linter.all false
namespace Go.Proofs.YtlffafddmmhbmaaGreatDoor
open Go.RowKit
open Vx
open Lib (hid)
open List renaming getElem?_toArray → lg, getElem?_cons_zero → lz, getElem?_cons_succ → ls, setIfInBounds_toArray → lt, set_cons_zero → ly, set_cons_succ → lu

/-- what follows the n-th statement of a function -/
def restOf : Code → Code
  | .seq _ b => b
  | c => c
def codeAt (n : Nat) (fn : Func) : Code := Nat.repeat restOf n (fn.body.getD .skip)

set_option maxRecDepth 100000 in
set_option maxHeartbeats 40000000 in
theorem holds_back {w w1 : World} {mx : Int} {a b c d x y P1 P2 : Rat} {nn : Nat} {C1 C2 C3 C4 : Option Addr} {j1 j2 j3 j4 blk_s : Nat} {C5 C6 C7 C8 : Option Addr} {j5 j6 j7 j8 blk_t : Nat} {C9 C10 : Option Addr} {j9 j10 blk_x : Nat} {C11 C12 : Option Addr} {j11 j12 blk_y : Nat} {C13 C14 C15 C16 : Option Addr} {j13 j14 j15 j16 blk_pw : Nat} {y0 y1 y2 y9 y10 y11 y12 y13 y14 y15 y16 y17 y18 y19 y20 y21 y22 y23 y24 y25 y26 y27 y28 y29 y30 y31 y32 y33 y34 y35 y36 y37 y38 y39 y40 y41 y42 y43 y44 y45 y46 y47 y48 y49 y50 y51 y52 y53 y54 y55 y56 y57 y58 y59 y60 y61 y62 y63 y64 y65 y66 y67 y68 y69 y70 y71 y72 y73 y74 y75 y76 y77 y78 y79 y80 y81 y82 y83 y84 y85 y86 y87 y88 y89 y90 y91 y92 y93 y94 y95 y96 y97 y98 y99 y100 y101 y102 y103 y104 y105 y106 y107 y108 y109 y110 y111 y112 y113 y114 y115 y116 y117 y118 y119 y120 y121 y122 y123 y124 y125 y126 y127 y128 y129 y130 y131 y132 y133 y134 y135 y136 y137 y138 y139 y140 y141 y142 y143 y144 y145 y146 y147 y148 y149 y150 y151 y152 y153 y154 y155 y156 y157 y158 y159 y160 y161 y162 y163 y164 y165 y166 y167 y168 y169 y170 y171 y172 y173 y174 y175 y176 y177 y178 y179 y180 y181 y182 y183 y184 y185 y186 y187 y188 y189 y190 y191 y192 y193 y194 y195 y196 y197 y198 y199 y200 y201 y202 y203 y204 y205 y206 y207 y208 y209 y210 y211 y212 y213 y214 y215 y216 y217 y218 y219 y220 y221 y222 y223 y224 y225 y226 y227 y228 y229 y230 y231 y232 y233 y234 y235 y236 y237 y238 y239 y240 y241 y242 : Value}
    (zz_a : siz a ≤ 4100) (zz_b : siz b ≤ 4100) (zz_c : siz c ≤ 4100) (zz_d : siz d ≤ 4100) (zz_x : siz x ≤ 20000) (zz_y : siz y ≤ 20000) (hab : a ≤ b) (hx : a ≤ x ∧ x ≤ b) (hy : c ≤ y ∧ y ≤ d) (hn6 : nn ≤ 6)
    (e_P1 : (if nn % 2 = 0 then absLo a b else a) ^ nn = P1) (e_P2 : (if nn % 2 = 0 then absHi a b else b) ^ nn = P2)
    (hv_s : IsBox w1 (.agg #[.bool (decide (a.num < 0)), .slice C1 (len a.num.natAbs) j1, .slice C2 (len (below a.den)) j2, .bool (decide (b.num < 0)), .slice C3 (len b.num.natAbs) j3, .slice C4 (len (below b.den)) j4]) a b) (L_s : w1.heap[blk_s]? = some (.cells #[.bool (decide (a.num < 0)), .slice C1 (len a.num.natAbs) j1, .slice C2 (len (below a.den)) j2, .bool (decide (b.num < 0)), .slice C3 (len b.num.natAbs) j3, .slice C4 (len (below b.den)) j4] 53 (0, 0))) (hv_t : IsBox w1 (.agg #[.bool (decide (c.num < 0)), .slice C5 (len c.num.natAbs) j5, .slice C6 (len (below c.den)) j6, .bool (decide (d.num < 0)), .slice C7 (len d.num.natAbs) j7, .slice C8 (len (below d.den)) j8]) c d) (L_t : w1.heap[blk_t]? = some (.cells #[.bool (decide (c.num < 0)), .slice C5 (len c.num.natAbs) j5, .slice C6 (len (below c.den)) j6, .bool (decide (d.num < 0)), .slice C7 (len d.num.natAbs) j7, .slice C8 (len (below d.den)) j8] 53 (0, 0))) (hv_x : IsNum w1 (.agg #[.bool (decide (x.num < 0)), .slice C9 (len x.num.natAbs) j9, .slice C10 (len (below x.den)) j10]) x) (L_x : w1.heap[blk_x]? = some (.cells #[.bool (decide (x.num < 0)), .slice C9 (len x.num.natAbs) j9, .slice C10 (len (below x.den)) j10] 27 (0, 0))) (hv_y : IsNum w1 (.agg #[.bool (decide (y.num < 0)), .slice C11 (len y.num.natAbs) j11, .slice C12 (len (below y.den)) j12]) y) (L_y : w1.heap[blk_y]? = some (.cells #[.bool (decide (y.num < 0)), .slice C11 (len y.num.natAbs) j11, .slice C12 (len (below y.den)) j12] 27 (0, 0))) (hv_pw : IsBox w1 (.agg #[.bool (decide (P1.num < 0)), .slice C13 (len P1.num.natAbs) j13, .slice C14 (len (below P1.den)) j14, .bool (decide (P2.num < 0)), .slice C15 (len P2.num.natAbs) j15, .slice C16 (len (below P2.den)) j16]) P1 P2) (L_pw : w1.heap[blk_pw]? = some (.cells #[.bool (decide (P1.num < 0)), .slice C13 (len P1.num.natAbs) j13, .slice C14 (len (below P1.den)) j14, .bool (decide (P2.num < 0)), .slice C15 (len P2.num.natAbs) j15, .slice C16 (len (below P2.den)) j16] 53 (0, 0))) (hM : w1.cell? ⟨1, 0, none⟩ = some (.int .i64 mx)) (hT : TabAt 0 Lib.deBruijn64tab w1) (hB : Below w.heap.size w w1) :
    (codeAt 7 Tryz.f6).wp Tryz.prog (bodyPost Tryz.prog Tryz.f6 (BoolRet w true)) { tmps := #[y0, y1, y2, .pointer (some ⟨blk_s, 0, none⟩), .pointer (some ⟨blk_t, 0, none⟩), .int .i64 (nn : Nat), .pointer (some ⟨blk_x, 0, none⟩), .pointer (some ⟨blk_y, 0, none⟩), .pointer (some ⟨blk_pw, 0, none⟩), y9, y10, y11, y12, y13, y14, y15, y16, y17, y18, y19, y20, y21, y22, y23, y24, y25, y26, y27, y28, y29, y30, y31, y32, y33, y34, y35, y36, y37, y38, y39, y40, y41, y42, y43, y44, y45, y46, y47, y48, y49, y50, y51, y52, y53, y54, y55, y56, y57, y58, y59, y60, y61, y62, y63, y64, y65, y66, y67, y68, y69, y70, y71, y72, y73, y74, y75, y76, y77, y78, y79, y80, y81, y82, y83, y84, y85, y86, y87, y88, y89, y90, y91, y92, y93, y94, y95, y96, y97, y98, y99, y100, y101, y102, y103, y104, y105, y106, y107, y108, y109, y110, y111, y112, y113, y114, y115, y116, y117, y118, y119, y120, y121, y122, y123, y124, y125, y126, y127, y128, y129, y130, y131, y132, y133, y134, y135, y136, y137, y138, y139, y140, y141, y142, y143, y144, y145, y146, y147, y148, y149, y150, y151, y152, y153, y154, y155, y156, y157, y158, y159, y160, y161, y162, y163, y164, y165, y166, y167, y168, y169, y170, y171, y172, y173, y174, y175, y176, y177, y178, y179, y180, y181, y182, y183, y184, y185, y186, y187, y188, y189, y190, y191, y192, y193, y194, y195, y196, y197, y198, y199, y200, y201, y202, y203, y204, y205, y206, y207, y208, y209, y210, y211, y212, y213, y214, y215, y216, y217, y218, y219, y220, y221, y222, y223, y224, y225, y226, y227, y228, y229, y230, y231, y232, y233, y234, y235, y236, y237, y238, y239, y240, y241, y242], defers := [] } w1 := by
  obtain ⟨iL, iH⟩ := pow_ends (n := nn) hab
  rw [e_P1] at iL
  rw [e_P2] at iH
  obtain ⟨ac, e_ac⟩ : ∃ z : Rat, a + c = z := ⟨_, rfl⟩
  obtain ⟨bd, e_bd⟩ : ∃ z : Rat, b + d = z := ⟨_, rfl⟩
  obtain ⟨ad, e_ad⟩ : ∃ z : Rat, a - d = z := ⟨_, rfl⟩
  obtain ⟨bc, e_bc⟩ : ∃ z : Rat, b - c = z := ⟨_, rfl⟩
  obtain ⟨m1, e_m1⟩ : ∃ z : Rat, leastOf (a * c) [a * d, b * c, b * d] = z := ⟨_, rfl⟩
  obtain ⟨m2, e_m2⟩ : ∃ z : Rat, greatestOf (a * c) [a * d, b * c, b * d] = z := ⟨_, rfl⟩
  have zz_P1 : siz P1 ≤ 200000 := siz_power6 e_P1 hn6 (by split; exact siz_absLo (by omega) (Nat.le_trans zz_a (by omega)) (Nat.le_trans zz_b (by omega)); exact Nat.le_trans zz_a (by omega))
  have zz_P2 : siz P2 ≤ 200000 := siz_power6 e_P2 hn6 (by split; exact siz_absHi (by omega) (Nat.le_trans zz_a (by omega)) (Nat.le_trans zz_b (by omega)); exact Nat.le_trans zz_b (by omega))
  have z_a : Hid (siz a ≤ 536870912) := by show _ ≤ _; exact Nat.le_trans zz_a (by omega)
  have z_b : Hid (siz b ≤ 536870912) := by show _ ≤ _; exact Nat.le_trans zz_b (by omega)
  have z_c : Hid (siz c ≤ 536870912) := by show _ ≤ _; exact Nat.le_trans zz_c (by omega)
  have z_d : Hid (siz d ≤ 536870912) := by show _ ≤ _; exact Nat.le_trans zz_d (by omega)
  have z_x : Hid (siz x ≤ 536870912) := by show _ ≤ _; exact Nat.le_trans zz_x (by omega)
  have z_y : Hid (siz y ≤ 536870912) := by show _ ≤ _; exact Nat.le_trans zz_y (by omega)
  have z_P1 : Hid (siz P1 ≤ 536870912) := by show _ ≤ _; exact Nat.le_trans zz_P1 (by omega)
  have z_P2 : Hid (siz P2 ≤ 536870912) := by show _ ≤ _; exact Nat.le_trans zz_P2 (by omega)
  have z_ac : Hid (siz ac ≤ 536870912) := by show _ ≤ _; rw [← e_ac]; have i1 := siz_add a c; omega
  have z_bd : Hid (siz bd ≤ 536870912) := by show _ ≤ _; rw [← e_bd]; have i1 := siz_add b d; omega
  have z_ad : Hid (siz ad ≤ 536870912) := by show _ ≤ _; rw [← e_ad]; have i1 := siz_sub a d; omega
  have z_bc : Hid (siz bc ≤ 536870912) := by show _ ≤ _; rw [← e_bc]; have i1 := siz_sub b c; omega
  have z_m1 : Hid (siz m1 ≤ 536870912) := by show _ ≤ _; exact siz_l4 e_m1 (Nat.le_trans (siz_mul a c) (by omega)) (Nat.le_trans (siz_mul a d) (by omega)) (Nat.le_trans (siz_mul b c) (by omega)) (Nat.le_trans (siz_mul b d) (by omega))
  have z_m2 : Hid (siz m2 ≤ 536870912) := by show _ ≤ _; exact siz_g4 e_m2 (Nat.le_trans (siz_mul a c) (by omega)) (Nat.le_trans (siz_mul a d) (by omega)) (Nat.le_trans (siz_mul b c) (by omega)) (Nat.le_trans (siz_mul b d) (by omega))
  replace iL := hid iL
  replace iH := hid iH
  replace hx := hid hx
  replace hy := hid hy
  replace zz_a := hid zz_a
  replace zz_b := hid zz_b
  replace zz_c := hid zz_c
  replace zz_d := hid zz_d
  replace zz_x := hid zz_x
  replace zz_y := hid zz_y
  replace zz_P1 := hid zz_P1
  replace zz_P2 := hid zz_P2
  replace hab := hid hab
  replace e_P1 := hid e_P1
  replace e_P2 := hid e_P2
  replace e_ac := hid e_ac
  replace e_bd := hid e_bd
  replace e_ad := hid e_ad
  replace e_bc := hid e_bc
  replace e_m1 := hid e_m1
  replace e_m2 := hid e_m2
  replace hv_s := hid hv_s
  replace hv_t := hid hv_t
  replace hv_x := hid hv_x
  replace hv_y := hid hv_y
  replace hv_pw := hid hv_pw
  replace L_s := hid L_s
  replace L_t := hid L_t
  replace L_x := hid L_x
  replace L_y := hid L_y
  replace L_pw := hid L_pw
  replace hM := hid hM
  replace hT := hid hT
  replace hB := hid hB
  show Code.wp _ (Code.seq _ _) _ _ _
  go_wp2_with fail
  obtain ⟨NN9, hNN⟩ : ∃ n : Nat, w1.heap.size = n := ⟨_, rfl⟩
  have HSZ9 : Hid (w1.heap.size = NN9) := hNN
  have hg : w1.heap[blk_s]? = some (.cells #[.bool (decide (a.num < 0)), .slice C1 (len a.num.natAbs) j1, .slice C2 (len (below a.den)) j2, .bool (decide (b.num < 0)), .slice C3 (len b.num.natAbs) j3, .slice C4 (len (below b.den)) j4] 53 (0, 0)) := ((Below.refl _ w1).block _ (Array.getElem?_eq_some_iff.1 L_s.out).1).trans L_s.out
  obtain ⟨z_s_0, z_s_1, z_s_2, z_s_3, z_s_4, z_s_5⟩ := cells6 hg
  clear hg
  have hlt9_s : blk_s < NN9 := Nat.lt_of_lt_of_eq (World.block_lt_of_cell? _ _ z_s_0) hNN
  have H0 := Held0.start w1 NN9
  have H0' := H0
  unfold Held0 at H0'
  refine wp_region_held_drew (S := (fun w' => (∀ b o, b < NN9 → w'.cell? ⟨b, o, none⟩ = w1.cell? ⟨b, o, none⟩) ∧ Below (NN9) w1 w' ∧ Stay w1 w')) (by kernel_rfl) ?_ (fun hHeld => ?_)
  · (try dsimp only)
    exact H0'
  obtain ⟨w2, hw2⟩ : ∃ u, u = w1.drew := ⟨_, rfl⟩
  have b2 : Hid (Below w1.heap.size w1 w2) := by rw [hw2]; exact ⟨rfl, rfl, rfl, Nat.le_refl _, fun _ _ => rfl⟩
  rw [← hw2] at hHeld H0 ⊢
  clear hw2 H0' hNN
  refine tk (i := 0) (h := ?_)
  try simp only [Act.put, lt, ly, lu]
  refine tk (i := 2) (h := ?_)
  try simp only [Act.put, lt, ly, lu]
  refine wpAnyH_ready (rs := [1]) (by kernel_rfl) (by simp) (AllReadyH.cons (o := ?oq3) ?eq3 ?kq3 AllReadyH.nil)
  case eq3 => simp only [lg, lz, ls]; rfl
  intro K hK; go_simp; go_at_call 40
  refine (lo_val (hv_s.out.keep b2.out) z_a.out).mono ?_
  rintro e w3 ⟨v3, rfl, hv3, b3⟩
  obtain ⟨C17, j17, C18, j18, rfl, -, -⟩ := id hv3.opened; replace hv3 := hid hv3
  replace b3 := hid b3; have hk3 := hcall H0 HSZ9 b3.out; have hk3' := hk3; unfold Held0 at hk3'; clear hHeld H0
  refine hK.out _ _ ?_ (fun hHeld => ?_)
  · (try dsimp only); with_reducible exact hk3'
  clear hK K hk3'; try simp only [Act.put, lt, ly, lu]
  refine wpAnyH_ready (rs := [3]) (by kernel_rfl) (by simp) (AllReadyH.cons (o := ?oq4) ?eq4 ?kq4 AllReadyH.nil)
  case eq4 => simp only [lg, lz, ls]; rfl
  intro K hK; go_simp; go_at_call 41
  refine (hi_val (hv_s.out.keep (Below.step b2.out b3.out)) z_b.out).mono ?_
  rintro e w4 ⟨v4, rfl, hv4, b4⟩
  obtain ⟨C19, j19, C20, j20, rfl, -, -⟩ := id hv4.opened; replace hv4 := hid hv4
  replace b4 := hid b4; have hk4 := hcall hk3 HSZ9 b4.out; have hk4' := hk4; unfold Held0 at hk4'; clear hHeld hk3
  refine hK.out _ _ ?_ (fun hHeld => ?_)
  · (try dsimp only); with_reducible exact hk4'
  clear hK K hk4'; try simp only [Act.put, lt, ly, lu]
  refine wpAnyH_ready (rs := [4]) (by kernel_rfl) (by simp) (AllReadyH.cons (o := ?oq5) ?eq5 ?kq5 AllReadyH.nil)
  case eq5 => simp only [lg, lz, ls]; rfl
  intro K hK; go_simp
  obtain ⟨w5, hw5⟩ : ∃ u, u = w4.alloc (.cells #[.bool (decide (a.num < 0)), .slice C17 (len a.num.natAbs) j17, .slice C18 (len (below a.den)) j18, .bool (decide (b.num < 0)), .slice C19 (len b.num.natAbs) j19, .slice C20 (len (below b.den)) j20] 27) := ⟨_, rfl⟩
  have b5 : Hid (Below w4.heap.size w4 w5) := by rw [hw5]; exact (Below.refl _ _).alloc (Nat.le_refl _) _
  have LW : Hid (w5.heap[w4.heap.size]? = some (.cells #[.bool (decide (a.num < 0)), .slice C17 (len a.num.natAbs) j17, .slice C18 (len (below a.den)) j18, .bool (decide (b.num < 0)), .slice C19 (len b.num.natAbs) j19, .slice C20 (len (below b.den)) j20] 27 (0, 0))) := by rw [hw5]; exact heap_alloc_new w4 _
  rw [← hw5]
  clear hw5
  have hk5 := hcall hk4 HSZ9 b5.out; have hk5' := hk5; unfold Held0 at hk5'; clear hHeld hk4
  refine hK.out _ _ ?_ (fun hHeld => ?_)
  · (try dsimp only); with_reducible exact hk5'
  clear hK K hk5'
  try simp only [Act.put, lt, ly, lu]
  obtain ⟨N9, hN9⟩ : ∃ z, z = w4.heap.size := ⟨_, rfl⟩
  rw [← hN9] at LW ⊢
  have hN9le : w1.heap.size ≤ N9 := by rw [hN9]; exact ((Below.step (Below.step b2.out b3.out) b4.out)).size
  have hN9e : Hid (w4.heap.size = N9) := hN9.symm
  clear hN9
  refine tk (i := 5) (h := ?_)
  try simp only [Act.put, lt, ly, lu]
  refine wpAnyH_done (by kernel_rfl) ?_ _
  clear hHeld
  clear z_s_0 z_s_1 z_s_2 z_s_3 z_s_4 z_s_5 hlt9_s
  clear hk5 HSZ9
  have hrow := hid (nums_two LW.out (hv3.out.keep (Below.step b4.out b5.out)) (hv4.out.keep b5.out))
  obtain ⟨zb, e_zb⟩ : ∃ v : Bool, decide (a ≤ 0 ∧ 0 ≤ b) = v := ⟨_, rfl⟩
  replace e_zb := hid e_zb
  go_upto_region 10 with fail
  rename_i K12 hK12 Kb hKb
  replace hK12 := hid hK12
  refine wp_letter ?_
  intro A12 hA12
  replace hA12 := hid hA12
  have rest12 : ∀ (u : World) (g cap : Nat) (l : List Rat) (y144 y145 y146 y147 y148 y149 y150 : Value), Hid (Below w1.heap.size w1 u) → Hid (NumsAt u g 0 l) → Hid (anyEq (l.map (fun z => z ^ nn)) P1 = true ∧ anyEq (l.map (fun z => z ^ nn)) P2 = true) → l.length ≤ 3 → Hid (∀ z ∈ l, siz z ≤ 4100) → K12 (Act.put (Act.put (Act.put (Act.put (Act.put (Act.put (Act.put (Act.put A12 (some 12) (.slice (some ⟨g, 0, none⟩) l.length cap)) (some 144) y144) (some 145) y145) (some 146) y146) (some 147) y147) (some 148) y148) (some 149) y149) (some 150) y150) u := by
   intro u g cap l y144 y145 y146 y147 y148 y149 y150 hbu hl hPP hl3 hlz
   refine hK12.out _ _ ?_
   rw [← hA12.out]
   simp only [Act.put, lt, ly, lu]
   clear hK12 hA12 Kb hKb LW hrow hN9le b2 b3 b4 b5 hv3 hv4
   obtain ⟨w2, hwq⟩ : ∃ z, z = u := ⟨_, rfl⟩
   rw [← hwq] at hbu hl ⊢
   clear hwq
   have b2 := hbu
   clear hbu
   obtain ⟨zl, ezl⟩ : ∃ v : List Rat, l.map (fun z => z ^ nn) = v := ⟨_, rfl⟩
   rw [ezl] at hPP
   have hzl : zl.length = l.length := by rw [← ezl, List.length_map]
   replace ezl := hid ezl
   replace hzl := hid hzl
   have hRs2 := hid (hv_s.out.keep b2.out)
   have hRt2 := hid (hv_t.out.keep b2.out)
   have hRx2 := hid (hv_x.out.keep b2.out)
   have hRy2 := hid (hv_y.out.keep b2.out)
   have hRpw2 := hid (hv_pw.out.keep b2.out)
   have LRs2 : Hid (w2.heap[blk_s]? = some (.cells #[.bool (decide (a.num < 0)), .slice C1 (len a.num.natAbs) j1, .slice C2 (len (below a.den)) j2, .bool (decide (b.num < 0)), .slice C3 (len b.num.natAbs) j3, .slice C4 (len (below b.den)) j4] 53 (0, 0))) := (b2.out.block _ (Array.getElem?_eq_some_iff.1 L_s.out).1).trans L_s.out
   have LRt2 : Hid (w2.heap[blk_t]? = some (.cells #[.bool (decide (c.num < 0)), .slice C5 (len c.num.natAbs) j5, .slice C6 (len (below c.den)) j6, .bool (decide (d.num < 0)), .slice C7 (len d.num.natAbs) j7, .slice C8 (len (below d.den)) j8] 53 (0, 0))) := (b2.out.block _ (Array.getElem?_eq_some_iff.1 L_t.out).1).trans L_t.out
   have LRx2 : Hid (w2.heap[blk_x]? = some (.cells #[.bool (decide (x.num < 0)), .slice C9 (len x.num.natAbs) j9, .slice C10 (len (below x.den)) j10] 27 (0, 0))) := (b2.out.block _ (Array.getElem?_eq_some_iff.1 L_x.out).1).trans L_x.out
   have LRy2 : Hid (w2.heap[blk_y]? = some (.cells #[.bool (decide (y.num < 0)), .slice C11 (len y.num.natAbs) j11, .slice C12 (len (below y.den)) j12] 27 (0, 0))) := (b2.out.block _ (Array.getElem?_eq_some_iff.1 L_y.out).1).trans L_y.out
   have LRpw2 : Hid (w2.heap[blk_pw]? = some (.cells #[.bool (decide (P1.num < 0)), .slice C13 (len P1.num.natAbs) j13, .slice C14 (len (below P1.den)) j14, .bool (decide (P2.num < 0)), .slice C15 (len P2.num.natAbs) j15, .slice C16 (len (below P2.den)) j16] 53 (0, 0))) := (b2.out.block _ (Array.getElem?_eq_some_iff.1 L_pw.out).1).trans L_pw.out
   have HMB2 := hid (cell_keep hM.out b2.out)
   have HTB2 := hid (tab_keep hT.out b2.out)
   have HBB2 := hid (Below.step hB.out b2.out)
   clear hv_s hv_t hv_x hv_y hv_pw L_s L_t L_x L_y L_pw hM hT hB b2
   go_wp2_with fail
   go_loopw [13, 14, 15] (fun lo hi i wr => ∃ k : Nat, k ≤ l.length ∧ lo = .bool (anyEq (zl.take k) P1) ∧ hi = .bool (anyEq (zl.take k) P2) ∧ i = .int .i64 k ∧ Hid (Below w2.heap.size w2 wr)) (fun _ _ i _ => l.length - (intOf i).toNat)
   case atStart => exact ⟨0, Nat.zero_le _, rfl, rfl, rfl, Below.refl _ _⟩
   case round =>
     obtain ⟨k, hk, rfl, rfl, rfl, hbr⟩ := hrel
     obtain ⟨w3, hwq⟩ : ∃ z, z = wr := ⟨_, rfl⟩
     rw [← hwq] at hbr ⊢
     clear hwq
     have b3 := hbr
     clear hbr
     rcases Nat.lt_or_ge k l.length with hlt | hge
     · obtain ⟨z, hz⟩ : ∃ z, l[k]? = some z := ⟨_, List.getElem?_eq_getElem hlt⟩
       have z_z : Hid (siz z ≤ 536870912) := Nat.le_trans (hlz.out z (List.mem_of_getElem? hz)) (by omega)
       have zz_z : siz z ≤ 20000 := Nat.le_trans (hlz.out z (List.mem_of_getElem? hz)) (by omega)
       obtain ⟨⟨sg, B1, m1', d1', B2, m2', d2'⟩, c0, c1, c2, his⟩ := numsAt_keep hl.out b3.out k z hz
       rw [Nat.zero_add] at c0 c1 c2
       obtain ⟨zk, ezk⟩ : ∃ v : Rat, z ^ nn = v := ⟨_, rfl⟩
       have z_zk : Hid (siz zk ≤ 536870912) := Nat.le_trans (siz_power6 ezk hn6 zz_z) (by omega)
       have hzk : zl[k]? = some zk := by rw [← ezl.out, List.getElem?_map, hz, ← ezk]; rfl
       have st1 := anyEq_step (p := P1) hzk
       have st2 := anyEq_step (p := P2) hzk
       obtain ⟨lo, elo⟩ : ∃ v : Bool, anyEq (zl.take k) P1 = v := ⟨_, rfl⟩
       obtain ⟨hi, ehi⟩ : ∃ v : Bool, anyEq (zl.take k) P2 = v := ⟨_, rfl⟩
       rw [elo, ehi]
       rw [elo] at st1
       rw [ehi] at st2
       obtain ⟨f1, ef1⟩ : ∃ v : Bool, decide (zk = P1) = v := ⟨_, rfl⟩
       obtain ⟨f2, ef2⟩ : ∃ v : Bool, decide (zk = P2) = v := ⟨_, rfl⟩
       clear elo ehi hz zz_z hzk
       replace ezk := hid ezk
       replace st1 := hid st1
       replace st2 := hid st2
       replace ef1 := hid ef1
       replace ef2 := hid ef2
       replace his := hid his
       have HX := hid (npow_val ezk.out his.out z_z.out hn6)
       go_wp2_with fail
       refine (HX.out).mono ?_
       rintro e w4 ⟨v4, rfl, hv4, b4⟩
       obtain ⟨C21, j21, C22, j22, rfl, -, -⟩ := id hv4.opened
       replace hv4 := hid hv4
       replace b4 := hid b4
       clear HX
       clear c0 c1 c2
       go_upto_region 17 with fail
       obtain ⟨w5, hw5⟩ : ∃ u, u = w4.alloc (.cells #[.bool (decide (zk.num < 0)), .slice C21 (len zk.num.natAbs) j21, .slice C22 (len (below zk.den)) j22] 27) := ⟨_, rfl⟩
       have b5 : Hid (Below w4.heap.size w4 w5) := by rw [hw5]; exact (Below.refl _ _).alloc (Nat.le_refl _) _
       have L5 : Hid (w5.heap[w4.heap.size]? = some (.cells #[.bool (decide (zk.num < 0)), .slice C21 (len zk.num.natAbs) j21, .slice C22 (len (below zk.den)) j22] 27 (0, 0))) := by rw [hw5]; exact heap_alloc_new w4 _
       rw [← hw5]
       clear hw5
       cases lo
       · cases hi
         · go_wp2_with fail
           obtain ⟨NN17, hNN⟩ : ∃ n : Nat, w5.heap.size = n := ⟨_, rfl⟩
           have HSZ17 : Hid (w5.heap.size = NN17) := hNN
           have hg : w5.heap[blk_pw]? = some (.cells #[.bool (decide (P1.num < 0)), .slice C13 (len P1.num.natAbs) j13, .slice C14 (len (below P1.den)) j14, .bool (decide (P2.num < 0)), .slice C15 (len P2.num.natAbs) j15, .slice C16 (len (below P2.den)) j16] 53 (0, 0)) := ((Below.step (Below.step b3.out b4.out) b5.out).block _ (Array.getElem?_eq_some_iff.1 LRpw2.out).1).trans LRpw2.out
           obtain ⟨z_pw_0, z_pw_1, z_pw_2, z_pw_3, z_pw_4, z_pw_5⟩ := cells6 hg
           clear hg
           have hlt17_pw : blk_pw < NN17 := Nat.lt_of_lt_of_eq (World.block_lt_of_cell? _ _ z_pw_0) hNN
           have hg : w5.heap[w4.heap.size]? = some (.cells #[.bool (decide (zk.num < 0)), .slice C21 (len zk.num.natAbs) j21, .slice C22 (len (below zk.den)) j22] 27 (0, 0)) := ((Below.refl _ w5).block _ (Array.getElem?_eq_some_iff.1 L5.out).1).trans L5.out
           obtain ⟨z_zk_0, z_zk_1, z_zk_2⟩ := cells3 hg
           clear hg
           have hlt17_zk : w4.heap.size < NN17 := Nat.lt_of_lt_of_eq (World.block_lt_of_cell? _ _ z_zk_0) hNN
           have H0 := Held0.start w5 NN17
           have H0' := H0
           unfold Held0 at H0'
           refine wp_region_held_drew (S := (fun w' => (∀ b o, b < NN17 → w'.cell? ⟨b, o, none⟩ = w5.cell? ⟨b, o, none⟩) ∧ Below (NN17) w5 w' ∧ Stay w5 w')) (by kernel_rfl) ?_ (fun hHeld => ?_)
           · (try dsimp only)
             exact H0'
           obtain ⟨w6, hw6⟩ : ∃ u, u = w5.drew := ⟨_, rfl⟩
           have b6 : Hid (Below w5.heap.size w5 w6) := by rw [hw6]; exact ⟨rfl, rfl, rfl, Nat.le_refl _, fun _ _ => rfl⟩
           rw [← hw6] at hHeld H0 ⊢
           clear hw6 H0' hNN
           as_aux_lemma =>
            refine tk (i := 0) (h := ?_)
            try simp only [Act.put, lt, ly, lu]
            refine tk (i := 1) (h := ?_)
            try simp only [Act.put, lt, ly, lu]
            refine tk (i := 2) (h := ?_)
            try simp only [Act.put, lt, ly, lu]
            refine tk (i := 3) (h := ?_)
            try simp only [Act.put, lt, ly, lu]
            refine tk (i := 7) (h := ?_)
            try simp only [Act.put, lt, ly, lu]
            refine wpAnyH_ready (rs := [4]) (by kernel_rfl) (by simp) (AllReadyH.cons (o := ?oq12) ?eq12 ?kq12 AllReadyH.nil)
            case eq12 => simp only [lg, lz, ls]; rfl
            intro K hK; go_simp; go_at_call 40
            refine (lo_val (hRpw2.out.keep (Below.step (Below.step (Below.step b3.out b4.out) b5.out) b6.out)) z_P1.out).mono ?_
            rintro e w7 ⟨v7, rfl, hv7, b7⟩
            obtain ⟨C23, j23, C24, j24, rfl, -, -⟩ := id hv7.opened; replace hv7 := hid hv7
            replace b7 := hid b7; have hk7 := hcall H0 HSZ17 b7.out; have hk7' := hk7; unfold Held0 at hk7'; clear hHeld H0
            refine hK.out _ _ ?_ (fun hHeld => ?_)
            · (try dsimp only); with_reducible exact hk7'
            clear hK K hk7'; try simp only [Act.put, lt, ly, lu]
            refine wpAnyH_ready (rs := [5]) (by kernel_rfl) (by simp) (AllReadyH.cons (o := ?oq13) ?eq13 ?kq13 AllReadyH.nil)
            case eq13 => simp only [lg, lz, ls]; rfl
            intro K hK; go_simp; go_at_call 13
            refine (equal_val ef1.out (hv4.out.keep (Below.step (Below.step b5.out b6.out) b7.out)) hv7.out z_zk.out z_P1.out (tab_keep HTB2.out (Below.step (Below.step (Below.step (Below.step b3.out b4.out) b5.out) b6.out) b7.out))).mono ?_
            rintro e w8 ⟨rfl, b8⟩
            replace b8 := hid b8; have hk8 := hcall hk7 HSZ17 b8.out; have hk8' := hk8; unfold Held0 at hk8'; clear hHeld hk7
            refine hK.out _ _ ?_ (fun hHeld => ?_)
            · (try dsimp only); with_reducible exact hk8'
            clear hK K hk8'; try simp only [Act.put, lt, ly, lu]
            refine tk (i := 6) (h := ?_)
            try simp only [Act.put, lt, ly, lu]
            refine tk (i := 8) (h := ?_)
            try simp only [Act.put, lt, ly, lu]
            refine tk (i := 9) (h := ?_)
            try simp only [Act.put, lt, ly, lu]
            refine tk (i := 10) (h := ?_)
            try simp only [Act.put, lt, ly, lu]
            refine wpAnyH_ready (rs := [11]) (by kernel_rfl) (by simp) (AllReadyH.cons (o := ?oq18) ?eq18 ?kq18 AllReadyH.nil)
            case eq18 => simp only [lg, lz, ls]; rfl
            intro K hK; go_simp; go_at_call 41
            refine (hi_val (hRpw2.out.keep (Below.step (Below.step (Below.step (Below.step (Below.step b3.out b4.out) b5.out) b6.out) b7.out) b8.out)) z_P2.out).mono ?_
            rintro e w9 ⟨v9, rfl, hv9, b9⟩
            obtain ⟨C25, j25, C26, j26, rfl, -, -⟩ := id hv9.opened; replace hv9 := hid hv9
            replace b9 := hid b9; have hk9 := hcall hk8 HSZ17 b9.out; have hk9' := hk9; unfold Held0 at hk9'; clear hHeld hk8
            refine hK.out _ _ ?_ (fun hHeld => ?_)
            · (try dsimp only); with_reducible exact hk9'
            clear hK K hk9'; try simp only [Act.put, lt, ly, lu]
            as_aux_lemma =>
             refine wpAnyH_ready (rs := [12]) (by kernel_rfl) (by simp) (AllReadyH.cons (o := ?oq19) ?eq19 ?kq19 AllReadyH.nil)
             case eq19 => simp only [lg, lz, ls]; rfl
             intro K hK; go_simp; go_at_call 13
             refine (equal_val ef2.out (hv4.out.keep (Below.step (Below.step (Below.step (Below.step b5.out b6.out) b7.out) b8.out) b9.out)) hv9.out z_zk.out z_P2.out (tab_keep HTB2.out (Below.step (Below.step (Below.step (Below.step (Below.step (Below.step b3.out b4.out) b5.out) b6.out) b7.out) b8.out) b9.out))).mono ?_
             rintro e w10 ⟨rfl, b10⟩
             replace b10 := hid b10; have hk10 := hcall hk9 HSZ17 b10.out; have hk10' := hk10; unfold Held0 at hk10'; clear hHeld hk9
             refine hK.out _ _ ?_ (fun hHeld => ?_)
             · (try dsimp only); with_reducible exact hk10'
             clear hK K hk10'; try simp only [Act.put, lt, ly, lu]
             refine tk (i := 13) (h := ?_)
             try simp only [Act.put, lt, ly, lu]
             refine tk (i := 14) (h := ?_)
             try simp only [Act.put, lt, ly, lu]
             refine tk (i := 15) (h := ?_)
             try simp only [Act.put, lt, ly, lu]
             have HE := hid (Below.step (Below.step (Below.step (Below.step (Below.step (Below.step (Below.step b3.out b4.out) b5.out) b6.out) b7.out) b8.out) b9.out) b10.out)
             refine wpAnyH_done (by kernel_rfl) ?_ _
             clear hHeld
             go_wp2_with fail
             go_roundw
             case rel => exact ⟨k + 1, by omega, by rw [st1.out, ef1.out]; rfl, by rw [st2.out, ef2.out]; rfl, by simp, HE⟩
             case measure => simp [intOf]; omega
         · go_wp2_with fail
           obtain ⟨NN17, hNN⟩ : ∃ n : Nat, w5.heap.size = n := ⟨_, rfl⟩
           have HSZ17 : Hid (w5.heap.size = NN17) := hNN
           have hg : w5.heap[blk_pw]? = some (.cells #[.bool (decide (P1.num < 0)), .slice C13 (len P1.num.natAbs) j13, .slice C14 (len (below P1.den)) j14, .bool (decide (P2.num < 0)), .slice C15 (len P2.num.natAbs) j15, .slice C16 (len (below P2.den)) j16] 53 (0, 0)) := ((Below.step (Below.step b3.out b4.out) b5.out).block _ (Array.getElem?_eq_some_iff.1 LRpw2.out).1).trans LRpw2.out
           obtain ⟨z_pw_0, z_pw_1, z_pw_2, z_pw_3, z_pw_4, z_pw_5⟩ := cells6 hg
           clear hg
           have hlt17_pw : blk_pw < NN17 := Nat.lt_of_lt_of_eq (World.block_lt_of_cell? _ _ z_pw_0) hNN
           have hg : w5.heap[w4.heap.size]? = some (.cells #[.bool (decide (zk.num < 0)), .slice C21 (len zk.num.natAbs) j21, .slice C22 (len (below zk.den)) j22] 27 (0, 0)) := ((Below.refl _ w5).block _ (Array.getElem?_eq_some_iff.1 L5.out).1).trans L5.out
           obtain ⟨z_zk_0, z_zk_1, z_zk_2⟩ := cells3 hg
           clear hg
           have hlt17_zk : w4.heap.size < NN17 := Nat.lt_of_lt_of_eq (World.block_lt_of_cell? _ _ z_zk_0) hNN
           have H0 := Held0.start w5 NN17
           have H0' := H0
           unfold Held0 at H0'
           refine wp_region_held_drew (S := (fun w' => (∀ b o, b < NN17 → w'.cell? ⟨b, o, none⟩ = w5.cell? ⟨b, o, none⟩) ∧ Below (NN17) w5 w' ∧ Stay w5 w')) (by kernel_rfl) ?_ (fun hHeld => ?_)
           · (try dsimp only)
             exact H0'
           obtain ⟨w6, hw6⟩ : ∃ u, u = w5.drew := ⟨_, rfl⟩
           have b6 : Hid (Below w5.heap.size w5 w6) := by rw [hw6]; exact ⟨rfl, rfl, rfl, Nat.le_refl _, fun _ _ => rfl⟩
           rw [← hw6] at hHeld H0 ⊢
           clear hw6 H0' hNN
           as_aux_lemma =>
            refine tk (i := 0) (h := ?_)
            try simp only [Act.put, lt, ly, lu]
            refine tk (i := 1) (h := ?_)
            try simp only [Act.put, lt, ly, lu]
            refine tk (i := 2) (h := ?_)
            try simp only [Act.put, lt, ly, lu]
            refine tk (i := 3) (h := ?_)
            try simp only [Act.put, lt, ly, lu]
            refine tk (i := 7) (h := ?_)
            try simp only [Act.put, lt, ly, lu]
            refine wpAnyH_ready (rs := [4]) (by kernel_rfl) (by simp) (AllReadyH.cons (o := ?oq28) ?eq28 ?kq28 AllReadyH.nil)
            case eq28 => simp only [lg, lz, ls]; rfl
            intro K hK; go_simp; go_at_call 40
            refine (lo_val (hRpw2.out.keep (Below.step (Below.step (Below.step b3.out b4.out) b5.out) b6.out)) z_P1.out).mono ?_
            rintro e w7 ⟨v7, rfl, hv7, b7⟩
            obtain ⟨C23, j23, C24, j24, rfl, -, -⟩ := id hv7.opened; replace hv7 := hid hv7
            replace b7 := hid b7; have hk7 := hcall H0 HSZ17 b7.out; have hk7' := hk7; unfold Held0 at hk7'; clear hHeld H0
            refine hK.out _ _ ?_ (fun hHeld => ?_)
            · (try dsimp only); with_reducible exact hk7'
            clear hK K hk7'; try simp only [Act.put, lt, ly, lu]
            refine wpAnyH_ready (rs := [5]) (by kernel_rfl) (by simp) (AllReadyH.cons (o := ?oq29) ?eq29 ?kq29 AllReadyH.nil)
            case eq29 => simp only [lg, lz, ls]; rfl
            intro K hK; go_simp; go_at_call 13
            refine (equal_val ef1.out (hv4.out.keep (Below.step (Below.step b5.out b6.out) b7.out)) hv7.out z_zk.out z_P1.out (tab_keep HTB2.out (Below.step (Below.step (Below.step (Below.step b3.out b4.out) b5.out) b6.out) b7.out))).mono ?_
            rintro e w8 ⟨rfl, b8⟩
            replace b8 := hid b8; have hk8 := hcall hk7 HSZ17 b8.out; have hk8' := hk8; unfold Held0 at hk8'; clear hHeld hk7
            refine hK.out _ _ ?_ (fun hHeld => ?_)
            · (try dsimp only); with_reducible exact hk8'
            clear hK K hk8'; try simp only [Act.put, lt, ly, lu]
            refine tk (i := 6) (h := ?_)
            try simp only [Act.put, lt, ly, lu]
            refine tk (i := 8) (h := ?_)
            try simp only [Act.put, lt, ly, lu]
            refine tk (i := 9) (v := undef) (hy := by exact Or.inr ⟨by rfl, rfl⟩) (h := ?_)
            try simp only [Act.put, lt, ly, lu]
            refine tk (i := 10) (v := undef) (hy := by exact Or.inr ⟨by rfl, rfl⟩) (h := ?_)
            try simp only [Act.put, lt, ly, lu]
            refine wpAnyH_ready (rs := [11]) (by kernel_rfl) (by simp) (AllReadyH.cons (o := ?oq34) ?eq34 ?kq34 AllReadyH.nil)
            case eq34 => simp only [lg, lz, ls]; rfl
            intro K hK; go_simp
            refine hK.out _ _ ?_ (fun hHeld2 => ?_)
            · (try dsimp only); exact hHeld
            clear hK K hHeld
            try simp only [Act.put, lt, ly, lu]
            have hHeld := hHeld2
            clear hHeld2
            as_aux_lemma =>
             refine wpAnyH_ready (rs := [12]) (by kernel_rfl) (by simp) (AllReadyH.cons (o := ?oq35) ?eq35 ?kq35 AllReadyH.nil)
             case eq35 => simp only [lg, lz, ls]; rfl
             intro K hK; go_simp
             refine hK.out _ _ ?_ (fun hHeld2 => ?_)
             · (try dsimp only); exact hHeld
             clear hK K hHeld
             try simp only [Act.put, lt, ly, lu]
             have hHeld := hHeld2
             clear hHeld2
             refine tk (i := 13) (h := ?_)
             try simp only [Act.put, lt, ly, lu]
             refine tk (i := 14) (h := ?_)
             try simp only [Act.put, lt, ly, lu]
             refine tk (i := 15) (h := ?_)
             try simp only [Act.put, lt, ly, lu]
             have HE := hid (Below.step (Below.step (Below.step (Below.step (Below.step b3.out b4.out) b5.out) b6.out) b7.out) b8.out)
             refine wpAnyH_done (by kernel_rfl) ?_ _
             clear hHeld
             go_wp2_with fail
             go_roundw
             case rel => exact ⟨k + 1, by omega, by rw [st1.out, ef1.out]; rfl, by rw [st2.out]; rfl, by simp, HE⟩
             case measure => simp [intOf]; omega
       · cases hi
         · go_wp2_with fail
           obtain ⟨NN17, hNN⟩ : ∃ n : Nat, w5.heap.size = n := ⟨_, rfl⟩
           have HSZ17 : Hid (w5.heap.size = NN17) := hNN
           have hg : w5.heap[blk_pw]? = some (.cells #[.bool (decide (P1.num < 0)), .slice C13 (len P1.num.natAbs) j13, .slice C14 (len (below P1.den)) j14, .bool (decide (P2.num < 0)), .slice C15 (len P2.num.natAbs) j15, .slice C16 (len (below P2.den)) j16] 53 (0, 0)) := ((Below.step (Below.step b3.out b4.out) b5.out).block _ (Array.getElem?_eq_some_iff.1 LRpw2.out).1).trans LRpw2.out
           obtain ⟨z_pw_0, z_pw_1, z_pw_2, z_pw_3, z_pw_4, z_pw_5⟩ := cells6 hg
           clear hg
           have hlt17_pw : blk_pw < NN17 := Nat.lt_of_lt_of_eq (World.block_lt_of_cell? _ _ z_pw_0) hNN
           have hg : w5.heap[w4.heap.size]? = some (.cells #[.bool (decide (zk.num < 0)), .slice C21 (len zk.num.natAbs) j21, .slice C22 (len (below zk.den)) j22] 27 (0, 0)) := ((Below.refl _ w5).block _ (Array.getElem?_eq_some_iff.1 L5.out).1).trans L5.out
           obtain ⟨z_zk_0, z_zk_1, z_zk_2⟩ := cells3 hg
           clear hg
           have hlt17_zk : w4.heap.size < NN17 := Nat.lt_of_lt_of_eq (World.block_lt_of_cell? _ _ z_zk_0) hNN
           have H0 := Held0.start w5 NN17
           have H0' := H0
           unfold Held0 at H0'
           refine wp_region_held_drew (S := (fun w' => (∀ b o, b < NN17 → w'.cell? ⟨b, o, none⟩ = w5.cell? ⟨b, o, none⟩) ∧ Below (NN17) w5 w' ∧ Stay w5 w')) (by kernel_rfl) ?_ (fun hHeld => ?_)
           · (try dsimp only)
             exact H0'
           obtain ⟨w6, hw6⟩ : ∃ u, u = w5.drew := ⟨_, rfl⟩
           have b6 : Hid (Below w5.heap.size w5 w6) := by rw [hw6]; exact ⟨rfl, rfl, rfl, Nat.le_refl _, fun _ _ => rfl⟩
           rw [← hw6] at hHeld H0 ⊢
           clear hw6 H0' hNN
           as_aux_lemma =>
            refine tk (i := 0) (h := ?_)
            try simp only [Act.put, lt, ly, lu]
            refine tk (i := 1) (h := ?_)
            try simp only [Act.put, lt, ly, lu]
            refine tk (i := 2) (v := undef) (hy := by exact Or.inr ⟨by rfl, rfl⟩) (h := ?_)
            try simp only [Act.put, lt, ly, lu]
            refine tk (i := 3) (v := undef) (hy := by exact Or.inr ⟨by rfl, rfl⟩) (h := ?_)
            try simp only [Act.put, lt, ly, lu]
            refine tk (i := 7) (h := ?_)
            try simp only [Act.put, lt, ly, lu]
            refine wpAnyH_ready (rs := [4]) (by kernel_rfl) (by simp) (AllReadyH.cons (o := ?oq44) ?eq44 ?kq44 AllReadyH.nil)
            case eq44 => simp only [lg, lz, ls]; rfl
            intro K hK; go_simp
            refine hK.out _ _ ?_ (fun hHeld2 => ?_)
            · (try dsimp only); exact hHeld
            clear hK K hHeld
            try simp only [Act.put, lt, ly, lu]
            have hHeld := hHeld2
            clear hHeld2
            refine wpAnyH_ready (rs := [5]) (by kernel_rfl) (by simp) (AllReadyH.cons (o := ?oq45) ?eq45 ?kq45 AllReadyH.nil)
            case eq45 => simp only [lg, lz, ls]; rfl
            intro K hK; go_simp
            refine hK.out _ _ ?_ (fun hHeld2 => ?_)
            · (try dsimp only); exact hHeld
            clear hK K hHeld
            try simp only [Act.put, lt, ly, lu]
            have hHeld := hHeld2
            clear hHeld2
            refine tk (i := 6) (h := ?_)
            try simp only [Act.put, lt, ly, lu]
            refine tk (i := 8) (h := ?_)
            try simp only [Act.put, lt, ly, lu]
            refine tk (i := 9) (h := ?_)
            try simp only [Act.put, lt, ly, lu]
            refine tk (i := 10) (h := ?_)
            try simp only [Act.put, lt, ly, lu]
            refine wpAnyH_ready (rs := [11]) (by kernel_rfl) (by simp) (AllReadyH.cons (o := ?oq50) ?eq50 ?kq50 AllReadyH.nil)
            case eq50 => simp only [lg, lz, ls]; rfl
            intro K hK; go_simp; go_at_call 41
            refine (hi_val (hRpw2.out.keep (Below.step (Below.step (Below.step b3.out b4.out) b5.out) b6.out)) z_P2.out).mono ?_
            rintro e w7 ⟨v7, rfl, hv7, b7⟩
            obtain ⟨C23, j23, C24, j24, rfl, -, -⟩ := id hv7.opened; replace hv7 := hid hv7
            replace b7 := hid b7; have hk7 := hcall H0 HSZ17 b7.out; have hk7' := hk7; unfold Held0 at hk7'; clear hHeld H0
            refine hK.out _ _ ?_ (fun hHeld => ?_)
            · (try dsimp only); with_reducible exact hk7'
            clear hK K hk7'; try simp only [Act.put, lt, ly, lu]
            as_aux_lemma =>
             refine wpAnyH_ready (rs := [12]) (by kernel_rfl) (by simp) (AllReadyH.cons (o := ?oq51) ?eq51 ?kq51 AllReadyH.nil)
             case eq51 => simp only [lg, lz, ls]; rfl
             intro K hK; go_simp; go_at_call 13
             refine (equal_val ef2.out (hv4.out.keep (Below.step (Below.step b5.out b6.out) b7.out)) hv7.out z_zk.out z_P2.out (tab_keep HTB2.out (Below.step (Below.step (Below.step (Below.step b3.out b4.out) b5.out) b6.out) b7.out))).mono ?_
             rintro e w8 ⟨rfl, b8⟩
             replace b8 := hid b8; have hk8 := hcall hk7 HSZ17 b8.out; have hk8' := hk8; unfold Held0 at hk8'; clear hHeld hk7
             refine hK.out _ _ ?_ (fun hHeld => ?_)
             · (try dsimp only); with_reducible exact hk8'
             clear hK K hk8'; try simp only [Act.put, lt, ly, lu]
             refine tk (i := 13) (h := ?_)
             try simp only [Act.put, lt, ly, lu]
             refine tk (i := 14) (h := ?_)
             try simp only [Act.put, lt, ly, lu]
             refine tk (i := 15) (h := ?_)
             try simp only [Act.put, lt, ly, lu]
             have HE := hid (Below.step (Below.step (Below.step (Below.step (Below.step b3.out b4.out) b5.out) b6.out) b7.out) b8.out)
             refine wpAnyH_done (by kernel_rfl) ?_ _
             clear hHeld
             go_wp2_with fail
             go_roundw
             case rel => exact ⟨k + 1, by omega, by rw [st1.out]; rfl, by rw [st2.out, ef2.out]; rfl, by simp, HE⟩
             case measure => simp [intOf]; omega
         · go_wp2_with fail
           obtain ⟨NN17, hNN⟩ : ∃ n : Nat, w5.heap.size = n := ⟨_, rfl⟩
           have HSZ17 : Hid (w5.heap.size = NN17) := hNN
           have hg : w5.heap[blk_pw]? = some (.cells #[.bool (decide (P1.num < 0)), .slice C13 (len P1.num.natAbs) j13, .slice C14 (len (below P1.den)) j14, .bool (decide (P2.num < 0)), .slice C15 (len P2.num.natAbs) j15, .slice C16 (len (below P2.den)) j16] 53 (0, 0)) := ((Below.step (Below.step b3.out b4.out) b5.out).block _ (Array.getElem?_eq_some_iff.1 LRpw2.out).1).trans LRpw2.out
           obtain ⟨z_pw_0, z_pw_1, z_pw_2, z_pw_3, z_pw_4, z_pw_5⟩ := cells6 hg
           clear hg
           have hlt17_pw : blk_pw < NN17 := Nat.lt_of_lt_of_eq (World.block_lt_of_cell? _ _ z_pw_0) hNN
           have hg : w5.heap[w4.heap.size]? = some (.cells #[.bool (decide (zk.num < 0)), .slice C21 (len zk.num.natAbs) j21, .slice C22 (len (below zk.den)) j22] 27 (0, 0)) := ((Below.refl _ w5).block _ (Array.getElem?_eq_some_iff.1 L5.out).1).trans L5.out
           obtain ⟨z_zk_0, z_zk_1, z_zk_2⟩ := cells3 hg
           clear hg
           have hlt17_zk : w4.heap.size < NN17 := Nat.lt_of_lt_of_eq (World.block_lt_of_cell? _ _ z_zk_0) hNN
           have H0 := Held0.start w5 NN17
           have H0' := H0
           unfold Held0 at H0'
           refine wp_region_held_drew (S := (fun w' => (∀ b o, b < NN17 → w'.cell? ⟨b, o, none⟩ = w5.cell? ⟨b, o, none⟩) ∧ Below (NN17) w5 w' ∧ Stay w5 w')) (by kernel_rfl) ?_ (fun hHeld => ?_)
           · (try dsimp only)
             exact H0'
           obtain ⟨w6, hw6⟩ : ∃ u, u = w5.drew := ⟨_, rfl⟩
           have b6 : Hid (Below w5.heap.size w5 w6) := by rw [hw6]; exact ⟨rfl, rfl, rfl, Nat.le_refl _, fun _ _ => rfl⟩
           rw [← hw6] at hHeld H0 ⊢
           clear hw6 H0' hNN
           as_aux_lemma =>
            refine tk (i := 0) (h := ?_)
            try simp only [Act.put, lt, ly, lu]
            refine tk (i := 1) (h := ?_)
            try simp only [Act.put, lt, ly, lu]
            refine tk (i := 2) (v := undef) (hy := by exact Or.inr ⟨by rfl, rfl⟩) (h := ?_)
            try simp only [Act.put, lt, ly, lu]
            refine tk (i := 3) (v := undef) (hy := by exact Or.inr ⟨by rfl, rfl⟩) (h := ?_)
            try simp only [Act.put, lt, ly, lu]
            refine tk (i := 7) (h := ?_)
            try simp only [Act.put, lt, ly, lu]
            refine wpAnyH_ready (rs := [4]) (by kernel_rfl) (by simp) (AllReadyH.cons (o := ?oq60) ?eq60 ?kq60 AllReadyH.nil)
            case eq60 => simp only [lg, lz, ls]; rfl
            intro K hK; go_simp
            refine hK.out _ _ ?_ (fun hHeld2 => ?_)
            · (try dsimp only); exact hHeld
            clear hK K hHeld
            try simp only [Act.put, lt, ly, lu]
            have hHeld := hHeld2
            clear hHeld2
            refine wpAnyH_ready (rs := [5]) (by kernel_rfl) (by simp) (AllReadyH.cons (o := ?oq61) ?eq61 ?kq61 AllReadyH.nil)
            case eq61 => simp only [lg, lz, ls]; rfl
            intro K hK; go_simp
            refine hK.out _ _ ?_ (fun hHeld2 => ?_)
            · (try dsimp only); exact hHeld
            clear hK K hHeld
            try simp only [Act.put, lt, ly, lu]
            have hHeld := hHeld2
            clear hHeld2
            refine tk (i := 6) (h := ?_)
            try simp only [Act.put, lt, ly, lu]
            refine tk (i := 8) (h := ?_)
            try simp only [Act.put, lt, ly, lu]
            refine tk (i := 9) (v := undef) (hy := by exact Or.inr ⟨by rfl, rfl⟩) (h := ?_)
            try simp only [Act.put, lt, ly, lu]
            refine tk (i := 10) (v := undef) (hy := by exact Or.inr ⟨by rfl, rfl⟩) (h := ?_)
            try simp only [Act.put, lt, ly, lu]
            refine wpAnyH_ready (rs := [11]) (by kernel_rfl) (by simp) (AllReadyH.cons (o := ?oq66) ?eq66 ?kq66 AllReadyH.nil)
            case eq66 => simp only [lg, lz, ls]; rfl
            intro K hK; go_simp
            refine hK.out _ _ ?_ (fun hHeld2 => ?_)
            · (try dsimp only); exact hHeld
            clear hK K hHeld
            try simp only [Act.put, lt, ly, lu]
            have hHeld := hHeld2
            clear hHeld2
            as_aux_lemma =>
             refine wpAnyH_ready (rs := [12]) (by kernel_rfl) (by simp) (AllReadyH.cons (o := ?oq67) ?eq67 ?kq67 AllReadyH.nil)
             case eq67 => simp only [lg, lz, ls]; rfl
             intro K hK; go_simp
             refine hK.out _ _ ?_ (fun hHeld2 => ?_)
             · (try dsimp only); exact hHeld
             clear hK K hHeld
             try simp only [Act.put, lt, ly, lu]
             have hHeld := hHeld2
             clear hHeld2
             refine tk (i := 13) (h := ?_)
             try simp only [Act.put, lt, ly, lu]
             refine tk (i := 14) (h := ?_)
             try simp only [Act.put, lt, ly, lu]
             refine tk (i := 15) (h := ?_)
             try simp only [Act.put, lt, ly, lu]
             have HE := hid (Below.step (Below.step (Below.step b3.out b4.out) b5.out) b6.out)
             refine wpAnyH_done (by kernel_rfl) ?_ _
             clear hHeld
             go_wp2_with fail
             go_roundw
             case rel => exact ⟨k + 1, by omega, by rw [st1.out]; rfl, by rw [st2.out]; rfl, by simp, HE⟩
             case measure => simp [intOf]; omega
     · have hkl : k = zl.length := by rw [hzl.out]; omega
       have e1 : anyEq (zl.take k) P1 = true := by rw [hkl, List.take_length]; exact hPP.out.1
       have e2 : anyEq (zl.take k) P2 = true := by rw [hkl, List.take_length]; exact hPP.out.2
       rw [e1, e2]
       clear e1 e2 hk hkl
       have hRs3 := hid (hRs2.out.keep b3.out)
       have hRt3 := hid (hRt2.out.keep b3.out)
       have hRx3 := hid (hRx2.out.keep b3.out)
       have hRy3 := hid (hRy2.out.keep b3.out)
       have hRpw3 := hid (hRpw2.out.keep b3.out)
       have LRs3 : Hid (w3.heap[blk_s]? = some (.cells #[.bool (decide (a.num < 0)), .slice C1 (len a.num.natAbs) j1, .slice C2 (len (below a.den)) j2, .bool (decide (b.num < 0)), .slice C3 (len b.num.natAbs) j3, .slice C4 (len (below b.den)) j4] 53 (0, 0))) := (b3.out.block _ (Array.getElem?_eq_some_iff.1 LRs2.out).1).trans LRs2.out
       have LRt3 : Hid (w3.heap[blk_t]? = some (.cells #[.bool (decide (c.num < 0)), .slice C5 (len c.num.natAbs) j5, .slice C6 (len (below c.den)) j6, .bool (decide (d.num < 0)), .slice C7 (len d.num.natAbs) j7, .slice C8 (len (below d.den)) j8] 53 (0, 0))) := (b3.out.block _ (Array.getElem?_eq_some_iff.1 LRt2.out).1).trans LRt2.out
       have LRx3 : Hid (w3.heap[blk_x]? = some (.cells #[.bool (decide (x.num < 0)), .slice C9 (len x.num.natAbs) j9, .slice C10 (len (below x.den)) j10] 27 (0, 0))) := (b3.out.block _ (Array.getElem?_eq_some_iff.1 LRx2.out).1).trans LRx2.out
       have LRy3 : Hid (w3.heap[blk_y]? = some (.cells #[.bool (decide (y.num < 0)), .slice C11 (len y.num.natAbs) j11, .slice C12 (len (below y.den)) j12] 27 (0, 0))) := (b3.out.block _ (Array.getElem?_eq_some_iff.1 LRy2.out).1).trans LRy2.out
       have HMB3 := hid (cell_keep HMB2.out b3.out)
       have HTB3 := hid (tab_keep HTB2.out b3.out)
       have HBB3 := hid (Below.step HBB2.out b3.out)
       clear hRs2 hRt2 hRx2 hRy2 hRpw2 LRs2 LRt2 LRx2 LRy2 HMB2 HTB2 HBB2 b3
       go_wp2_with fail
       obtain ⟨NN18, hNN⟩ : ∃ n : Nat, w3.heap.size = n := ⟨_, rfl⟩
       have HSZ18 : Hid (w3.heap.size = NN18) := hNN
       have hg : w3.heap[blk_s]? = some (.cells #[.bool (decide (a.num < 0)), .slice C1 (len a.num.natAbs) j1, .slice C2 (len (below a.den)) j2, .bool (decide (b.num < 0)), .slice C3 (len b.num.natAbs) j3, .slice C4 (len (below b.den)) j4] 53 (0, 0)) := ((Below.refl _ w3).block _ (Array.getElem?_eq_some_iff.1 LRs3.out).1).trans LRs3.out
       obtain ⟨z_s_0, z_s_1, z_s_2, z_s_3, z_s_4, z_s_5⟩ := cells6 hg
       clear hg
       have hlt18_s : blk_s < NN18 := Nat.lt_of_lt_of_eq (World.block_lt_of_cell? _ _ z_s_0) hNN
       have hg : w3.heap[blk_t]? = some (.cells #[.bool (decide (c.num < 0)), .slice C5 (len c.num.natAbs) j5, .slice C6 (len (below c.den)) j6, .bool (decide (d.num < 0)), .slice C7 (len d.num.natAbs) j7, .slice C8 (len (below d.den)) j8] 53 (0, 0)) := ((Below.refl _ w3).block _ (Array.getElem?_eq_some_iff.1 LRt3.out).1).trans LRt3.out
       obtain ⟨z_t_0, z_t_1, z_t_2, z_t_3, z_t_4, z_t_5⟩ := cells6 hg
       clear hg
       have hlt18_t : blk_t < NN18 := Nat.lt_of_lt_of_eq (World.block_lt_of_cell? _ _ z_t_0) hNN
       have H0 := Held0.start w3 NN18
       have H0' := H0
       unfold Held0 at H0'
       refine wp_region_held_drew (S := (fun w' => (∀ b o, b < NN18 → w'.cell? ⟨b, o, none⟩ = w3.cell? ⟨b, o, none⟩) ∧ Below (NN18) w3 w' ∧ Stay w3 w')) (by kernel_rfl) ?_ (fun hHeld => ?_)
       · (try dsimp only)
         exact H0'
       obtain ⟨w4, hw4⟩ : ∃ u, u = w3.drew := ⟨_, rfl⟩
       have b4 : Hid (Below w3.heap.size w3 w4) := by rw [hw4]; exact ⟨rfl, rfl, rfl, Nat.le_refl _, fun _ _ => rfl⟩
       rw [← hw4] at hHeld H0 ⊢
       clear hw4 H0' hNN
       as_aux_lemma =>
        refine tk (i := 0) (h := ?_)
        try simp only [Act.put, lt, ly, lu]
        refine tk (i := 1) (h := ?_)
        try simp only [Act.put, lt, ly, lu]
        refine tk (i := 2) (h := ?_)
        try simp only [Act.put, lt, ly, lu]
        refine tk (i := 3) (h := ?_)
        try simp only [Act.put, lt, ly, lu]
        refine tk (i := 4) (h := ?_)
        try simp only [Act.put, lt, ly, lu]
        refine tk (i := 5) (h := ?_)
        try simp only [Act.put, lt, ly, lu]
        refine tk (i := 6) (h := ?_)
        try simp only [Act.put, lt, ly, lu]
        refine tk (i := 7) (h := ?_)
        try simp only [Act.put, lt, ly, lu]
        refine tk (i := 8) (h := ?_)
        try simp only [Act.put, lt, ly, lu]
        refine tk (i := 10) (h := ?_)
        try simp only [Act.put, lt, ly, lu]
        refine tk (i := 11) (h := ?_)
        try simp only [Act.put, lt, ly, lu]
        refine wpAnyH_ready (rs := [9]) (by kernel_rfl) (by simp) (AllReadyH.cons (o := ?oq82) ?eq82 ?kq82 AllReadyH.nil)
        case eq82 => simp only [lg, lz, ls]; rfl
        intro K hK; go_simp; go_at_call 33
        refine (badd_val e_ac.out e_bd.out (hRs3.out.keep b4.out) (hRt3.out.keep b4.out) z_a.out z_b.out z_c.out z_d.out).mono ?_
        rintro e w5 ⟨v5, rfl, hv5, b5⟩
        obtain ⟨C21, j21, C22, j22, C23, j23, C24, j24, rfl, -, -⟩ := id hv5.opened
        replace hv5 := hid hv5
        replace b5 := hid b5; have hk5 := hcall H0 HSZ18 b5.out; have hk5' := hk5; unfold Held0 at hk5'; clear hHeld H0
        refine hK.out _ _ ?_ (fun hHeld => ?_)
        · (try dsimp only); with_reducible exact hk5'
        clear hK K hk5'; try simp only [Act.put, lt, ly, lu]
        as_aux_lemma =>
         refine wpAnyH_ready (rs := [12]) (by kernel_rfl) (by simp) (AllReadyH.cons (o := ?oq83) ?eq83 ?kq83 AllReadyH.nil)
         case eq83 => simp only [lg, lz, ls]; rfl
         intro K hK; go_simp; go_at_call 42
         refine (ended_add e_ac.out e_bd.out hv5.out (hRs3.out.keep (Below.step b4.out b5.out)) (hRt3.out.keep (Below.step b4.out b5.out)) zz_a.out zz_b.out zz_c.out zz_d.out (cell_keep HMB3.out (Below.step b4.out b5.out)) (tab_keep HTB3.out (Below.step b4.out b5.out))).mono ?_
         rintro e w6 ⟨rfl, b6⟩
         replace b6 := hid b6; have hk6 := hcall hk5 HSZ18 b6.out; have hk6' := hk6; unfold Held0 at hk6'; clear hHeld hk5
         refine hK.out _ _ ?_ (fun hHeld => ?_)
         · (try dsimp only); with_reducible exact hk6'
         clear hK K hk6'; try simp only [Act.put, lt, ly, lu]
         refine tk (i := 13) (h := ?_)
         try simp only [Act.put, lt, ly, lu]
         refine tk (i := 14) (h := ?_)
         try simp only [Act.put, lt, ly, lu]
         refine tk (i := 15) (h := ?_)
         try simp only [Act.put, lt, ly, lu]
         refine tk (i := 16) (h := ?_)
         try simp only [Act.put, lt, ly, lu]
         refine tk (i := 17) (h := ?_)
         try simp only [Act.put, lt, ly, lu]
         refine tk (i := 19) (h := ?_)
         try simp only [Act.put, lt, ly, lu]
         refine tk (i := 20) (h := ?_)
         try simp only [Act.put, lt, ly, lu]
         refine wpAnyH_ready (rs := [18]) (by kernel_rfl) (by simp) (AllReadyH.cons (o := ?oq91) ?eq91 ?kq91 AllReadyH.nil)
         case eq91 => simp only [lg, lz, ls]; rfl
         intro K hK; go_simp; go_at_call 34
         refine (bsub_val e_ad.out e_bc.out (hRs3.out.keep (Below.step (Below.step b4.out b5.out) b6.out)) (hRt3.out.keep (Below.step (Below.step b4.out b5.out) b6.out)) z_a.out z_b.out z_c.out z_d.out).mono ?_
         rintro e w7 ⟨v7, rfl, hv7, b7⟩
         obtain ⟨C25, j25, C26, j26, C27, j27, C28, j28, rfl, -, -⟩ := id hv7.opened
         replace hv7 := hid hv7
         replace b7 := hid b7; have hk7 := hcall hk6 HSZ18 b7.out; have hk7' := hk7; unfold Held0 at hk7'; clear hHeld hk6
         refine hK.out _ _ ?_ (fun hHeld => ?_)
         · (try dsimp only); with_reducible exact hk7'
         clear hK K hk7'; try simp only [Act.put, lt, ly, lu]
         refine wpAnyH_ready (rs := [21]) (by kernel_rfl) (by simp) (AllReadyH.cons (o := ?oq92) ?eq92 ?kq92 AllReadyH.nil)
         case eq92 => simp only [lg, lz, ls]; rfl
         intro K hK; go_simp; go_at_call 42
         refine (ended_sub e_ad.out e_bc.out hv7.out (hRs3.out.keep (Below.step (Below.step (Below.step b4.out b5.out) b6.out) b7.out)) (hRt3.out.keep (Below.step (Below.step (Below.step b4.out b5.out) b6.out) b7.out)) zz_a.out zz_b.out zz_c.out zz_d.out (cell_keep HMB3.out (Below.step (Below.step (Below.step b4.out b5.out) b6.out) b7.out)) (tab_keep HTB3.out (Below.step (Below.step (Below.step b4.out b5.out) b6.out) b7.out))).mono ?_
         rintro e w8 ⟨rfl, b8⟩
         replace b8 := hid b8; have hk8 := hcall hk7 HSZ18 b8.out; have hk8' := hk8; unfold Held0 at hk8'; clear hHeld hk7
         refine hK.out _ _ ?_ (fun hHeld => ?_)
         · (try dsimp only); with_reducible exact hk8'
         clear hK K hk8'; try simp only [Act.put, lt, ly, lu]
         refine tk (i := 22) (h := ?_)
         try simp only [Act.put, lt, ly, lu]
         refine tk (i := 23) (h := ?_)
         try simp only [Act.put, lt, ly, lu]
         as_aux_lemma =>
          refine tk (i := 24) (h := ?_)
          try simp only [Act.put, lt, ly, lu]
          refine tk (i := 25) (h := ?_)
          try simp only [Act.put, lt, ly, lu]
          refine tk (i := 26) (h := ?_)
          try simp only [Act.put, lt, ly, lu]
          refine tk (i := 28) (h := ?_)
          try simp only [Act.put, lt, ly, lu]
          refine tk (i := 29) (h := ?_)
          try simp only [Act.put, lt, ly, lu]
          refine wpAnyH_ready (rs := [27]) (by kernel_rfl) (by simp) (AllReadyH.cons (o := ?oq100) ?eq100 ?kq100 AllReadyH.nil)
          case eq100 => simp only [lg, lz, ls]; rfl
          intro K hK; go_simp; go_at_call 35
          refine (bmul_val e_m1.out e_m2.out (hRs3.out.keep (Below.step (Below.step (Below.step (Below.step b4.out b5.out) b6.out) b7.out) b8.out)) (hRt3.out.keep (Below.step (Below.step (Below.step (Below.step b4.out b5.out) b6.out) b7.out) b8.out)) z_a.out z_b.out z_c.out z_d.out).mono ?_
          rintro e w9 ⟨v9, rfl, hv9, b9⟩
          obtain ⟨C29, j29, C30, j30, C31, j31, C32, j32, rfl, -, -⟩ := id hv9.opened
          replace hv9 := hid hv9
          replace b9 := hid b9; have hk9 := hcall hk8 HSZ18 b9.out; have hk9' := hk9; unfold Held0 at hk9'; clear hHeld hk8
          refine hK.out _ _ ?_ (fun hHeld => ?_)
          · (try dsimp only); with_reducible exact hk9'
          clear hK K hk9'; try simp only [Act.put, lt, ly, lu]
          refine wpAnyH_ready (rs := [30]) (by kernel_rfl) (by simp) (AllReadyH.cons (o := ?oq101) ?eq101 ?kq101 AllReadyH.nil)
          case eq101 => simp only [lg, lz, ls]; rfl
          intro K hK; go_simp; go_at_call 42
          refine (ended_mul e_m1.out e_m2.out hv9.out (hRs3.out.keep (Below.step (Below.step (Below.step (Below.step (Below.step b4.out b5.out) b6.out) b7.out) b8.out) b9.out)) (hRt3.out.keep (Below.step (Below.step (Below.step (Below.step (Below.step b4.out b5.out) b6.out) b7.out) b8.out) b9.out)) zz_a.out zz_b.out zz_c.out zz_d.out (cell_keep HMB3.out (Below.step (Below.step (Below.step (Below.step (Below.step b4.out b5.out) b6.out) b7.out) b8.out) b9.out)) (tab_keep HTB3.out (Below.step (Below.step (Below.step (Below.step (Below.step b4.out b5.out) b6.out) b7.out) b8.out) b9.out))).mono ?_
          rintro e w10 ⟨rfl, b10⟩
          replace b10 := hid b10; have hk10 := hcall hk9 HSZ18 b10.out; have hk10' := hk10; unfold Held0 at hk10'; clear hHeld hk9
          refine hK.out _ _ ?_ (fun hHeld => ?_)
          · (try dsimp only); with_reducible exact hk10'
          clear hK K hk10'; try simp only [Act.put, lt, ly, lu]
          refine tk (i := 31) (h := ?_)
          try simp only [Act.put, lt, ly, lu]
          refine tk (i := 32) (h := ?_)
          try simp only [Act.put, lt, ly, lu]
          refine wpAnyH_done (by kernel_rfl) ?_ _
          clear hHeld
          clear z_s_0 z_s_1 z_s_2 z_s_3 z_s_4 z_s_5 z_t_0 z_t_1 z_t_2 z_t_3 z_t_4 z_t_5 hlt18_s hlt18_t
          clear hk10 HSZ18
          have hRs10 := hid (hRs3.out.keep (Below.step (Below.step (Below.step (Below.step (Below.step (Below.step b4.out b5.out) b6.out) b7.out) b8.out) b9.out) b10.out))
          have hRt10 := hid (hRt3.out.keep (Below.step (Below.step (Below.step (Below.step (Below.step (Below.step b4.out b5.out) b6.out) b7.out) b8.out) b9.out) b10.out))
          have hRx10 := hid (hRx3.out.keep (Below.step (Below.step (Below.step (Below.step (Below.step (Below.step b4.out b5.out) b6.out) b7.out) b8.out) b9.out) b10.out))
          have hRy10 := hid (hRy3.out.keep (Below.step (Below.step (Below.step (Below.step (Below.step (Below.step b4.out b5.out) b6.out) b7.out) b8.out) b9.out) b10.out))
          have LRs10 : Hid (w10.heap[blk_s]? = some (.cells #[.bool (decide (a.num < 0)), .slice C1 (len a.num.natAbs) j1, .slice C2 (len (below a.den)) j2, .bool (decide (b.num < 0)), .slice C3 (len b.num.natAbs) j3, .slice C4 (len (below b.den)) j4] 53 (0, 0))) := ((Below.step (Below.step (Below.step (Below.step (Below.step (Below.step b4.out b5.out) b6.out) b7.out) b8.out) b9.out) b10.out).block _ (Array.getElem?_eq_some_iff.1 LRs3.out).1).trans LRs3.out
          have LRt10 : Hid (w10.heap[blk_t]? = some (.cells #[.bool (decide (c.num < 0)), .slice C5 (len c.num.natAbs) j5, .slice C6 (len (below c.den)) j6, .bool (decide (d.num < 0)), .slice C7 (len d.num.natAbs) j7, .slice C8 (len (below d.den)) j8] 53 (0, 0))) := ((Below.step (Below.step (Below.step (Below.step (Below.step (Below.step b4.out b5.out) b6.out) b7.out) b8.out) b9.out) b10.out).block _ (Array.getElem?_eq_some_iff.1 LRt3.out).1).trans LRt3.out
          have LRx10 : Hid (w10.heap[blk_x]? = some (.cells #[.bool (decide (x.num < 0)), .slice C9 (len x.num.natAbs) j9, .slice C10 (len (below x.den)) j10] 27 (0, 0))) := ((Below.step (Below.step (Below.step (Below.step (Below.step (Below.step b4.out b5.out) b6.out) b7.out) b8.out) b9.out) b10.out).block _ (Array.getElem?_eq_some_iff.1 LRx3.out).1).trans LRx3.out
          have LRy10 : Hid (w10.heap[blk_y]? = some (.cells #[.bool (decide (y.num < 0)), .slice C11 (len y.num.natAbs) j11, .slice C12 (len (below y.den)) j12] 27 (0, 0))) := ((Below.step (Below.step (Below.step (Below.step (Below.step (Below.step b4.out b5.out) b6.out) b7.out) b8.out) b9.out) b10.out).block _ (Array.getElem?_eq_some_iff.1 LRy3.out).1).trans LRy3.out
          have HMB10 := hid (cell_keep HMB3.out (Below.step (Below.step (Below.step (Below.step (Below.step (Below.step b4.out b5.out) b6.out) b7.out) b8.out) b9.out) b10.out))
          have HTB10 := hid (tab_keep HTB3.out (Below.step (Below.step (Below.step (Below.step (Below.step (Below.step b4.out b5.out) b6.out) b7.out) b8.out) b9.out) b10.out))
          have HBB10 := hid (Below.step HBB3.out (Below.step (Below.step (Below.step (Below.step (Below.step (Below.step b4.out b5.out) b6.out) b7.out) b8.out) b9.out) b10.out))
          clear hRs3 hRt3 hRx3 hRy3 LRs3 LRt3 LRx3 LRy3 HMB3 HTB3 HBB3 b4 b5 b6 b7 b8 b9 b10
          rcases Decidable.em (c ≤ 0 ∧ 0 ≤ d) with hD | hD
          · skip
            obtain ⟨z0, e_z0⟩ : ∃ z : Rat, 0 = z := ⟨_, rfl⟩
            have hd1 : Hid (decide (c ≤ 0 ∧ 0 ≤ d) = true) := decide_eq_true hD
            replace hD := hid hD
            replace e_z0 := hid e_z0
            have hg : w10.heap[blk_s]? = some (.cells #[.bool (decide (a.num < 0)), .slice C1 (len a.num.natAbs) j1, .slice C2 (len (below a.den)) j2, .bool (decide (b.num < 0)), .slice C3 (len b.num.natAbs) j3, .slice C4 (len (below b.den)) j4] 53 (0, 0)) := ((Below.refl _ w10).block _ (Array.getElem?_eq_some_iff.1 LRs10.out).1).trans LRs10.out
            obtain ⟨z_s_0, z_s_1, z_s_2, z_s_3, z_s_4, z_s_5⟩ := cells6 hg
            clear hg
            have hg : w10.heap[blk_t]? = some (.cells #[.bool (decide (c.num < 0)), .slice C5 (len c.num.natAbs) j5, .slice C6 (len (below c.den)) j6, .bool (decide (d.num < 0)), .slice C7 (len d.num.natAbs) j7, .slice C8 (len (below d.den)) j8] 53 (0, 0)) := ((Below.refl _ w10).block _ (Array.getElem?_eq_some_iff.1 LRt10.out).1).trans LRt10.out
            obtain ⟨z_t_0, z_t_1, z_t_2, z_t_3, z_t_4, z_t_5⟩ := cells6 hg
            clear hg
            have HX := hid (bdiv_no e_z0.out hD.out hRs10.out hRt10.out z_a.out z_b.out z_c.out z_d.out)
            go_wp2_with fail
            refine (HX.out).mono ?_
            rintro e w11 ⟨v11, rfl, hv11, b11⟩
            obtain ⟨C33, j33, C34, j34, C35, j35, C36, j36, rfl, hp11, hq11⟩ := id hv11.opened
            replace hv11 := hid hv11
            clear hp11 hq11
            replace b11 := hid b11
            clear HX
            clear z_s_0 z_s_1 z_s_2 z_s_3 z_s_4 z_s_5 z_t_0 z_t_1 z_t_2 z_t_3 z_t_4 z_t_5
            go_upto_region 22 with fail
            obtain ⟨w12, hw12⟩ : ∃ u, u = w11.alloc (.cells #[.bool (decide (z0.num < 0)), .slice C33 (len z0.num.natAbs) j33, .slice C34 (len (below z0.den)) j34, .bool (decide (z0.num < 0)), .slice C35 (len z0.num.natAbs) j35, .slice C36 (len (below z0.den)) j36] 53) := ⟨_, rfl⟩
            have b12 : Hid (Below w11.heap.size w11 w12) := by rw [hw12]; exact (Below.refl _ _).alloc (Nat.le_refl _) _
            have L12 : Hid (w12.heap[w11.heap.size]? = some (.cells #[.bool (decide (z0.num < 0)), .slice C33 (len z0.num.natAbs) j33, .slice C34 (len (below z0.den)) j34, .bool (decide (z0.num < 0)), .slice C35 (len z0.num.natAbs) j35, .slice C36 (len (below z0.den)) j36] 53 (0, 0))) := by rw [hw12]; exact heap_alloc_new w11 _
            rw [← hw12]
            clear hw12
            have hg : w12.heap[blk_t]? = some (.cells #[.bool (decide (c.num < 0)), .slice C5 (len c.num.natAbs) j5, .slice C6 (len (below c.den)) j6, .bool (decide (d.num < 0)), .slice C7 (len d.num.natAbs) j7, .slice C8 (len (below d.den)) j8] 53 (0, 0)) := ((Below.step b11.out b12.out).block _ (Array.getElem?_eq_some_iff.1 LRt10.out).1).trans LRt10.out
            obtain ⟨z_t_0, z_t_1, z_t_2, z_t_3, z_t_4, z_t_5⟩ := cells6 hg
            clear hg
            have HX := hid (has_val hd1.out (hRt10.out.keep (Below.step b11.out b12.out)) (zero_num _) z_c.out z_d.out (Nat.le_trans siz_zero (by omega)))
            go_wp2_with fail
            refine (HX.out).mono ?_
            rintro e w13 ⟨rfl, b13⟩
            replace b13 := hid b13
            clear HX
            clear z_t_0 z_t_1 z_t_2 z_t_3 z_t_4 z_t_5
            have HX := hid (known_any (cell_keep HMB10.out (Below.step (Below.step b11.out b12.out) b13.out)) (tab_keep HTB10.out (Below.step (Below.step b11.out b12.out) b13.out)))
            go_wp2_with fail
            refine (HX.out).mono ?_
            rintro e w14 ⟨rfl, b14⟩
            replace b14 := hid b14
            clear HX
            have HE := hid (Below.step HBB10.out (Below.step (Below.step (Below.step b11.out b12.out) b13.out) b14.out))
            go_wp2_with fail
            go_ret
            exact ⟨rfl, HE.out⟩
          · skip
            obtain ⟨q1, e_q1⟩ : ∃ z : Rat, leastOf (a / c) [a / d, b / c, b / d] = z := ⟨_, rfl⟩
            obtain ⟨q2, e_q2⟩ : ∃ z : Rat, greatestOf (a / c) [a / d, b / c, b / d] = z := ⟨_, rfl⟩
            obtain ⟨dq, e_dq⟩ : ∃ z : Rat, x / y = z := ⟨_, rfl⟩
            have iD := quot_in hD hx.out hy.out
            rw [e_q1, e_q2, e_dq] at iD
            replace iD : Hid (decide (q1 ≤ dq ∧ dq ≤ q2) = true) := decide_eq_true iD
            have zy_a := zz_a.out
            have zy_b := zz_b.out
            have zy_c := zz_c.out
            have zy_d := zz_d.out
            have zy_x := zz_x.out
            have zy_y := zz_y.out
            have z_q1 : Hid (siz q1 ≤ 536870912) := by show _ ≤ _; exact siz_l4 e_q1 (Nat.le_trans (siz_div a c) (by omega)) (Nat.le_trans (siz_div a d) (by omega)) (Nat.le_trans (siz_div b c) (by omega)) (Nat.le_trans (siz_div b d) (by omega))
            have z_q2 : Hid (siz q2 ≤ 536870912) := by show _ ≤ _; exact siz_g4 e_q2 (Nat.le_trans (siz_div a c) (by omega)) (Nat.le_trans (siz_div a d) (by omega)) (Nat.le_trans (siz_div b c) (by omega)) (Nat.le_trans (siz_div b d) (by omega))
            have z_dq : Hid (siz dq ≤ 536870912) := by show _ ≤ _; rw [← e_dq]; exact Nat.le_trans (siz_div x y) (by omega)
            clear zy_a zy_b zy_c zy_d zy_x zy_y
            replace e_q1 := hid e_q1
            replace e_q2 := hid e_q2
            replace e_dq := hid e_dq
            replace hD := hid hD
            have hg : w10.heap[blk_s]? = some (.cells #[.bool (decide (a.num < 0)), .slice C1 (len a.num.natAbs) j1, .slice C2 (len (below a.den)) j2, .bool (decide (b.num < 0)), .slice C3 (len b.num.natAbs) j3, .slice C4 (len (below b.den)) j4] 53 (0, 0)) := ((Below.refl _ w10).block _ (Array.getElem?_eq_some_iff.1 LRs10.out).1).trans LRs10.out
            obtain ⟨z_s_0, z_s_1, z_s_2, z_s_3, z_s_4, z_s_5⟩ := cells6 hg
            clear hg
            have hg : w10.heap[blk_t]? = some (.cells #[.bool (decide (c.num < 0)), .slice C5 (len c.num.natAbs) j5, .slice C6 (len (below c.den)) j6, .bool (decide (d.num < 0)), .slice C7 (len d.num.natAbs) j7, .slice C8 (len (below d.den)) j8] 53 (0, 0)) := ((Below.refl _ w10).block _ (Array.getElem?_eq_some_iff.1 LRt10.out).1).trans LRt10.out
            obtain ⟨z_t_0, z_t_1, z_t_2, z_t_3, z_t_4, z_t_5⟩ := cells6 hg
            clear hg
            have HX := hid (bdiv_val e_q1.out e_q2.out hD.out hRs10.out hRt10.out z_a.out z_b.out z_c.out z_d.out)
            go_wp2_with fail
            refine (HX.out).mono ?_
            rintro e w11 ⟨v11, rfl, hv11, b11⟩
            obtain ⟨C33, j33, C34, j34, C35, j35, C36, j36, rfl, hp11, hq11⟩ := id hv11.opened
            replace hv11 := hid hv11
            clear hp11 hq11
            replace b11 := hid b11
            clear HX
            clear z_s_0 z_s_1 z_s_2 z_s_3 z_s_4 z_s_5 z_t_0 z_t_1 z_t_2 z_t_3 z_t_4 z_t_5
            go_upto_region 22 with fail
            obtain ⟨w12, hw12⟩ : ∃ u, u = w11.alloc (.cells #[.bool (decide (q1.num < 0)), .slice C33 (len q1.num.natAbs) j33, .slice C34 (len (below q1.den)) j34, .bool (decide (q2.num < 0)), .slice C35 (len q2.num.natAbs) j35, .slice C36 (len (below q2.den)) j36] 53) := ⟨_, rfl⟩
            have b12 : Hid (Below w11.heap.size w11 w12) := by rw [hw12]; exact (Below.refl _ _).alloc (Nat.le_refl _) _
            have L12 : Hid (w12.heap[w11.heap.size]? = some (.cells #[.bool (decide (q1.num < 0)), .slice C33 (len q1.num.natAbs) j33, .slice C34 (len (below q1.den)) j34, .bool (decide (q2.num < 0)), .slice C35 (len q2.num.natAbs) j35, .slice C36 (len (below q2.den)) j36] 53 (0, 0))) := by rw [hw12]; exact heap_alloc_new w11 _
            rw [← hw12]
            clear hw12
            have hRs12 := hid (hRs10.out.keep (Below.step b11.out b12.out))
            have hRt12 := hid (hRt10.out.keep (Below.step b11.out b12.out))
            have hRx12 := hid (hRx10.out.keep (Below.step b11.out b12.out))
            have hRy12 := hid (hRy10.out.keep (Below.step b11.out b12.out))
            have hRdv12 := hid (hv11.out.keep b12.out)
            have LRs12 : Hid (w12.heap[blk_s]? = some (.cells #[.bool (decide (a.num < 0)), .slice C1 (len a.num.natAbs) j1, .slice C2 (len (below a.den)) j2, .bool (decide (b.num < 0)), .slice C3 (len b.num.natAbs) j3, .slice C4 (len (below b.den)) j4] 53 (0, 0))) := ((Below.step b11.out b12.out).block _ (Array.getElem?_eq_some_iff.1 LRs10.out).1).trans LRs10.out
            have LRt12 : Hid (w12.heap[blk_t]? = some (.cells #[.bool (decide (c.num < 0)), .slice C5 (len c.num.natAbs) j5, .slice C6 (len (below c.den)) j6, .bool (decide (d.num < 0)), .slice C7 (len d.num.natAbs) j7, .slice C8 (len (below d.den)) j8] 53 (0, 0))) := ((Below.step b11.out b12.out).block _ (Array.getElem?_eq_some_iff.1 LRt10.out).1).trans LRt10.out
            have LRx12 : Hid (w12.heap[blk_x]? = some (.cells #[.bool (decide (x.num < 0)), .slice C9 (len x.num.natAbs) j9, .slice C10 (len (below x.den)) j10] 27 (0, 0))) := ((Below.step b11.out b12.out).block _ (Array.getElem?_eq_some_iff.1 LRx10.out).1).trans LRx10.out
            have LRy12 : Hid (w12.heap[blk_y]? = some (.cells #[.bool (decide (y.num < 0)), .slice C11 (len y.num.natAbs) j11, .slice C12 (len (below y.den)) j12] 27 (0, 0))) := ((Below.step b11.out b12.out).block _ (Array.getElem?_eq_some_iff.1 LRy10.out).1).trans LRy10.out
            have HMB12 := hid (cell_keep HMB10.out (Below.step b11.out b12.out))
            have HTB12 := hid (tab_keep HTB10.out (Below.step b11.out b12.out))
            have HBB12 := hid (Below.step HBB10.out (Below.step b11.out b12.out))
            clear hRs10 hRt10 hRx10 hRy10 hv11 LRs10 LRt10 LRx10 LRy10 HMB10 HTB10 HBB10 b11 b12
            go_wp2_with fail
            obtain ⟨NN24, hNN⟩ : ∃ n : Nat, w12.heap.size = n := ⟨_, rfl⟩
            have HSZ24 : Hid (w12.heap.size = NN24) := hNN
            have hg : w12.heap[blk_s]? = some (.cells #[.bool (decide (a.num < 0)), .slice C1 (len a.num.natAbs) j1, .slice C2 (len (below a.den)) j2, .bool (decide (b.num < 0)), .slice C3 (len b.num.natAbs) j3, .slice C4 (len (below b.den)) j4] 53 (0, 0)) := ((Below.refl _ w12).block _ (Array.getElem?_eq_some_iff.1 LRs12.out).1).trans LRs12.out
            obtain ⟨z_s_0, z_s_1, z_s_2, z_s_3, z_s_4, z_s_5⟩ := cells6 hg
            clear hg
            have hlt24_s : blk_s < NN24 := Nat.lt_of_lt_of_eq (World.block_lt_of_cell? _ _ z_s_0) hNN
            have hg : w12.heap[blk_t]? = some (.cells #[.bool (decide (c.num < 0)), .slice C5 (len c.num.natAbs) j5, .slice C6 (len (below c.den)) j6, .bool (decide (d.num < 0)), .slice C7 (len d.num.natAbs) j7, .slice C8 (len (below d.den)) j8] 53 (0, 0)) := ((Below.refl _ w12).block _ (Array.getElem?_eq_some_iff.1 LRt12.out).1).trans LRt12.out
            obtain ⟨z_t_0, z_t_1, z_t_2, z_t_3, z_t_4, z_t_5⟩ := cells6 hg
            clear hg
            have hlt24_t : blk_t < NN24 := Nat.lt_of_lt_of_eq (World.block_lt_of_cell? _ _ z_t_0) hNN
            have hg : w12.heap[blk_x]? = some (.cells #[.bool (decide (x.num < 0)), .slice C9 (len x.num.natAbs) j9, .slice C10 (len (below x.den)) j10] 27 (0, 0)) := ((Below.refl _ w12).block _ (Array.getElem?_eq_some_iff.1 LRx12.out).1).trans LRx12.out
            obtain ⟨z_x_0, z_x_1, z_x_2⟩ := cells3 hg
            clear hg
            have hlt24_x : blk_x < NN24 := Nat.lt_of_lt_of_eq (World.block_lt_of_cell? _ _ z_x_0) hNN
            have hg : w12.heap[blk_y]? = some (.cells #[.bool (decide (y.num < 0)), .slice C11 (len y.num.natAbs) j11, .slice C12 (len (below y.den)) j12] 27 (0, 0)) := ((Below.refl _ w12).block _ (Array.getElem?_eq_some_iff.1 LRy12.out).1).trans LRy12.out
            obtain ⟨z_y_0, z_y_1, z_y_2⟩ := cells3 hg
            clear hg
            have hlt24_y : blk_y < NN24 := Nat.lt_of_lt_of_eq (World.block_lt_of_cell? _ _ z_y_0) hNN
            have hg : w12.heap[w11.heap.size]? = some (.cells #[.bool (decide (q1.num < 0)), .slice C33 (len q1.num.natAbs) j33, .slice C34 (len (below q1.den)) j34, .bool (decide (q2.num < 0)), .slice C35 (len q2.num.natAbs) j35, .slice C36 (len (below q2.den)) j36] 53 (0, 0)) := ((Below.refl _ w12).block _ (Array.getElem?_eq_some_iff.1 L12.out).1).trans L12.out
            obtain ⟨z_dv_0, z_dv_1, z_dv_2, z_dv_3, z_dv_4, z_dv_5⟩ := cells6 hg
            clear hg
            have hlt24_dv : w11.heap.size < NN24 := Nat.lt_of_lt_of_eq (World.block_lt_of_cell? _ _ z_dv_0) hNN
            have H0 := Held0.start w12 NN24
            have H0' := H0
            unfold Held0 at H0'
            refine wp_region_held_drew (S := (fun w' => (∀ b o, b < NN24 → w'.cell? ⟨b, o, none⟩ = w12.cell? ⟨b, o, none⟩) ∧ Below (NN24) w12 w' ∧ Stay w12 w')) (by kernel_rfl) ?_ (fun hHeld => ?_)
            · (try dsimp only)
              exact H0'
            obtain ⟨w13, hw13⟩ : ∃ u, u = w12.drew := ⟨_, rfl⟩
            have b13 : Hid (Below w12.heap.size w12 w13) := by rw [hw13]; exact ⟨rfl, rfl, rfl, Nat.le_refl _, fun _ _ => rfl⟩
            rw [← hw13] at hHeld H0 ⊢
            clear hw13 H0' hNN
            as_aux_lemma =>
             refine tk (i := 0) (h := ?_)
             try simp only [Act.put, lt, ly, lu]
             refine tk (i := 1) (h := ?_)
             try simp only [Act.put, lt, ly, lu]
             refine tk (i := 2) (h := ?_)
             try simp only [Act.put, lt, ly, lu]
             refine tk (i := 3) (h := ?_)
             try simp only [Act.put, lt, ly, lu]
             refine wpAnyH_ready (rs := [4]) (by kernel_rfl) (by simp) (AllReadyH.cons (o := ?oq108) ?eq108 ?kq108 AllReadyH.nil)
             case eq108 => simp only [lg, lz, ls]; rfl
             intro K hK; go_simp; go_at_call 43
             refine (overf_val e_dq.out (hRx12.out.keep b13.out) (hRy12.out.keep b13.out) z_x.out z_y.out).mono ?_
             rintro e w14 ⟨v14, rfl, hv14, b14⟩
             obtain ⟨C37, j37, C38, j38, rfl, -, -⟩ := id hv14.opened; replace hv14 := hid hv14
             replace b14 := hid b14; have hk14 := hcall H0 HSZ24 b14.out; have hk14' := hk14; unfold Held0 at hk14'; clear hHeld H0
             refine hK.out _ _ ?_ (fun hHeld => ?_)
             · (try dsimp only); with_reducible exact hk14'
             clear hK K hk14'; try simp only [Act.put, lt, ly, lu]
             refine wpAnyH_ready (rs := [5]) (by kernel_rfl) (by simp) (AllReadyH.cons (o := ?oq109) ?eq109 ?kq109 AllReadyH.nil)
             case eq109 => simp only [lg, lz, ls]; rfl
             intro K hK; go_simp; go_at_call 32
             refine (has_val iD.out (hRdv12.out.keep (Below.step b13.out b14.out)) hv14.out z_q1.out z_q2.out z_dq.out).mono ?_
             rintro e w15 ⟨rfl, b15⟩
             replace b15 := hid b15; have hk15 := hcall hk14 HSZ24 b15.out; have hk15' := hk15; unfold Held0 at hk15'; clear hHeld hk14
             refine hK.out _ _ ?_ (fun hHeld => ?_)
             · (try dsimp only); with_reducible exact hk15'
             clear hK K hk15'; try simp only [Act.put, lt, ly, lu]
             refine tk (i := 6) (h := ?_)
             try simp only [Act.put, lt, ly, lu]
             refine tk (i := 7) (h := ?_)
             try simp only [Act.put, lt, ly, lu]
             refine tk (i := 8) (h := ?_)
             try simp only [Act.put, lt, ly, lu]
             refine tk (i := 9) (h := ?_)
             try simp only [Act.put, lt, ly, lu]
             refine tk (i := 10) (h := ?_)
             try simp only [Act.put, lt, ly, lu]
             refine wpAnyH_ready (rs := [11]) (by kernel_rfl) (by simp) (AllReadyH.cons (o := ?oq115) ?eq115 ?kq115 AllReadyH.nil)
             case eq115 => simp only [lg, lz, ls]; rfl
             intro K hK; go_simp; go_at_call 42
             refine (ended_div e_q1.out e_q2.out (hRdv12.out.keep (Below.step (Below.step b13.out b14.out) b15.out)) (hRs12.out.keep (Below.step (Below.step b13.out b14.out) b15.out)) (hRt12.out.keep (Below.step (Below.step b13.out b14.out) b15.out)) zz_a.out zz_b.out zz_c.out zz_d.out (cell_keep HMB12.out (Below.step (Below.step b13.out b14.out) b15.out)) (tab_keep HTB12.out (Below.step (Below.step b13.out b14.out) b15.out))).mono ?_
             rintro e w16 ⟨rfl, b16⟩
             replace b16 := hid b16; have hk16 := hcall hk15 HSZ24 b16.out; have hk16' := hk16; unfold Held0 at hk16'; clear hHeld hk15
             refine hK.out _ _ ?_ (fun hHeld => ?_)
             · (try dsimp only); with_reducible exact hk16'
             clear hK K hk16'; try simp only [Act.put, lt, ly, lu]
             as_aux_lemma =>
              refine tk (i := 12) (h := ?_)
              try simp only [Act.put, lt, ly, lu]
              refine tk (i := 13) (h := ?_)
              try simp only [Act.put, lt, ly, lu]
              refine wpAnyH_ready (rs := [14]) (by kernel_rfl) (by simp) (AllReadyH.cons (o := ?oq118) ?eq118 ?kq118 AllReadyH.nil)
              case eq118 => simp only [lg, lz, ls]; rfl
              intro K hK; go_simp; go_at_call 11
              refine (known_any (cell_keep HMB12.out (Below.step (Below.step (Below.step b13.out b14.out) b15.out) b16.out)) (tab_keep HTB12.out (Below.step (Below.step (Below.step b13.out b14.out) b15.out) b16.out))).mono ?_
              rintro e w17 ⟨rfl, b17⟩
              replace b17 := hid b17; have hk17 := hcall hk16 HSZ24 b17.out; have hk17' := hk17; unfold Held0 at hk17'; clear hHeld hk16
              refine hK.out _ _ ?_ (fun hHeld => ?_)
              · (try dsimp only); with_reducible exact hk17'
              clear hK K hk17'; try simp only [Act.put, lt, ly, lu]
              refine tk (i := 15) (h := ?_)
              try simp only [Act.put, lt, ly, lu]
              refine tk (i := 16) (h := ?_)
              try simp only [Act.put, lt, ly, lu]
              have HE := hid (Below.step HBB12.out (Below.step (Below.step (Below.step (Below.step b13.out b14.out) b15.out) b16.out) b17.out))
              refine wpAnyH_done (by kernel_rfl) ?_ _
              clear hHeld
              go_wp2_with fail
              go_ret
              exact ⟨rfl, HE.out⟩
  simp only [← hA12.out, Act.put, lt, ly, lu] at rest12
  replace rest12 := hid rest12
  have HA := hA12.out
  subst HA
  clear hK12
  have hg : w5.heap[blk_s]? = some (.cells #[.bool (decide (a.num < 0)), .slice C1 (len a.num.natAbs) j1, .slice C2 (len (below a.den)) j2, .bool (decide (b.num < 0)), .slice C3 (len b.num.natAbs) j3, .slice C4 (len (below b.den)) j4] 53 (0, 0)) := ((Below.step (Below.step (Below.step b2.out b3.out) b4.out) b5.out).block _ (Array.getElem?_eq_some_iff.1 L_s.out).1).trans L_s.out
  obtain ⟨z_s_0, z_s_1, z_s_2, z_s_3, z_s_4, z_s_5⟩ := cells6 hg
  clear hg
  have HX := hid (has_val e_zb.out (hv_s.out.keep (Below.step (Below.step (Below.step b2.out b3.out) b4.out) b5.out)) (zero_num _) z_a.out z_b.out (Nat.le_trans siz_zero (by omega)))
  go_wp2_with fail
  refine (HX.out).mono ?_
  rintro e w6 ⟨rfl, b6⟩
  replace b6 := hid b6
  clear HX
  clear z_s_0 z_s_1 z_s_2 z_s_3 z_s_4 z_s_5
  have hrow2 := hid (numsAt_keep hrow.out b6.out)
  have LW2 : Hid (w6.heap[N9]? = some (.cells #[.bool (decide (a.num < 0)), .slice C17 (len a.num.natAbs) j17, .slice C18 (len (below a.den)) j18, .bool (decide (b.num < 0)), .slice C19 (len b.num.natAbs) j19, .slice C20 (len (below b.den)) j20] 27 (0, 0))) := at_keep LW.out b6.out
  have hB := hid (Below.step (Below.step (Below.step (Below.step b2.out b3.out) b4.out) b5.out) b6.out)
  cases zb
  · have hno : ¬ (a ≤ 0 ∧ 0 ≤ b) := of_decide_eq_false e_zb.out
    have hpp := hid (ends_two iL.out iH.out hno)
    clear hno
    go_wp2_with fail
    exact rest12.out _ N9 2 [a, b] _ _ _ _ _ _ _ hB hrow2 hpp (by simp) (by intro z hz; simp only [List.mem_cons, List.not_mem_nil, or_false] at hz; rcases hz with rfl | rfl; exact zz_a.out; exact zz_b.out)
  · obtain ⟨ti, tz, tb, hi1, hi2, hi3, hi4, hi5, hi6⟩ := num_info
    have hpp := hid (ends_three iL.out iH.out)
    have hown : (w6.alloc (.cells #[.bool false, .slice none 0 0, .slice none 0 0] 27)).ownsRow 0 27 3 (.slice (some ⟨N9, 0, none⟩) 2 2) 2 [.bool (decide (a.num < 0)), .slice C17 (len a.num.natAbs) j17, .slice C18 (len (below a.den)) j18, .bool (decide (b.num < 0)), .slice C19 (len b.num.natAbs) j19, .slice C20 (len (below b.den)) j20] := ⟨rfl, Or.inr ⟨N9, 2, #[.bool (decide (a.num < 0)), .slice C17 (len a.num.natAbs) j17, .slice C18 (len (below a.den)) j18, .bool (decide (b.num < 0)), .slice C19 (len b.num.natAbs) j19, .slice C20 (len (below b.den)) j20], rfl, Nat.zero_le _, at_keep LW2.out (zero_below _), Nat.le_refl _, by decide, rfl, rfl⟩⟩
    have hnews := World.news_of_block (zero3_at w6)
    have hnew1 : ∀ u ∈ [Value.bool false, .slice none 0 0, .slice none 0 0], u.oneCell' = true := by intro u hu; simp only [List.mem_cons, List.not_mem_nil, or_false] at hu; rcases hu with rfl | rfl | rfl <;> rfl
    have hbu := hid (Below.step hB.out (zero_below w6))
    have ga := hid ((IsNum.keep hv3.out (Below.step (Below.step b4.out b5.out) b6.out)).keep (zero_below w6))
    have gb := hid ((IsNum.keep hv4.out (Below.step b5.out b6.out)).keep (zero_below w6))
    go_wp2_with (at_builtin; refine wpList_append_lies _ rfl _ _ _ rfl 0 27 ti tz 3 tb Tryz.underlying61 hi1 hi2 hi3 hi4 hi5 (by omega) _ 2 _ (by rfl) hown _ 1 1 [Value.bool false, .slice none 0 0, .slice none 0 0] (by rfl) rfl hnews hnew1 (by omega) (by decide) (by omega) (Nat.zero_le _) _ rfl ?_; intro g cap w' hown' hgrow hat hlt)
    obtain ⟨ub, hub⟩ : ∃ z, z = (w6.alloc (.cells #[.bool false, .slice none 0 0, .slice none 0 0] 27)) := ⟨_, rfl⟩
    rw [← hub] at hbu hgrow
    have hbz := hid (Below.grown hbu.out hgrow hbu.out.size (fun r hr => by have : N9 = r := Option.some.inj hr; omega))
    have hbv : Below w4.heap.size w4 ub := by rw [hub]; exact Below.step (Below.step b5.out b6.out) (zero_below w6)
    have hbw := Below.grown hbv hgrow hbv.size (fun r hr => by have : N9 = r := Option.some.inj hr; have := hN9e.out; omega)
    obtain ⟨g', cap', cur, hv, -, hg, -, -, -, htk⟩ := hown'.2.resolve_left (fun h => absurd h.2 (by omega))
    have hgg : g = g' := by injection hv with e1; injection e1 with e2; injection e2
    subst hgg
    have hnm := hid (nums_three hg (by simpa using htk) (IsNum.keep (hv3.out.keep b4.out) hbw) (IsNum.keep hv4.out hbw))
    clear hbv hbw hg htk hv hown' hgrow hat hlt hbu hub hown hnews hnew1
    exact rest12.out _ g cap [a, b, 0] _ _ _ _ _ _ _ hbz hnm hpp (by simp) (by intro z hz; simp only [List.mem_cons, List.not_mem_nil, or_false] at hz; rcases hz with rfl | rfl | rfl; exact zz_a.out; exact zz_b.out; exact Nat.le_trans siz_zero (by omega))
end Go.Proofs.YtlffafddmmhbmaaGreatDoor
