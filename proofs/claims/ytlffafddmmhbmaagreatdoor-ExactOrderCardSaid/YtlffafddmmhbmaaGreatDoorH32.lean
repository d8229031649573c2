/-
  Contracts of the functions that the law calls, for every input (GrW LawB).
-/
import Derived.Test.YtlffafddmmhbmaaGreatDoorH31
import Derived.Test.YtlffafddmmhbmaaGreatDoorH30
import Derived.Test.YtlffafddmmhbmaaGreatDoorH22
set_option linter.all false
namespace Go.Proofs.YtlffafddmmhbmaaGreatDoor
open Go.RowKit
open Vx

theorem wide_val {w : World} {s1 s2 s3 s4 s5 s6 : ByteArray} {m n p : Nat} {r : Bool} (h : [s1, s2, s3, s4, s5, s6].any (fun s => decide (40 < s.size)) = r) :
    Calls Tryz.prog 28 #[.agg #[.string s1, .string s2, .string s3, .string s4, .string s5, .string s6, .int .u8 (m : Nat), .int .u8 (n : Nat), .int .u8 (p : Nat)]] w (BoolRet w r) := by
  rw [← h]; exact wide_any
theorem hull_val {w : World} {v u : Value} {a b c d p q : Rat} (h1 : leastOf a [b, c, d] = p) (h2 : greatestOf a [b, c, d] = q) (hv : IsBox w v a b) (hu : IsBox w u c d) (sa : siz a ≤ 536870912) (sb : siz b ≤ 536870912) (sc : siz c ≤ 536870912) (sd : siz d ≤ 536870912) :
    Calls Tryz.prog 39 #[v, u] w (BoxRet w p q) := by
  rw [← h1, ← h2]; exact boxHull_any hv hu (Nat.le_trans sa (by omega)) (Nat.le_trans sb (by omega)) (Nat.le_trans sc (by omega)) (Nat.le_trans sd (by omega))
theorem badd_val {w : World} {v u : Value} {a b c d p q : Rat} (h1 : a + c = p) (h2 : b + d = q) (hv : IsBox w v a b) (hu : IsBox w u c d) (sa : siz a ≤ 536870912) (sb : siz b ≤ 536870912) (sc : siz c ≤ 536870912) (sd : siz d ≤ 536870912) :
    Calls Tryz.prog 33 #[v, u] w (BoxRet w p q) := by
  rw [← h1, ← h2]; exact boxAdd_any hv hu (Nat.le_trans sa (by omega)) (Nat.le_trans sb (by omega)) (Nat.le_trans sc (by omega)) (Nat.le_trans sd (by omega))
theorem bsub_val {w : World} {v u : Value} {a b c d p q : Rat} (h1 : a - d = p) (h2 : b - c = q) (hv : IsBox w v a b) (hu : IsBox w u c d) (sa : siz a ≤ 536870912) (sb : siz b ≤ 536870912) (sc : siz c ≤ 536870912) (sd : siz d ≤ 536870912) :
    Calls Tryz.prog 34 #[v, u] w (BoxRet w p q) := by
  rw [← h1, ← h2]; exact boxSub_any hv hu (Nat.le_trans sa (by omega)) (Nat.le_trans sb (by omega)) (Nat.le_trans sc (by omega)) (Nat.le_trans sd (by omega))
theorem bmul_val {w : World} {v u : Value} {a b c d p q : Rat} (h1 : leastOf (a * c) [a * d, b * c, b * d] = p) (h2 : greatestOf (a * c) [a * d, b * c, b * d] = q) (hv : IsBox w v a b) (hu : IsBox w u c d) (sa : siz a ≤ 536870912) (sb : siz b ≤ 536870912) (sc : siz c ≤ 536870912) (sd : siz d ≤ 536870912) :
    Calls Tryz.prog 35 #[v, u] w (BoxRet w p q) := by
  rw [← h1, ← h2]; exact boxMul_any hv hu (Nat.le_trans sa (by omega)) (Nat.le_trans sb (by omega)) (Nat.le_trans sc (by omega)) (Nat.le_trans sd (by omega))
theorem bdiv_val {w : World} {v u : Value} {a b c d p q : Rat} (h1 : leastOf (a / c) [a / d, b / c, b / d] = p) (h2 : greatestOf (a / c) [a / d, b / c, b / d] = q) (h : ¬ (c ≤ 0 ∧ 0 ≤ d)) (hv : IsBox w v a b) (hu : IsBox w u c d) (sa : siz a ≤ 536870912) (sb : siz b ≤ 536870912) (sc : siz c ≤ 536870912) (sd : siz d ≤ 536870912) :
    Calls Tryz.prog 44 #[v, u] w (BoxErrRet w p q 0) := by
  rw [← h1, ← h2]; exact boxDiv_ok hv hu (Nat.le_trans sa (by omega)) (Nat.le_trans sb (by omega)) (Nat.le_trans sc (by omega)) (Nat.le_trans sd (by omega)) h
theorem bdiv_no {w : World} {v u : Value} {a b c d z : Rat} (h1 : 0 = z) (h : c ≤ 0 ∧ 0 ≤ d) (hv : IsBox w v a b) (hu : IsBox w u c d) (sa : siz a ≤ 536870912) (sb : siz b ≤ 536870912) (sc : siz c ≤ 536870912) (sd : siz d ≤ 536870912) :
    Calls Tryz.prog 44 #[v, u] w (BoxErrRet w z z 10) := by
  rw [← h1]; exact boxDiv_zero hv hu (Nat.le_trans sa (by omega)) (Nat.le_trans sb (by omega)) (Nat.le_trans sc (by omega)) (Nat.le_trans sd (by omega)) h
theorem babs_val {w : World} {v : Value} {a b p q : Rat} (h1 : absLo a b = p) (h2 : absHi a b = q) (hv : IsBox w v a b) (sa : siz a ≤ 536870912) (sb : siz b ≤ 536870912) :
    Calls Tryz.prog 37 #[v] w (BoxRet w p q) := by
  rw [← h1, ← h2]; exact boxAbs_any hv (Nat.le_trans sa (by omega)) (Nat.le_trans sb (by omega))
theorem has_val {w : World} {v vx : Value} {a b x : Rat} {r : Bool} (hr : decide (a ≤ x ∧ x ≤ b) = r) (hv : IsBox w v a b) (hx : IsNum w vx x) (sa : siz a ≤ 536870912) (sb : siz b ≤ 536870912) (sx : siz x ≤ 536870912) :
    Calls Tryz.prog 32 #[v, vx] w (BoolRet w r) := by
  rw [← hr]; exact boxHas_any hv hx (Nat.le_trans sa (by omega)) (Nat.le_trans sb (by omega)) (Nat.le_trans sx (by omega))
/-- boxes of results that begin with a greater box -/
theorem gr_facts {a b c d e f A B : Rat} (hab : a ≤ b) (hcd : c ≤ d) (hef : e ≤ f) (hA : leastOf a [b, e, f] = A) (hB : greatestOf a [b, e, f] = B) :
    decide (A ≤ a ∧ b ≤ B) = true ∧ decide (A ≤ e ∧ f ≤ B) = true ∧ decide (A + c ≤ a + c ∧ b + d ≤ B + d) = true ∧ decide (A - d ≤ a - d ∧ b - c ≤ B - c) = true ∧ decide (c - B ≤ c - b ∧ d - a ≤ d - A) = true ∧
    decide (leastOf (A * c) [A * d, B * c, B * d] ≤ leastOf (a * c) [a * d, b * c, b * d] ∧ greatestOf (a * c) [a * d, b * c, b * d] ≤ greatestOf (A * c) [A * d, B * c, B * d]) = true ∧
    decide (absLo A B ≤ absLo a b ∧ absHi a b ≤ absHi A B) = true := by
  obtain ⟨h1, h2, h3, h4, -, -⟩ := hull_is hab hef hA hB
  refine ⟨decide_eq_true ⟨h1, h2⟩, decide_eq_true ⟨h3, h4⟩, decide_eq_true ?_, decide_eq_true ?_, decide_eq_true ?_, decide_eq_true (prod_inside hab hcd h1 h2), decide_eq_true (abs_inside hab h1 h2)⟩
  · constructor <;> grind
  · constructor <;> grind
  · constructor <;> grind
theorem siz_l4 {x y z t q : Rat} {N : Nat} (h : leastOf x [y, z, t] = q) (h1 : siz x ≤ N) (h2 : siz y ≤ N) (h3 : siz z ≤ N) (h4 : siz t ≤ N) : siz q ≤ N := by
  rw [← h]; exact siz_least h1 (by simp only [List.mem_cons, List.not_mem_nil, or_false]; rintro r (rfl | rfl | rfl) <;> assumption)
theorem siz_g4 {x y z t q : Rat} {N : Nat} (h : greatestOf x [y, z, t] = q) (h1 : siz x ≤ N) (h2 : siz y ≤ N) (h3 : siz z ≤ N) (h4 : siz t ≤ N) : siz q ≤ N := by
  rw [← h]; exact siz_greatest h1 (by simp only [List.mem_cons, List.not_mem_nil, or_false]; rintro r (rfl | rfl | rfl) <;> assumption)
theorem siz_l2 {x y q : Rat} {N : Nat} (h : leastOf x [y] = q) (h1 : siz x ≤ N) (h2 : siz y ≤ N) : siz q ≤ N := by
  rw [← h]; exact siz_least h1 (by simp only [List.mem_cons, List.not_mem_nil, or_false]; rintro r rfl; exact h2)
theorem siz_g2 {x y q : Rat} {N : Nat} (h : greatestOf x [y] = q) (h1 : siz x ≤ N) (h2 : siz y ≤ N) : siz q ≤ N := by
  rw [← h]; exact siz_greatest h1 (by simp only [List.mem_cons, List.not_mem_nil, or_false]; rintro r rfl; exact h2)
theorem siz_box {p1 p2 a b : Rat} {s1 s2 : ByteArray} (e1 : (parseV s1).1 = p1) (e2 : (parseV s2).1 = p2) (hl : a = if p2 < p1 then p2 else p1) (hh : b = if p2 < p1 then p1 else p2) : siz a ≤ 4100 ∧ siz b ≤ 4100 ∧ a ≤ b := by
  have i1 := parse_siz s1
  have i2 := parse_siz s2
  rw [e1] at i1
  rw [e2] at i2
  rw [hl, hh]
  split
  · rename_i h; exact ⟨i2, i1, Rat.le_of_lt h⟩
  · rename_i h; exact ⟨i1, i2, Rat.not_lt.1 h⟩
theorem siz_at {l h x : Rat} {p : Nat} (hp : p ≤ 255) (hx : l + (h - l) * mkRat ((p : Nat) : Int) 255 = x) (h1 : siz l ≤ 4100) (h2 : siz h ≤ 4100) : siz x ≤ 20000 := by
  rw [← hx]
  have i1 := siz_sub h l
  have i2 := siz_ratio hp
  have i3 := siz_mul (h - l) (mkRat ((p : Nat) : Int) 255)
  have i4 := siz_add l ((h - l) * mkRat ((p : Nat) : Int) 255)
  omega
end Go.Proofs.YtlffafddmmhbmaaGreatDoor
namespace Go.Proofs.YtlffafddmmhbmaaGreatDoor
open Go.RowKit
open Vx

theorem cmpQ_ne {x y : Rat} (h : x ≠ y) : cmpQ x y ≠ 0 := by
  unfold cmpQ
  rw [if_neg h]
  split <;> omega
set_option maxRecDepth 100000 in
set_option maxHeartbeats 2000000 in
theorem equal_no {w : World} {vx vy : Value} {x y : Rat} (hx : IsNum w vx x) (hy : IsNum w vy y) (hxy : x ≠ y) (hs : siz x ≤ 536870912) (hs2 : siz y ≤ 536870912) :
    Calls Tryz.prog 13 #[vx, vy] w (BoolRet w false) := by
  obtain ⟨A1, c1, A2, c2, rfl, hx1, hx2⟩ := hx.opened
  obtain ⟨A3, c3, A4, c4, rfl, hy1, hy2⟩ := hy.opened
  obtain ⟨wB, hwB⟩ : ∃ u, u = (w.alloc (.cells #[.bool (decide (x.num < 0)), .slice A1 (len x.num.natAbs) c1, .slice A2 (len (below x.den)) c2] 27)).alloc (.cells #[.bool (decide (y.num < 0)), .slice A3 (len y.num.natAbs) c3, .slice A4 (len (below y.den)) c4] 27) := ⟨_, rfl⟩
  obtain ⟨b0, gA, gA2⟩ := news2 w (.cells #[.bool (decide (x.num < 0)), .slice A1 (len x.num.natAbs) c1, .slice A2 (len (below x.den)) c2] 27) (.cells #[.bool (decide (y.num < 0)), .slice A3 (len y.num.natAbs) c3, .slice A4 (len (below y.den)) c4] 27)
  rw [← hwB] at b0 gA gA2
  have k0 : wB.cell? ⟨w.heap.size, 0, none⟩ = some (.bool (decide (x.num < 0))) := cell_of_row _ _ _ _ _ _ gA
  have k1 : wB.cell? ⟨w.heap.size, 1, none⟩ = some (.slice A1 (len x.num.natAbs) c1) := cell_of_row _ _ _ _ _ _ gA
  have k2 : wB.cell? ⟨w.heap.size, 2, none⟩ = some (.slice A2 (len (below x.den)) c2) := cell_of_row _ _ _ _ _ _ gA
  have k3 : wB.cell? ⟨w.heap.size + 1, 0, none⟩ = some (.bool (decide (y.num < 0))) := cell_of_row _ _ _ _ _ _ gA2
  have k4 : wB.cell? ⟨w.heap.size + 1, 1, none⟩ = some (.slice A3 (len y.num.natAbs) c3) := cell_of_row _ _ _ _ _ _ gA2
  have k5 : wB.cell? ⟨w.heap.size + 1, 2, none⟩ = some (.slice A4 (len (below y.den)) c4) := cell_of_row _ _ _ _ _ _ gA2
  have HB0 := Lib.hid b0
  clear gA gA2 b0
  have HSZ : Hid (wB.heap.size = w.heap.size + 2) := by show _ = _; rw [hwB, World.size_alloc, World.size_alloc]
  have hlt1 : w.heap.size < w.heap.size + 2 := by omega
  have hlt2 : w.heap.size + 1 < w.heap.size + 2 := by omega
  have H0 := Held0.start wB (w.heap.size + 2)
  have H0' := H0
  unfold Held0 at H0'
  have hxB := hx.keep HB0.out
  have hyB := hy.keep HB0.out
  obtain ⟨cc, hcc⟩ : ∃ cc : Int, cc = cmpQ x y := ⟨_, rfl⟩
  have hd : (cc == 0) = false := by rw [beq_eq_false_iff_ne, hcc]; exact cmpQ_ne hxy
  have HX := fun (w' : World) (hk : Held0 wB (w.heap.size + 2) wB w') => Lib.hid (numCmp_any (hk.2.2.num hxB) (hk.2.2.num hyB) (Nat.le_trans hs (by decide)) (Nat.le_trans hs2 (by decide)))
  rw [← hcc] at HX
  replace hcc := Lib.hid hcc
  clear hxy hs hs2 hxB hyB hx hy hx1 hx2 hy1 hy2
  go_enter Tryz.func13, Tryz.ntmps13
  go_upto_region 1 with fail
  rw [← hwB]
  clear hwB
  go_wp2_with fail
  refine wp_region_held_drew (S := (fun w' => (∀ b o, b < w.heap.size + 2 → w'.cell? ⟨b, o, none⟩ = wB.cell? ⟨b, o, none⟩) ∧ Below (w.heap.size + 2) wB w' ∧ Stay wB w')) (by kernel_rfl) ?_ (fun hHeld => ?_)
  · (try dsimp only)
    exact H0'
  refine wpAnyH_take (i := 0) (v := ?v0) (oi := ?o0) ?e0 ?a0 ?b0 ?c0 ?d0 ?y0 ?s0 ?r0
  case e0 => simp only [List.getElem?_toArray, List.getElem?_cons_zero, List.getElem?_cons_succ]; rfl
  case a0 => kernel_rfl
  case b0 => kernel_rfl
  case c0 => kernel_rfl
  case d0 => exact fun _ _ _ h => h
  case y0 =>
    refine Or.inl ⟨by rfl, ?_⟩
    intro w hSw
    (try dsimp only at hSw)
    go_simp
    try with_reducible rfl
  case s0 => assumption
  try simp only [Act.put, List.setIfInBounds_toArray, List.set_cons_zero, List.set_cons_succ]
  refine wpAnyH_take (i := 1) (v := ?v1) (oi := ?o1) ?e1 ?a1 ?b1 ?c1 ?d1 ?y1 ?s1 ?r1
  case e1 => simp only [List.getElem?_toArray, List.getElem?_cons_zero, List.getElem?_cons_succ]; rfl
  case a1 => kernel_rfl
  case b1 => kernel_rfl
  case c1 => kernel_rfl
  case d1 => exact fun _ _ _ h => h
  case y1 =>
    refine Or.inl ⟨by rfl, ?_⟩
    intro w hSw
    (try dsimp only at hSw)
    go_simp
    try with_reducible rfl
  case s1 => assumption
  try simp only [Act.put, List.setIfInBounds_toArray, List.set_cons_zero, List.set_cons_succ]
  refine wpAnyH_ready (rs := [2]) (by kernel_rfl) (by simp) ?_
  refine AllReadyH.cons (o := ?o2) ?e2 ?k2 AllReadyH.nil
  case e2 => simp only [List.getElem?_toArray, List.getElem?_cons_zero, List.getElem?_cons_succ]; rfl
  intro K hK
  go_simp
  go_at_call 21
  refine ((HX _ H0).out).mono ?_
  rintro e w_1 ⟨rfl, hbl1⟩
  have hk1 := Held0.call H0 (Nat.le_of_eq HSZ.out.symm) hbl1
  have hk1' := hk1
  unfold Held0 at hk1'
  refine hK.out _ _ ?_ (fun hHeld => ?_)
  · (try dsimp only)
    with_reducible exact hk1'
  clear hK K
  try simp only [Act.put, List.setIfInBounds_toArray, List.set_cons_zero, List.set_cons_succ]
  refine wpAnyH_take (i := 3) (v := ?v3) (oi := ?o3) ?e3 ?a3 ?b3 ?c3 ?d3 ?y3 ?s3 ?r3
  case e3 => simp only [List.getElem?_toArray, List.getElem?_cons_zero, List.getElem?_cons_succ]; rfl
  case a3 => kernel_rfl
  case b3 => kernel_rfl
  case c3 => kernel_rfl
  case d3 => exact fun _ _ _ h => h
  case y3 =>
    refine Or.inl ⟨by rfl, ?_⟩
    intro w hSw
    (try dsimp only at hSw)
    go_simp
    try with_reducible rfl
  case s3 => assumption
  try simp only [Act.put, List.setIfInBounds_toArray, List.set_cons_zero, List.set_cons_succ]
  refine wpAnyH_take (i := 4) (v := ?v4) (oi := ?o4) ?e4 ?a4 ?b4 ?c4 ?d4 ?y4 ?s4 ?r4
  case e4 => simp only [List.getElem?_toArray, List.getElem?_cons_zero, List.getElem?_cons_succ]; rfl
  case a4 => kernel_rfl
  case b4 => kernel_rfl
  case c4 => kernel_rfl
  case d4 => exact fun _ _ _ h => h
  case y4 =>
    refine Or.inl ⟨by rfl, ?_⟩
    intro w hSw
    (try dsimp only at hSw)
    go_simp
    try with_reducible rfl
  case s4 => assumption
  try simp only [Act.put, List.setIfInBounds_toArray, List.set_cons_zero, List.set_cons_succ]
  refine wpAnyH_take (i := 5) (v := undef) (oi := ?o5) ?e5 ?a5 ?b5 ?c5 ?d5 ?y5 ?s5 ?r5
  case e5 => simp only [List.getElem?_toArray, List.getElem?_cons_zero, List.getElem?_cons_succ]; rfl
  case a5 => kernel_rfl
  case b5 => kernel_rfl
  case c5 => kernel_rfl
  case d5 => exact fun _ _ _ h => h
  case y5 => exact Or.inr ⟨by rfl, rfl⟩
  case s5 => assumption
  try simp only [Act.put, List.setIfInBounds_toArray, List.set_cons_zero, List.set_cons_succ]
  refine wpAnyH_take (i := 7) (v := undef) (oi := ?o7) ?e7 ?a7 ?b7 ?c7 ?d7 ?y7 ?s7 ?r7
  case e7 => simp only [List.getElem?_toArray, List.getElem?_cons_zero, List.getElem?_cons_succ]; rfl
  case a7 => kernel_rfl
  case b7 => kernel_rfl
  case c7 => kernel_rfl
  case d7 => exact fun _ _ _ h => h
  case y7 => exact Or.inr ⟨by rfl, rfl⟩
  case s7 => assumption
  try simp only [Act.put, List.setIfInBounds_toArray, List.set_cons_zero, List.set_cons_succ]
  refine wpAnyH_ready (rs := [6]) (by kernel_rfl) (by simp) ?_
  refine AllReadyH.cons (o := ?o6) ?e6 ?k6 AllReadyH.nil
  case e6 => simp only [List.getElem?_toArray, List.getElem?_cons_zero, List.getElem?_cons_succ]; rfl
  intro K hK
  go_simp
  refine hK.out _ _ ?_ (fun hHeld => ?_)
  · (try dsimp only)
    with_reducible exact hk1'
  clear hK K
  try simp only [Act.put, List.setIfInBounds_toArray, List.set_cons_zero, List.set_cons_succ]
  refine wpAnyH_ready (rs := [8]) (by kernel_rfl) (by simp) ?_
  refine AllReadyH.cons (o := ?o8) ?e8 ?k8 AllReadyH.nil
  case e8 => simp only [List.getElem?_toArray, List.getElem?_cons_zero, List.getElem?_cons_succ]; rfl
  intro K hK
  go_simp
  refine hK.out _ _ ?_ (fun hHeld => ?_)
  · (try dsimp only)
    with_reducible exact hk1'
  clear hK K
  try simp only [Act.put, List.setIfInBounds_toArray, List.set_cons_zero, List.set_cons_succ]
  refine wpAnyH_take (i := 9) (v := undef) (oi := ?o9) ?e9 ?a9 ?b9 ?c9 ?d9 ?y9 ?s9 ?r9
  case e9 => simp only [List.getElem?_toArray, List.getElem?_cons_zero, List.getElem?_cons_succ]; rfl
  case a9 => kernel_rfl
  case b9 => kernel_rfl
  case c9 => kernel_rfl
  case d9 => exact fun _ _ _ h => h
  case y9 => exact Or.inr ⟨by rfl, rfl⟩
  case s9 => assumption
  try simp only [Act.put, List.setIfInBounds_toArray, List.set_cons_zero, List.set_cons_succ]
  refine wpAnyH_take (i := 10) (v := ?v10) (oi := ?o10) ?e10 ?a10 ?b10 ?c10 ?d10 ?y10 ?s10 ?r10
  case e10 => simp only [List.getElem?_toArray, List.getElem?_cons_zero, List.getElem?_cons_succ]; rfl
  case a10 => kernel_rfl
  case b10 => kernel_rfl
  case c10 => kernel_rfl
  case d10 => exact fun _ _ _ h => h
  case y10 =>
    refine Or.inl ⟨by rfl, ?_⟩
    intro w hSw
    (try dsimp only at hSw)
    go_simp
    try with_reducible rfl
  case s10 => assumption
  try simp only [Act.put, List.setIfInBounds_toArray, List.set_cons_zero, List.set_cons_succ]
  refine wpAnyH_take (i := 11) (v := ?v11) (oi := ?o11) ?e11 ?a11 ?b11 ?c11 ?d11 ?y11 ?s11 ?r11
  case e11 => simp only [List.getElem?_toArray, List.getElem?_cons_zero, List.getElem?_cons_succ]; rfl
  case a11 => kernel_rfl
  case b11 => kernel_rfl
  case c11 => kernel_rfl
  case d11 => exact fun _ _ _ h => h
  case y11 =>
    refine Or.inl ⟨by rfl, ?_⟩
    intro w hSw
    (try dsimp only at hSw)
    go_simp
    try with_reducible rfl
  case s11 => assumption
  try simp only [Act.put, List.setIfInBounds_toArray, List.set_cons_zero, List.set_cons_succ]
  refine wpAnyH_done (by kernel_rfl) ?_ _
  have HB3 := Lib.hid (HB0.out.trans (hk1.2.1.mono (by omega)))
  clear hk1 hk1' H0 H0' k0 k1 k2 k3 k4 k5 HX hbl1
  go_wp2_with fail
  go_ret
  exact ⟨rfl, HB3.out⟩
theorem equal_any {w : World} {vx vy : Value} {x y : Rat} (hx : IsNum w vx x) (hy : IsNum w vy y) (hs : siz x ≤ 536870912) (hs2 : siz y ≤ 536870912) (hT : TabAt 0 Lib.deBruijn64tab w) :
    Calls Tryz.prog 13 #[vx, vy] w (BoolRet w (decide (x = y))) := by
  rcases Decidable.em (x = y) with h | h
  · rw [decide_eq_true h]
    exact equal_to hx hy h hs hT
  · rw [decide_eq_false h]
    exact equal_no hx hy h hs hs2
end Go.Proofs.YtlffafddmmhbmaaGreatDoor
