/-
  Contracts of the functions that the law calls, for every input (NumJ BoxC).
-/
import Derived.Test.YtfppimacnhcflaaGreatDoorB19
import Derived.Test.YtfppimacnhcflaaGreatDoorB14
import Derived.Test.YtfppimacnhcflaaGreatDoorB31
import Derived.Test.YtfppimacnhcflaaGreatDoorB20
set_option linter.all false
namespace Go.Proofs.YtfppimacnhcflaaGreatDoor
open Go.RowKit
open Vx

theorem sgn_even (b : Bool) {n : Nat} (t : Nat) (h : n % 2 = 0) : sgn b t ^ n = ((t ^ n : Nat) : Int) := by
  cases b
  · simp [sgn]
  · show (-(t : Int)) ^ n = _
    rw [Int.neg_pow, h, Int.pow_zero, Int.one_mul]
    simp
theorem sgn_odd (b : Bool) {n : Nat} (t : Nat) (h : n % 2 = 1) : sgn b t ^ n = sgn b (t ^ n) := by
  cases b
  · simp [sgn]
  · show (-(t : Int)) ^ n = -((t ^ n : Nat) : Int)
    rw [Int.neg_pow, h, Int.pow_one, Int.neg_mul, Int.one_mul]
    simp
theorem pow_parts (x : Rat) (n : Nat) : (x.num.natAbs ^ n).Coprime (x.den ^ n) ∧ 0 < x.den ^ n := ⟨Nat.Coprime.pow n n x.reduced, Nat.pow_pos x.den_pos⟩
theorem pow_val {x q : Rat} {n : Nat} {neg : Bool} (hq : q = x ^ n) (h : sgn neg (x.num.natAbs ^ n) = x.num ^ n) : mkRat (sgn neg (x.num.natAbs ^ n)) (x.den ^ n) = q := by
  rw [h, hq, ← Rat.num_pow, ← Rat.den_pow, Rat.mkRat_self]

set_option maxRecDepth 100000 in
set_option maxHeartbeats 2000000 in
theorem power_odd {w : World} {vx : Value} {x q : Rat} {n : Nat} (hx : IsNum w vx x) (hq : q = x ^ n) (hn : n ≤ 1099511627776) (hs : siz x * n ≤ 1099511627776) (hs1 : siz x ≤ 1099511627776) (h : x.num < 0) (hp : n % 2 = 1) :
    Calls Tryz.prog 116 #[vx, .int .i64 (n : Nat)] w (NumRet w q) := by
  obtain ⟨A1, c1, A2, c2, rfl, hx1, hx2⟩ := hx.opened
  obtain ⟨wB, hwB⟩ : ∃ u, u = (w.alloc (.cells #[.bool (decide (x.num < 0)), .slice A1 (len x.num.natAbs) c1, .slice A2 (len (below x.den)) c2] 25)).alloc (.cells #[.bool false, .slice none 0 0, .slice none 0 0] 25) := ⟨_, rfl⟩
  obtain ⟨b0, gA, gB⟩ := news2 w (.cells #[.bool (decide (x.num < 0)), .slice A1 (len x.num.natAbs) c1, .slice A2 (len (below x.den)) c2] 25) (.cells #[.bool false, .slice none 0 0, .slice none 0 0] 25)
  rw [← hwB] at b0 gA gB
  have k0 : wB.cell? ⟨w.heap.size, 0, none⟩ = some (.bool (decide (x.num < 0))) := cell_of_row _ _ _ _ _ _ gA
  have k1 : wB.cell? ⟨w.heap.size, 1, none⟩ = some (.slice A1 (len x.num.natAbs) c1) := cell_of_row _ _ _ _ _ _ gA
  have k2 : wB.cell? ⟨w.heap.size, 2, none⟩ = some (.slice A2 (len (below x.den)) c2) := cell_of_row _ _ _ _ _ _ gA
  have HK0 := Lib.hid (Kept.start (T := 25) rfl (plain3 _ _ _ _ _ _ _) gB)
  have HB0 := Lib.hid b0
  have hlt1 : w.heap.size < w.heap.size + 1 := by omega
  clear gA gB b0
  have hd : decide (x.num < 0) = true := decide_eq_true h
  have ht : (Int.tmod ((n : Nat) : Int) 2 == 1) = true := by
    have e : Int.tmod ((n : Nat) : Int) 2 = ((n % 2 : Nat) : Int) := by rw [Int.tmod_eq_emod_of_nonneg (by omega)]; omega
    rw [e, hp]; rfl
  rw [hd] at k0 hwB hx ⊢
  have hd0 := hd
  clear hd
  have hl1 := siz_num x
  have hl2 := siz_den x
  have HV := Lib.hid (pow_val (neg := true) hq (by rw [← sgn_odd _ _ hp, ← hd0, sgn_self]))
  have HP := Lib.hid (pow_parts x n)
  have HX := fun (w' : World) (hk : Held3 wB (w.heap.size + 1) wB w') => Lib.hid (pow_any (n := n) (hx1.keep (below_to HB0.out (by omega) hk.kept.1)) hn (Nat.le_trans (Nat.mul_le_mul_right n hl1) hs) (Nat.le_trans hl1 hs1))
  have HY := fun (w' : World) (hk : Held3 wB (w.heap.size + 1) wB w') => Lib.hid (bottom_any (hx.keep (below_to HB0.out (by omega) hk.kept.1)))
  have HZ := fun (w' : World) (v : Value) (hv : Nt w' v x.den) => Lib.hid (pow_any (n := n) hv hn (Nat.le_trans (Nat.mul_le_mul_right n hl2) hs) (Nat.le_trans hl2 hs1))
  have H0 := HK0.out.begin
  clear hd0 h hp hq hn hs hs1 hl1 hl2
  go_enter Tryz.func116, Tryz.ntmps116
  go_upto_region 2 with fail
  rw [← hwB]
  clear hwB
  go_wp2_with fail
  go_region_held3 (fun w' => (∀ b o, b < w.heap.size + 1 → w'.cell? ⟨b, o, none⟩ = wB.cell? ⟨b, o, none⟩) ∧ w'.cell? ⟨w.heap.size + 1, 0, none⟩ = some (cur w' ⟨w.heap.size + 1, 0, none⟩) ∧ w'.cell? ⟨w.heap.size + 1, 1, none⟩ = some (cur w' ⟨w.heap.size + 1, 1, none⟩) ∧ w'.cell? ⟨w.heap.size + 1, 2, none⟩ = some (cur w' ⟨w.heap.size + 1, 2, none⟩) ∧ w'.frozen? ⟨w.heap.size + 1, 0, none⟩ = false ∧ w'.frozen? ⟨w.heap.size + 1, 1, none⟩ = false ∧ w'.frozen? ⟨w.heap.size + 1, 2, none⟩ = false ∧ Kept 3 25 wB (w.heap.size + 1) w' ∧ Stay wB w')
    (first | exact H0 | exact hk4.store | exact hk4 | exact hk3 | exact hk2 | exact hk1)
    (first | (go_at_call_of 138 (Value.slice A1 (len x.num.natAbs) c1); refine ((HX _ ?_).out).mono ?_; assumption; rintro e w1 ⟨v1, rfl, hv1, hbl1⟩; have hk1 := Held3.call (by assumption) hbl1) | (go_at_call 100; refine ((HY _ ?_).out).mono ?_; assumption; rintro e w2 ⟨v2, rfl, hv2, hbl2⟩; have hk2 := Held3.call (by assumption) hbl2) | (go_at_call_of 138 v2; refine ((HZ _ _ hv2).out).mono ?_; rintro e w3 ⟨v3, rfl, hv3, hbl3⟩; have hk3 := Held3.call (by assumption) hbl3) | (go_at_call 98; refine (fraction_to ((hv1.keep hbl2).keep hbl3) hv3 HP.out.2 HP.out.1 HV.out).mono ?_; rintro e w4 ⟨v4, rfl, hv4, hbl4⟩; obtain ⟨C1, j1, C2, j2, rfl, -, -⟩ := hv4.opened; have hk4 := Held3.call (by assumption) hbl4))
  rename_i hHl
  clear hHl
  have HD := hk4.done (q := q) (b := decide (q.num < 0)) (A1 := C1) (n1 := len q.num.natAbs) (c1 := j1) (A2 := C2) (n2 := len (below q.den)) (c2 := j2) (hv4)
  obtain ⟨d1, d2, d3⟩ := HD
  have r0 := cell_of_row _ _ 0 _ _ _ d3
  have r1 := cell_of_row _ _ 1 _ _ _ d3
  have r2 := cell_of_row _ _ 2 _ _ _ d3
  simp only [List.getElem?_toArray, List.getElem?_cons_zero, List.getElem?_cons_succ] at r0 r1 r2
  have HD := Lib.hid (And.intro d1 d2)
  clear d1 d2 d3
  go_wp2_with fail
  refine bodyPost_ret (v := .agg #[.bool (decide (q.num < 0)), .slice (C1) (len q.num.natAbs) (j1), .slice (C2) (len (below q.den)) (j2)]) ?_ rfl ⟨_, rfl, HD.out.1, below_to HB0.out (by omega) HD.out.2⟩
  simp [results, Tryz.results116, go_sem, r0, r1, r2]

set_option maxRecDepth 100000 in
set_option maxHeartbeats 2000000 in
theorem power_even {w : World} {vx : Value} {x q : Rat} {n : Nat} (hx : IsNum w vx x) (hq : q = x ^ n) (hn : n ≤ 1099511627776) (hs : siz x * n ≤ 1099511627776) (hs1 : siz x ≤ 1099511627776) (h : x.num < 0) (hp : n % 2 = 0) :
    Calls Tryz.prog 116 #[vx, .int .i64 (n : Nat)] w (NumRet w q) := by
  obtain ⟨A1, c1, A2, c2, rfl, hx1, hx2⟩ := hx.opened
  obtain ⟨wB, hwB⟩ : ∃ u, u = (w.alloc (.cells #[.bool (decide (x.num < 0)), .slice A1 (len x.num.natAbs) c1, .slice A2 (len (below x.den)) c2] 25)).alloc (.cells #[.bool false, .slice none 0 0, .slice none 0 0] 25) := ⟨_, rfl⟩
  obtain ⟨b0, gA, gB⟩ := news2 w (.cells #[.bool (decide (x.num < 0)), .slice A1 (len x.num.natAbs) c1, .slice A2 (len (below x.den)) c2] 25) (.cells #[.bool false, .slice none 0 0, .slice none 0 0] 25)
  rw [← hwB] at b0 gA gB
  have k0 : wB.cell? ⟨w.heap.size, 0, none⟩ = some (.bool (decide (x.num < 0))) := cell_of_row _ _ _ _ _ _ gA
  have k1 : wB.cell? ⟨w.heap.size, 1, none⟩ = some (.slice A1 (len x.num.natAbs) c1) := cell_of_row _ _ _ _ _ _ gA
  have k2 : wB.cell? ⟨w.heap.size, 2, none⟩ = some (.slice A2 (len (below x.den)) c2) := cell_of_row _ _ _ _ _ _ gA
  have HK0 := Lib.hid (Kept.start (T := 25) rfl (plain3 _ _ _ _ _ _ _) gB)
  have HB0 := Lib.hid b0
  have hlt1 : w.heap.size < w.heap.size + 1 := by omega
  clear gA gB b0
  have hd : decide (x.num < 0) = true := decide_eq_true h
  have ht : (Int.tmod ((n : Nat) : Int) 2 == 1) = false := by
    have e : Int.tmod ((n : Nat) : Int) 2 = ((n % 2 : Nat) : Int) := by rw [Int.tmod_eq_emod_of_nonneg (by omega)]; omega
    rw [e, hp]; rfl
  rw [hd] at k0 hwB hx ⊢
  have hd0 := hd
  clear hd
  have hl1 := siz_num x
  have hl2 := siz_den x
  have HV := Lib.hid (pow_val (neg := false) hq (by have := sgn_even true x.num.natAbs hp; rw [← hd0, sgn_self] at this; rw [this]; rfl))
  have HP := Lib.hid (pow_parts x n)
  have HX := fun (w' : World) (hk : Held3 wB (w.heap.size + 1) wB w') => Lib.hid (pow_any (n := n) (hx1.keep (below_to HB0.out (by omega) hk.kept.1)) hn (Nat.le_trans (Nat.mul_le_mul_right n hl1) hs) (Nat.le_trans hl1 hs1))
  have HY := fun (w' : World) (hk : Held3 wB (w.heap.size + 1) wB w') => Lib.hid (bottom_any (hx.keep (below_to HB0.out (by omega) hk.kept.1)))
  have HZ := fun (w' : World) (v : Value) (hv : Nt w' v x.den) => Lib.hid (pow_any (n := n) hv hn (Nat.le_trans (Nat.mul_le_mul_right n hl2) hs) (Nat.le_trans hl2 hs1))
  have H0 := HK0.out.begin
  clear hd0 h hp hq hn hs hs1 hl1 hl2
  go_enter Tryz.func116, Tryz.ntmps116
  go_upto_region 2 with fail
  rw [← hwB]
  clear hwB
  go_wp2_with fail
  go_region_held3 (fun w' => (∀ b o, b < w.heap.size + 1 → w'.cell? ⟨b, o, none⟩ = wB.cell? ⟨b, o, none⟩) ∧ w'.cell? ⟨w.heap.size + 1, 0, none⟩ = some (cur w' ⟨w.heap.size + 1, 0, none⟩) ∧ w'.cell? ⟨w.heap.size + 1, 1, none⟩ = some (cur w' ⟨w.heap.size + 1, 1, none⟩) ∧ w'.cell? ⟨w.heap.size + 1, 2, none⟩ = some (cur w' ⟨w.heap.size + 1, 2, none⟩) ∧ w'.frozen? ⟨w.heap.size + 1, 0, none⟩ = false ∧ w'.frozen? ⟨w.heap.size + 1, 1, none⟩ = false ∧ w'.frozen? ⟨w.heap.size + 1, 2, none⟩ = false ∧ Kept 3 25 wB (w.heap.size + 1) w' ∧ Stay wB w')
    (first | exact H0 | exact hk4.store | exact hk4 | exact hk3 | exact hk2 | exact hk1)
    (first | (go_at_call_of 138 (Value.slice A1 (len x.num.natAbs) c1); refine ((HX _ ?_).out).mono ?_; assumption; rintro e w1 ⟨v1, rfl, hv1, hbl1⟩; have hk1 := Held3.call (by assumption) hbl1) | (go_at_call 100; refine ((HY _ ?_).out).mono ?_; assumption; rintro e w2 ⟨v2, rfl, hv2, hbl2⟩; have hk2 := Held3.call (by assumption) hbl2) | (go_at_call_of 138 v2; refine ((HZ _ _ hv2).out).mono ?_; rintro e w3 ⟨v3, rfl, hv3, hbl3⟩; have hk3 := Held3.call (by assumption) hbl3) | (go_at_call 98; refine (fraction_to ((hv1.keep hbl2).keep hbl3) hv3 HP.out.2 HP.out.1 HV.out).mono ?_; rintro e w4 ⟨v4, rfl, hv4, hbl4⟩; obtain ⟨C1, j1, C2, j2, rfl, -, -⟩ := hv4.opened; have hk4 := Held3.call (by assumption) hbl4))
  rename_i hHl
  clear hHl
  have HD := hk4.done (q := q) (b := decide (q.num < 0)) (A1 := C1) (n1 := len q.num.natAbs) (c1 := j1) (A2 := C2) (n2 := len (below q.den)) (c2 := j2) (hv4)
  obtain ⟨d1, d2, d3⟩ := HD
  have r0 := cell_of_row _ _ 0 _ _ _ d3
  have r1 := cell_of_row _ _ 1 _ _ _ d3
  have r2 := cell_of_row _ _ 2 _ _ _ d3
  simp only [List.getElem?_toArray, List.getElem?_cons_zero, List.getElem?_cons_succ] at r0 r1 r2
  have HD := Lib.hid (And.intro d1 d2)
  clear d1 d2 d3
  go_wp2_with fail
  refine bodyPost_ret (v := .agg #[.bool (decide (q.num < 0)), .slice (C1) (len q.num.natAbs) (j1), .slice (C2) (len (below q.den)) (j2)]) ?_ rfl ⟨_, rfl, HD.out.1, below_to HB0.out (by omega) HD.out.2⟩
  simp [results, Tryz.results116, go_sem, r0, r1, r2]

set_option linter.unusedSimpArgs false in
set_option maxRecDepth 100000 in
set_option maxHeartbeats 2000000 in
theorem power_pos {w : World} {vx : Value} {x q : Rat} {n : Nat} (hx : IsNum w vx x) (hq : q = x ^ n) (hn : n ≤ 1099511627776) (hs : siz x * n ≤ 1099511627776) (hs1 : siz x ≤ 1099511627776) (h : ¬ x.num < 0) :
    Calls Tryz.prog 116 #[vx, .int .i64 (n : Nat)] w (NumRet w q) := by
  obtain ⟨A1, c1, A2, c2, rfl, hx1, hx2⟩ := hx.opened
  obtain ⟨wB, hwB⟩ : ∃ u, u = (w.alloc (.cells #[.bool (decide (x.num < 0)), .slice A1 (len x.num.natAbs) c1, .slice A2 (len (below x.den)) c2] 25)).alloc (.cells #[.bool false, .slice none 0 0, .slice none 0 0] 25) := ⟨_, rfl⟩
  obtain ⟨b0, gA, gB⟩ := news2 w (.cells #[.bool (decide (x.num < 0)), .slice A1 (len x.num.natAbs) c1, .slice A2 (len (below x.den)) c2] 25) (.cells #[.bool false, .slice none 0 0, .slice none 0 0] 25)
  rw [← hwB] at b0 gA gB
  have k0 : wB.cell? ⟨w.heap.size, 0, none⟩ = some (.bool (decide (x.num < 0))) := cell_of_row _ _ _ _ _ _ gA
  have k1 : wB.cell? ⟨w.heap.size, 1, none⟩ = some (.slice A1 (len x.num.natAbs) c1) := cell_of_row _ _ _ _ _ _ gA
  have k2 : wB.cell? ⟨w.heap.size, 2, none⟩ = some (.slice A2 (len (below x.den)) c2) := cell_of_row _ _ _ _ _ _ gA
  have HK0 := Lib.hid (Kept.start (T := 25) rfl (plain3 _ _ _ _ _ _ _) gB)
  have HB0 := Lib.hid b0
  have hlt1 : w.heap.size < w.heap.size + 1 := by omega
  clear gA gB b0
  have hd : decide (x.num < 0) = false := decide_eq_false h
  rw [hd] at k0 hwB hx ⊢
  clear hd
  have hl1 := siz_num x
  have hl2 := siz_den x
  have HV := Lib.hid (pow_val (neg := false) hq (by show ((x.num.natAbs ^ n : Nat) : Int) = _; rw [Int.natCast_pow, Int.natAbs_of_nonneg (by omega)]))
  have HP := Lib.hid (pow_parts x n)
  have HX := fun (w' : World) (hk : Held3 wB (w.heap.size + 1) wB w') => Lib.hid (pow_any (n := n) (hx1.keep (below_to HB0.out (by omega) hk.kept.1)) hn (Nat.le_trans (Nat.mul_le_mul_right n hl1) hs) (Nat.le_trans hl1 hs1))
  have HY := fun (w' : World) (hk : Held3 wB (w.heap.size + 1) wB w') => Lib.hid (bottom_any (hx.keep (below_to HB0.out (by omega) hk.kept.1)))
  have HZ := fun (w' : World) (v : Value) (hv : Nt w' v x.den) => Lib.hid (pow_any (n := n) hv hn (Nat.le_trans (Nat.mul_le_mul_right n hl2) hs) (Nat.le_trans hl2 hs1))
  have H0 := HK0.out.begin
  clear h hq hn hs hs1 hl1 hl2
  go_enter Tryz.func116, Tryz.ntmps116
  go_upto_region 2 with fail
  rw [← hwB]
  clear hwB
  go_wp2_with fail
  refine wp_region_held_drew (S := (fun w' => (∀ b o, b < w.heap.size + 1 → w'.cell? ⟨b, o, none⟩ = wB.cell? ⟨b, o, none⟩) ∧ w'.cell? ⟨w.heap.size + 1, 0, none⟩ = some (cur w' ⟨w.heap.size + 1, 0, none⟩) ∧ w'.cell? ⟨w.heap.size + 1, 1, none⟩ = some (cur w' ⟨w.heap.size + 1, 1, none⟩) ∧ w'.cell? ⟨w.heap.size + 1, 2, none⟩ = some (cur w' ⟨w.heap.size + 1, 2, none⟩) ∧ w'.frozen? ⟨w.heap.size + 1, 0, none⟩ = false ∧ w'.frozen? ⟨w.heap.size + 1, 1, none⟩ = false ∧ w'.frozen? ⟨w.heap.size + 1, 2, none⟩ = false ∧ Kept 3 25 wB (w.heap.size + 1) w' ∧ Stay wB w')) (by kernel_rfl) ?_ (fun hHeld => ?_)
  · (try dsimp only)
    exact H0
  refine wpAnyH_take (i := 0) (v := ?v0) rfl (by kernel_rfl) (by kernel_rfl) (by kernel_rfl) (fun _ _ _ h => h) (Or.inl ⟨by rfl, ?h0⟩) (by assumption) ?r0
  case h0 =>
    intro w hSw
    (try dsimp only at hSw)
    go_simp
    try with_reducible rfl
  try simp only [Act.put, List.setIfInBounds_toArray, List.set_cons_zero, List.set_cons_succ]
  refine wpAnyH_take (i := 1) (v := ?v1) rfl (by kernel_rfl) (by kernel_rfl) (by kernel_rfl) (fun _ _ _ h => h) (Or.inl ⟨by rfl, ?h1⟩) (by assumption) ?r1
  case h1 =>
    intro w hSw
    (try dsimp only at hSw)
    go_simp
    try with_reducible rfl
  try simp only [Act.put, List.setIfInBounds_toArray, List.set_cons_zero, List.set_cons_succ]
  refine wpAnyH_take (i := 2) (v := ?v2) rfl (by kernel_rfl) (by kernel_rfl) (by kernel_rfl) (fun _ _ _ h => h) (Or.inl ⟨by rfl, ?h2⟩) (by assumption) ?r2
  case h2 =>
    intro w hSw
    (try dsimp only at hSw)
    go_simp
    try with_reducible rfl
  try simp only [Act.put, List.setIfInBounds_toArray, List.set_cons_zero, List.set_cons_succ]
  refine wpAnyH_take (i := 3) rfl (by kernel_rfl) (by kernel_rfl) (by kernel_rfl) (fun _ _ _ h => h) (Or.inr ⟨by rfl, rfl⟩) (by assumption) ?_
  try simp only [Act.put, List.setIfInBounds_toArray, List.set_cons_zero, List.set_cons_succ]
  refine wpAnyH_take (i := 4) rfl (by kernel_rfl) (by kernel_rfl) (by kernel_rfl) (fun _ _ _ h => h) (Or.inr ⟨by rfl, rfl⟩) (by assumption) ?_
  try simp only [Act.put, List.setIfInBounds_toArray, List.set_cons_zero, List.set_cons_succ]
  refine wpAnyH_take (i := 5) rfl (by kernel_rfl) (by kernel_rfl) (by kernel_rfl) (fun _ _ _ h => h) (Or.inr ⟨by rfl, rfl⟩) (by assumption) ?_
  try simp only [Act.put, List.setIfInBounds_toArray, List.set_cons_zero, List.set_cons_succ]
  refine wpAnyH_take (i := 6) (v := ?v6) rfl (by kernel_rfl) (by kernel_rfl) (by kernel_rfl) (fun _ _ _ h => h) (Or.inl ⟨by rfl, ?h6⟩) (by assumption) ?r6
  case h6 =>
    intro w hSw
    (try dsimp only at hSw)
    go_simp
    try with_reducible rfl
  try simp only [Act.put, List.setIfInBounds_toArray, List.set_cons_zero, List.set_cons_succ]
  refine wpAnyH_take (i := 7) (v := ?v7) rfl (by kernel_rfl) (by kernel_rfl) (by kernel_rfl) (fun _ _ _ h => h) (Or.inl ⟨by rfl, ?h7⟩) (by assumption) ?r7
  case h7 =>
    intro w hSw
    (try dsimp only at hSw)
    go_simp
    try with_reducible rfl
  try simp only [Act.put, List.setIfInBounds_toArray, List.set_cons_zero, List.set_cons_succ]
  refine wpAnyH_take (i := 8) (v := ?v8) rfl (by kernel_rfl) (by kernel_rfl) (by kernel_rfl) (fun _ _ _ h => h) (Or.inl ⟨by rfl, ?h8⟩) (by assumption) ?r8
  case h8 =>
    intro w hSw
    (try dsimp only at hSw)
    go_simp
    try with_reducible rfl
  try simp only [Act.put, List.setIfInBounds_toArray, List.set_cons_zero, List.set_cons_succ]
  refine wpAnyH_take (i := 9) (v := ?v9) rfl (by kernel_rfl) (by kernel_rfl) (by kernel_rfl) (fun _ _ _ h => h) (Or.inl ⟨by rfl, ?h9⟩) (by assumption) ?r9
  case h9 =>
    intro w hSw
    (try dsimp only at hSw)
    go_simp
    try with_reducible rfl
  try simp only [Act.put, List.setIfInBounds_toArray, List.set_cons_zero, List.set_cons_succ]
  refine wpAnyH_take (i := 11) (v := ?v11) rfl (by kernel_rfl) (by kernel_rfl) (by kernel_rfl) (fun _ _ _ h => h) (Or.inl ⟨by rfl, ?h11⟩) (by assumption) ?r11
  case h11 =>
    intro w hSw
    (try dsimp only at hSw)
    go_simp
    try with_reducible rfl
  try simp only [Act.put, List.setIfInBounds_toArray, List.set_cons_zero, List.set_cons_succ]
  refine wpAnyH_take (i := 13) (v := ?v13) rfl (by kernel_rfl) (by kernel_rfl) (by kernel_rfl) (fun _ _ _ h => h) (Or.inl ⟨by rfl, ?h13⟩) (by assumption) ?r13
  case h13 =>
    intro w hSw
    (try dsimp only at hSw)
    go_simp
    try with_reducible rfl
  try simp only [Act.put, List.setIfInBounds_toArray, List.set_cons_zero, List.set_cons_succ]
  refine wpAnyH_ready (rs := [10]) (by kernel_rfl) (by simp) ?_
  refine AllReadyH.cons rfl (fun K hK => ?_) AllReadyH.nil
  go_simp
  go_at_call_of 138 (Value.slice A1 (len x.num.natAbs) c1)
  refine ((HX _ ?_).out).mono ?_
  · assumption
  rintro e w1 ⟨v1, rfl, hv1, hbl1⟩
  have hk1 := Held3.call (by assumption) hbl1
  refine hK.out _ _ ?_ (fun hHeld => ?_)
  · (try dsimp only)
    exact hk1
  clear hK K
  try simp only [Act.put, List.setIfInBounds_toArray, List.set_cons_zero, List.set_cons_succ]
  refine wpAnyH_ready (rs := [12]) (by kernel_rfl) (by simp) ?_
  refine AllReadyH.cons rfl (fun K hK => ?_) AllReadyH.nil
  go_simp
  go_at_call 100
  refine ((HY _ ?_).out).mono ?_
  · assumption
  rintro e w2 ⟨v2, rfl, hv2, hbl2⟩
  have hk2 := Held3.call (by assumption) hbl2
  refine hK.out _ _ ?_ (fun hHeld => ?_)
  · (try dsimp only)
    exact hk2
  clear hK K
  try simp only [Act.put, List.setIfInBounds_toArray, List.set_cons_zero, List.set_cons_succ]
  refine wpAnyH_ready (rs := [14]) (by kernel_rfl) (by simp) ?_
  refine AllReadyH.cons rfl (fun K hK => ?_) AllReadyH.nil
  go_simp
  go_at_call_of 138 v2
  refine ((HZ _ _ hv2).out).mono ?_
  rintro e w3 ⟨v3, rfl, hv3, hbl3⟩
  have hk3 := Held3.call (by assumption) hbl3
  refine hK.out _ _ ?_ (fun hHeld => ?_)
  · (try dsimp only)
    exact hk3
  clear hK K
  try simp only [Act.put, List.setIfInBounds_toArray, List.set_cons_zero, List.set_cons_succ]
  refine wpAnyH_ready (rs := [15]) (by kernel_rfl) (by simp) ?_
  refine AllReadyH.cons rfl (fun K hK => ?_) AllReadyH.nil
  go_simp
  go_at_call 98
  refine (fraction_to ((hv1.keep hbl2).keep hbl3) hv3 HP.out.2 HP.out.1 HV.out).mono ?_
  rintro e w4 ⟨v4, rfl, hv4, hbl4⟩
  obtain ⟨C1, j1, C2, j2, rfl, -, -⟩ := hv4.opened
  have hk4 := Held3.call (by assumption) hbl4
  refine hK.out _ _ ?_ (fun hHeld => ?_)
  · (try dsimp only)
    exact hk4
  clear hK K
  try simp only [Act.put, List.setIfInBounds_toArray, List.set_cons_zero, List.set_cons_succ]
  refine wpAnyH_ready (rs := [16]) (by kernel_rfl) (by simp) ?_
  refine AllReadyH.cons rfl (fun K hK => ?_) AllReadyH.nil
  go_simp
  refine hK.out _ _ ?_ (fun hHeld => ?_)
  · (try dsimp only)
    exact hk4.store
  clear hK K
  try simp only [Act.put, List.setIfInBounds_toArray, List.set_cons_zero, List.set_cons_succ]
  refine wpAnyH_done (by kernel_rfl) ?_ _
  have HD := hk4.done (q := q) (b := decide (q.num < 0)) (A1 := C1) (n1 := len q.num.natAbs) (c1 := j1) (A2 := C2) (n2 := len (below q.den)) (c2 := j2) (hv4)
  obtain ⟨d1, d2, d3⟩ := HD
  have r0 := cell_of_row _ _ 0 _ _ _ d3
  have r1 := cell_of_row _ _ 1 _ _ _ d3
  have r2 := cell_of_row _ _ 2 _ _ _ d3
  simp only [List.getElem?_toArray, List.getElem?_cons_zero, List.getElem?_cons_succ] at r0 r1 r2
  have HD := Lib.hid (And.intro d1 d2)
  clear d1 d2 d3
  go_wp2_with fail
  refine bodyPost_ret (v := .agg #[.bool (decide (q.num < 0)), .slice (C1) (len q.num.natAbs) (j1), .slice (C2) (len (below q.den)) (j2)]) ?_ rfl ⟨_, rfl, HD.out.1, below_to HB0.out (by omega) HD.out.2⟩
  simp [results, Tryz.results116, go_sem, r0, r1, r2]

/-- power: the power with an exponent that is no less than 0. -/
theorem numPower_any {w : World} {vx : Value} {x : Rat} {n : Nat} (hx : IsNum w vx x) (hn : n ≤ 1099511627776) (hs : siz x * n ≤ 1099511627776) (hs1 : siz x ≤ 1099511627776) :
    Calls Tryz.prog 116 #[vx, .int .i64 (n : Nat)] w (NumRet w (x ^ n)) := by
  rcases Decidable.em (x.num < 0) with h | h
  · rcases Nat.mod_two_eq_zero_or_one n with hp | hp
    · exact power_even hx rfl hn hs hs1 h hp
    · exact power_odd hx rfl hn hs hs1 h hp
  · exact power_pos hx rfl hn hs hs1 h

set_option maxRecDepth 100000 in
set_option maxHeartbeats 2000000 in
theorem pow_low {w : World} {vx : Value} {x : Rat} {n : Int} (hx : IsNum w vx x) (h : n < 0) : Calls Tryz.prog 41 #[vx, .int .i64 n] w (NumErrRet w 0 3) := by
  obtain ⟨A1, c1, A2, c2, rfl, hx1, hx2⟩ := hx.opened
  obtain ⟨wB, hwB⟩ : ∃ u, u = (w.alloc (.cells #[.bool (decide (x.num < 0)), .slice A1 (len x.num.natAbs) c1, .slice A2 (len (below x.den)) c2] 25)).alloc (.cells #[.bool false, .slice none 0 0, .slice none 0 0] 25) := ⟨_, rfl⟩
  obtain ⟨b0, gA, gB⟩ := news2 w (.cells #[.bool (decide (x.num < 0)), .slice A1 (len x.num.natAbs) c1, .slice A2 (len (below x.den)) c2] 25) (.cells #[.bool false, .slice none 0 0, .slice none 0 0] 25)
  rw [← hwB] at b0 gA gB
  have k0 : wB.cell? ⟨w.heap.size, 0, none⟩ = some (.bool (decide (x.num < 0))) := cell_of_row _ _ _ _ _ _ gA
  have k1 : wB.cell? ⟨w.heap.size, 1, none⟩ = some (.slice A1 (len x.num.natAbs) c1) := cell_of_row _ _ _ _ _ _ gA
  have k2 : wB.cell? ⟨w.heap.size, 2, none⟩ = some (.slice A2 (len (below x.den)) c2) := cell_of_row _ _ _ _ _ _ gA
  have HK0 := Lib.hid (Kept.start (T := 25) rfl (plain3 _ _ _ _ _ _ _) gB)
  have HB0 := Lib.hid b0
  have hlt1 : w.heap.size < w.heap.size + 1 := by omega
  clear gA gB b0
  go_enter Tryz.func41, Tryz.ntmps41
  go_upto_region 2 with fail
  rw [← hwB]
  clear hwB
  have hk := HK0.out.held (Stay.refl _)
  obtain ⟨-, c0, c1', c2', f0, f1, f2, -⟩ := id hk
  have HD := hk.done (q := 0) (b := false) (A1 := none) (n1 := 0) (c1 := 0) (A2 := none) (n2 := 0) (c2 := 0) (zero_num _)
  obtain ⟨d1, d2, d3⟩ := HD
  have r0 := cell_of_row _ _ 0 _ _ _ d3
  have r1 := cell_of_row _ _ 1 _ _ _ d3
  have r2 := cell_of_row _ _ 2 _ _ _ d3
  simp only [List.getElem?_toArray, List.getElem?_cons_zero, List.getElem?_cons_succ] at r0 r1 r2
  have HD := Lib.hid (And.intro d1 d2)
  clear d1 d2 d3
  go_wp2_with fail
  refine bodyPost_ret (v := .tuple #[.agg #[.bool (false), .slice (none) (0) (0), .slice (none) (0) (0)], .int .i64 3]) ?_ rfl ⟨_, rfl, HD.out.1, below_to HB0.out (by omega) HD.out.2⟩
  simp [results, Tryz.results41, go_sem, r0, r1, r2]

set_option maxRecDepth 100000 in
set_option maxHeartbeats 2000000 in
theorem pow_high {w : World} {vx : Value} {x : Rat} {n : Int} (hx : IsNum w vx x) (h : 64 < n) : Calls Tryz.prog 41 #[vx, .int .i64 n] w (NumErrRet w 0 3) := by
  obtain ⟨A1, c1, A2, c2, rfl, hx1, hx2⟩ := hx.opened
  obtain ⟨wB, hwB⟩ : ∃ u, u = (w.alloc (.cells #[.bool (decide (x.num < 0)), .slice A1 (len x.num.natAbs) c1, .slice A2 (len (below x.den)) c2] 25)).alloc (.cells #[.bool false, .slice none 0 0, .slice none 0 0] 25) := ⟨_, rfl⟩
  obtain ⟨b0, gA, gB⟩ := news2 w (.cells #[.bool (decide (x.num < 0)), .slice A1 (len x.num.natAbs) c1, .slice A2 (len (below x.den)) c2] 25) (.cells #[.bool false, .slice none 0 0, .slice none 0 0] 25)
  rw [← hwB] at b0 gA gB
  have k0 : wB.cell? ⟨w.heap.size, 0, none⟩ = some (.bool (decide (x.num < 0))) := cell_of_row _ _ _ _ _ _ gA
  have k1 : wB.cell? ⟨w.heap.size, 1, none⟩ = some (.slice A1 (len x.num.natAbs) c1) := cell_of_row _ _ _ _ _ _ gA
  have k2 : wB.cell? ⟨w.heap.size, 2, none⟩ = some (.slice A2 (len (below x.den)) c2) := cell_of_row _ _ _ _ _ _ gA
  have HK0 := Lib.hid (Kept.start (T := 25) rfl (plain3 _ _ _ _ _ _ _) gB)
  have HB0 := Lib.hid b0
  have hlt1 : w.heap.size < w.heap.size + 1 := by omega
  clear gA gB b0
  go_enter Tryz.func41, Tryz.ntmps41
  go_upto_region 2 with fail
  rw [← hwB]
  clear hwB
  have hk := HK0.out.held (Stay.refl _)
  obtain ⟨-, c0, c1', c2', f0, f1, f2, -⟩ := id hk
  have HD := hk.done (q := 0) (b := false) (A1 := none) (n1 := 0) (c1 := 0) (A2 := none) (n2 := 0) (c2 := 0) (zero_num _)
  obtain ⟨d1, d2, d3⟩ := HD
  have r0 := cell_of_row _ _ 0 _ _ _ d3
  have r1 := cell_of_row _ _ 1 _ _ _ d3
  have r2 := cell_of_row _ _ 2 _ _ _ d3
  simp only [List.getElem?_toArray, List.getElem?_cons_zero, List.getElem?_cons_succ] at r0 r1 r2
  have HD := Lib.hid (And.intro d1 d2)
  clear d1 d2 d3
  go_wp2_with fail
  refine bodyPost_ret (v := .tuple #[.agg #[.bool (false), .slice (none) (0) (0), .slice (none) (0) (0)], .int .i64 3]) ?_ rfl ⟨_, rfl, HD.out.1, below_to HB0.out (by omega) HD.out.2⟩
  simp [results, Tryz.results41, go_sem, r0, r1, r2]

set_option maxRecDepth 100000 in
set_option maxHeartbeats 2000000 in
theorem pow_ok {w : World} {vx : Value} {x q : Rat} {n : Nat} (hx : IsNum w vx x) (hq : q = x ^ n) (hs : siz x ≤ 17179869184) (h : n ≤ 64) : Calls Tryz.prog 41 #[vx, .int .i64 (n : Nat)] w (NumErrRet w q 0) := by
  obtain ⟨A1, c1, A2, c2, rfl, hx1, hx2⟩ := hx.opened
  obtain ⟨wB, hwB⟩ : ∃ u, u = (w.alloc (.cells #[.bool (decide (x.num < 0)), .slice A1 (len x.num.natAbs) c1, .slice A2 (len (below x.den)) c2] 25)).alloc (.cells #[.bool false, .slice none 0 0, .slice none 0 0] 25) := ⟨_, rfl⟩
  obtain ⟨b0, gA, gB⟩ := news2 w (.cells #[.bool (decide (x.num < 0)), .slice A1 (len x.num.natAbs) c1, .slice A2 (len (below x.den)) c2] 25) (.cells #[.bool false, .slice none 0 0, .slice none 0 0] 25)
  rw [← hwB] at b0 gA gB
  have k0 : wB.cell? ⟨w.heap.size, 0, none⟩ = some (.bool (decide (x.num < 0))) := cell_of_row _ _ _ _ _ _ gA
  have k1 : wB.cell? ⟨w.heap.size, 1, none⟩ = some (.slice A1 (len x.num.natAbs) c1) := cell_of_row _ _ _ _ _ _ gA
  have k2 : wB.cell? ⟨w.heap.size, 2, none⟩ = some (.slice A2 (len (below x.den)) c2) := cell_of_row _ _ _ _ _ _ gA
  have HK0 := Lib.hid (Kept.start (T := 25) rfl (plain3 _ _ _ _ _ _ _) gB)
  have HB0 := Lib.hid b0
  have hlt1 : w.heap.size < w.heap.size + 1 := by omega
  clear gA gB b0
  have HX := Lib.hid (numPower_any (n := n) (hx.keep HB0.out) (by omega) (Nat.le_trans (Nat.mul_le_mul_left _ h) (by omega)) (by omega))
  rw [← hq] at HX
  clear hq hs
  have hni : ((n : Nat) : Int) ≤ 64 := by omega
  clear h
  go_enter Tryz.func41, Tryz.ntmps41
  go_upto_region 3 with fail
  rw [← hwB]
  clear hwB
  go_wp2_with fail
  refine (HX.out).mono ?_
  rintro e w4 ⟨v4, rfl, hv4, hbl4⟩
  obtain ⟨C1, j1, C2, j2, rfl, -, -⟩ := hv4.opened
  have hk := (HK0.out.call hbl4).held (Stay.refl _)
  obtain ⟨-, c0, c1', c2', f0, f1, f2, -⟩ := id hk
  have HD := hk.done (q := q) (b := decide (q.num < 0)) (A1 := C1) (n1 := len q.num.natAbs) (c1 := j1) (A2 := C2) (n2 := len (below q.den)) (c2 := j2) (hv4)
  obtain ⟨d1, d2, d3⟩ := HD
  have r0 := cell_of_row _ _ 0 _ _ _ d3
  have r1 := cell_of_row _ _ 1 _ _ _ d3
  have r2 := cell_of_row _ _ 2 _ _ _ d3
  simp only [List.getElem?_toArray, List.getElem?_cons_zero, List.getElem?_cons_succ] at r0 r1 r2
  have HD := Lib.hid (And.intro d1 d2)
  clear d1 d2 d3
  go_wp2_with fail
  refine bodyPost_ret (v := .tuple #[.agg #[.bool (decide (q.num < 0)), .slice (C1) (len q.num.natAbs) (j1), .slice (C2) (len (below q.den)) (j2)], .int .i64 0]) ?_ rfl ⟨_, rfl, HD.out.1, below_to HB0.out (by omega) HD.out.2⟩
  simp [results, Tryz.results41, go_sem, r0, r1, r2]

/-- Pow: the power, or the error of a range. -/
theorem numPow_any {w : World} {vx : Value} {x : Rat} {n : Int} (hx : IsNum w vx x) (hs : siz x ≤ 17179869184) :
    Calls Tryz.prog 41 #[vx, .int .i64 n] w (NumErrRet w (if 0 ≤ n ∧ n ≤ 64 then x ^ n.toNat else 0) (if 0 ≤ n ∧ n ≤ 64 then 0 else 3)) := by
  rcases Decidable.em (0 ≤ n ∧ n ≤ 64) with h | h
  · rw [if_pos h, if_pos h]
    obtain ⟨m, rfl⟩ := Int.eq_ofNat_of_zero_le h.1
    exact pow_ok hx (by rfl) hs (by omega)
  · rw [if_neg h, if_neg h]
    rcases (show n < 0 ∨ 0 ≤ n by omega) with h1 | h1
    · exact pow_low hx h1
    · exact pow_high hx (by omega)
end Go.Proofs.YtfppimacnhcflaaGreatDoor
namespace Go.Proofs.YtfppimacnhcflaaGreatDoor
open Go.RowKit
open Vx

/-- A box and an error are returned. -/
def BoxErrRet (w : World) (a b : Rat) (c : Int) (e : Ending) (w' : World) : Prop := ∃ v, e = .returned (.tuple #[v, .int .i64 c]) ∧ IsBox w' v a b ∧ Below w.heap.size w w'
theorem cmpQ_le {x y : Rat} (h : x ≤ y) : ¬ 0 < cmpQ x y := by
  unfold cmpQ
  split
  · omega
  · split
    · omega
    · rename_i h1 h2
      exact absurd (Rat.le_antisymm h (Rat.not_lt.1 h1)) h2
theorem cmpQ_gt {x y : Rat} (h : ¬ x ≤ y) : 0 < cmpQ x y := by
  unfold cmpQ
  rw [if_neg (fun e => h (Rat.le_of_lt e)), if_neg (fun e => h (by rw [e]; exact Rat.le_refl))]
  omega

set_option maxRecDepth 100000 in
set_option maxHeartbeats 2000000 in
theorem span_yes {w : World} {vx vy : Value} {x y : Rat} (hx : IsNum w vx x) (hy : IsNum w vy y) (hs : siz x ≤ 34359738368) (ht : siz y ≤ 34359738368) (h : x ≤ y) :
    Calls Tryz.prog 49 #[vx, vy] w (BoxErrRet w x y 0) := by
  obtain ⟨A1, c1, A2, c2, rfl, -, -⟩ := id hx.opened
  obtain ⟨A3, c3, A4, c4, rfl, -, -⟩ := id hy.opened
  obtain ⟨wB, hwB⟩ : ∃ u, u = ((w.alloc (.cells #[.bool (decide (x.num < 0)), .slice A1 (len x.num.natAbs) c1, .slice A2 (len (below x.den)) c2] 25)).alloc (.cells #[.bool (decide (y.num < 0)), .slice A3 (len y.num.natAbs) c3, .slice A4 (len (below y.den)) c4] 25)).alloc (.cells #[.bool false, .slice none 0 0, .slice none 0 0, .bool false, .slice none 0 0, .slice none 0 0] 71) := ⟨_, rfl⟩
  obtain ⟨b0, g0, g1, g2⟩ := news3 w (.cells #[.bool (decide (x.num < 0)), .slice A1 (len x.num.natAbs) c1, .slice A2 (len (below x.den)) c2] 25) (.cells #[.bool (decide (y.num < 0)), .slice A3 (len y.num.natAbs) c3, .slice A4 (len (below y.den)) c4] 25) (.cells #[.bool false, .slice none 0 0, .slice none 0 0, .bool false, .slice none 0 0, .slice none 0 0] 71)
  rw [← hwB] at b0 g0 g1 g2
  have k0 : wB.cell? ⟨w.heap.size, 0, none⟩ = some (.bool (decide (x.num < 0))) := cell_of_row _ _ _ _ _ _ g0
  have k1 : wB.cell? ⟨w.heap.size, 1, none⟩ = some (.slice A1 (len x.num.natAbs) c1) := cell_of_row _ _ _ _ _ _ g0
  have k2 : wB.cell? ⟨w.heap.size, 2, none⟩ = some (.slice A2 (len (below x.den)) c2) := cell_of_row _ _ _ _ _ _ g0
  have k3 : wB.cell? ⟨w.heap.size + 1, 0, none⟩ = some (.bool (decide (y.num < 0))) := cell_of_row _ _ _ _ _ _ g1
  have k4 : wB.cell? ⟨w.heap.size + 1, 1, none⟩ = some (.slice A3 (len y.num.natAbs) c3) := cell_of_row _ _ _ _ _ _ g1
  have k5 : wB.cell? ⟨w.heap.size + 1, 2, none⟩ = some (.slice A4 (len (below y.den)) c4) := cell_of_row _ _ _ _ _ _ g1
  have HK0 := Lib.hid (Kept.start (T := 71) rfl plain6 g2)
  have HB0 := Lib.hid b0
  have hlt1 : w.heap.size < w.heap.size + 2 := by omega
  have hlt2 : w.heap.size + 1 < w.heap.size + 2 := by omega
  clear g0 g1 g2 b0
  have HC := Lib.hid (numCmp_any (hx.keep HB0.out) (hy.keep HB0.out) hs ht)
  obtain ⟨cc, hcc⟩ : ∃ cc : Int, cc = cmpQ x y := ⟨_, rfl⟩
  have hle : decide (cc > 0) = false := decide_eq_false (by rw [hcc]; exact cmpQ_le h)
  rw [← hcc] at HC
  clear hcc h
  have HX := fun (w1 w' : World) (hb : Below w.heap.size w w1) (hk : Held6 wB (w.heap.size + 2) w1 w') => Lib.hid (numCopied_any (hk.stay.num (hx.keep hb)) (Nat.le_trans hs (by omega)))
  have HY := fun (w1 w' : World) (hb : Below w.heap.size w w1) (hk : Held6 wB (w.heap.size + 2) w1 w') => Lib.hid (numCopied_any (hk.stay.num (hy.keep hb)) (Nat.le_trans ht (by omega)))
  clear hx hy hs ht
  go_enter Tryz.func49, Tryz.ntmps49
  go_wp2_with fail
  rw [← hwB]
  clear hwB
  refine (HC.out).mono ?_
  rintro e w0 ⟨rfl, b1⟩
  have HK1 := Lib.hid (HK0.out.call b1)
  have HX := fun (w' : World) (hk : Held6 wB (w.heap.size + 2) w0 w') => HX w0 w' (below_to HB0.out (by omega) HK1.out.1) hk
  have HY := fun (w' : World) (hk : Held6 wB (w.heap.size + 2) w0 w') => HY w0 w' (below_to HB0.out (by omega) HK1.out.1) hk
  have H0 := HK1.out.begin6
  have H0' := H0
  unfold Held6 at H0'
  go_wp2_with fail
  go_region_held3 (fun w' => (∀ b o, b < w.heap.size + 2 → w'.cell? ⟨b, o, none⟩ = wB.cell? ⟨b, o, none⟩) ∧ w'.cell? ⟨w.heap.size + 2, 0, none⟩ = some (cur w' ⟨w.heap.size + 2, 0, none⟩) ∧ w'.cell? ⟨w.heap.size + 2, 1, none⟩ = some (cur w' ⟨w.heap.size + 2, 1, none⟩) ∧ w'.cell? ⟨w.heap.size + 2, 2, none⟩ = some (cur w' ⟨w.heap.size + 2, 2, none⟩) ∧ w'.cell? ⟨w.heap.size + 2, 3, none⟩ = some (cur w' ⟨w.heap.size + 2, 3, none⟩) ∧ w'.cell? ⟨w.heap.size + 2, 4, none⟩ = some (cur w' ⟨w.heap.size + 2, 4, none⟩) ∧ w'.cell? ⟨w.heap.size + 2, 5, none⟩ = some (cur w' ⟨w.heap.size + 2, 5, none⟩) ∧ w'.frozen? ⟨w.heap.size + 2, 0, none⟩ = false ∧ w'.frozen? ⟨w.heap.size + 2, 1, none⟩ = false ∧ w'.frozen? ⟨w.heap.size + 2, 2, none⟩ = false ∧ w'.frozen? ⟨w.heap.size + 2, 3, none⟩ = false ∧ w'.frozen? ⟨w.heap.size + 2, 4, none⟩ = false ∧ w'.frozen? ⟨w.heap.size + 2, 5, none⟩ = false ∧ Kept 6 71 wB (w.heap.size + 2) w' ∧ Stay w0 w')
    (first | with_reducible exact H0' | with_reducible exact hk1' | with_reducible exact hk2' | exact hk2.store)
    (first | (go_at_call 112; refine ((HY _ hk1).out).mono ?_; rintro e w2 ⟨v2, rfl, hv2, hbl2⟩; obtain ⟨C3, j3, C4, j4, rfl, -, -⟩ := id hv2.opened; have hk2 := hk1.call hbl2; have hk2' := hk2; unfold Held6 at hk2') | (go_at_call 112; refine ((HX _ H0).out).mono ?_; rintro e w1 ⟨v1, rfl, hv1, hbl1⟩; obtain ⟨C1, j1, C2, j2, rfl, -, -⟩ := id hv1.opened; have hk1 := H0.call hbl1; have hk1' := hk1; unfold Held6 at hk1'))
  rename_i hHl
  clear hHl
  have hv1' := hv1.keep hbl2
  have HD := hk2.done (p := x) (q := y) (s1 := decide (x.num < 0)) (A1 := C1) (n1 := len x.num.natAbs) (c1 := j1) (A2 := C2) (n2 := len (below x.den)) (c2 := j2) (s2 := decide (y.num < 0)) (A3 := C3) (n3 := len y.num.natAbs) (c3 := j3) (A4 := C4) (n4 := len (below y.den)) (c4 := j4) (hv1') (hv2)
  obtain ⟨d1, d2, d3⟩ := HD
  have r0 := cell_of_row _ _ 0 _ _ _ d3
  have r1 := cell_of_row _ _ 1 _ _ _ d3
  have r2 := cell_of_row _ _ 2 _ _ _ d3
  have r3 := cell_of_row _ _ 3 _ _ _ d3
  have r4 := cell_of_row _ _ 4 _ _ _ d3
  have r5 := cell_of_row _ _ 5 _ _ _ d3
  simp only [List.getElem?_toArray, List.getElem?_cons_zero, List.getElem?_cons_succ] at r0 r1 r2 r3 r4 r5
  have HD := Lib.hid (And.intro d1 d2)
  clear d1 d2 d3
  go_wp2_with fail
  refine bodyPost_ret (v := .tuple #[.agg #[.bool (decide (x.num < 0)), .slice (C1) (len x.num.natAbs) (j1), .slice (C2) (len (below x.den)) (j2), .bool (decide (y.num < 0)), .slice (C3) (len y.num.natAbs) (j3), .slice (C4) (len (below y.den)) (j4)], .int .i64 0]) ?_ rfl ⟨_, rfl, HD.out.1, below_to HB0.out (by omega) HD.out.2⟩
  simp [results, Tryz.results49, go_sem, r0, r1, r2, r3, r4, r5]
end Go.Proofs.YtfppimacnhcflaaGreatDoor
