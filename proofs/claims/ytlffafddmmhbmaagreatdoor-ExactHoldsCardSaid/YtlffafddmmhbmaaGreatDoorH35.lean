/-
  Contracts of the functions that the law calls, for every input (HoV HoW).
-/
import Derived.Test.YtlffafddmmhbmaaGreatDoorH34
import Derived.Deep.AppendLies
set_option linter.all false
namespace Go.Proofs.YtlffafddmmhbmaaGreatDoor
open Go.RowKit
open Vx

theorem siz_power (x : Rat) (n : Nat) : siz (x ^ n) ≤ siz x * n + 1 := by
  refine siz_of ?_ ?_
  · rw [Rat.num_pow, Int.natAbs_pow]
    exact Nat.le_trans (len_pow_le _ _) (Nat.succ_le_succ (Nat.mul_le_mul_right n (siz_num x)))
  · rw [Rat.den_pow]
    exact Nat.le_trans (len_pow_le _ _) (Nat.succ_le_succ (Nat.mul_le_mul_right n (siz_den x)))
theorem siz_power6 {x q : Rat} {n : Nat} (h : x ^ n = q) (hn : n ≤ 6) (hx : siz x ≤ 20000) : siz q ≤ 200000 := by
  rw [← h]
  have h1 := siz_power x n
  have h2 := Nat.mul_le_mul hx hn
  omega
theorem npow_val {w : World} {vx : Value} {x q : Rat} {n : Nat} (hq : x ^ n = q) (hx : IsNum w vx x) (hs : siz x ≤ 536870912) (h : n ≤ 6) : Calls Tryz.prog 27 #[vx, .int .i64 (n : Nat)] w (NumErrRet w q 0) :=
  pow_ok hx hq.symm (Nat.le_trans hs (by omega)) (by omega)
theorem bpow_val {w : World} {v : Value} {a b p q : Rat} {n : Nat} (h1 : (if n % 2 = 0 then absLo a b else a) ^ n = p) (h2 : (if n % 2 = 0 then absHi a b else b) ^ n = q) (hv : IsBox w v a b) (hn : n ≤ 6) (sa : siz a ≤ 536870912) (sb : siz b ≤ 536870912) :
    Calls Tryz.prog 31 #[v, .int .i64 (n : Nat)] w (BoxErrRet w p q 0) := by
  rw [← h1, ← h2]; exact boxPow_any hv (by omega) (Nat.le_trans sa (by omega)) (Nat.le_trans sb (by omega))
theorem bneg_val {w : World} {v : Value} {a b p q : Rat} (h1 : -b = p) (h2 : -a = q) (hv : IsBox w v a b) (sa : siz a ≤ 536870912) (sb : siz b ≤ 536870912) :
    Calls Tryz.prog 36 #[v] w (BoxRet w p q) := by
  rw [← h1, ← h2]; exact boxNeg_any hv (Nat.le_trans sa (by omega)) (Nat.le_trans sb (by omega))
theorem nabs_val {w : World} {vx : Value} {x q : Rat} (hq : x.abs = q) (hx : IsNum w vx x) (hs : siz x ≤ 536870912) : Calls Tryz.prog 38 #[vx] w (NumRet w q) := by
  rw [← hq]; exact numAbs_any hx (Nat.le_trans hs (by omega))
theorem overf_val {w : World} {vx vy : Value} {x y q : Rat} (hq : x / y = q) (hx : IsNum w vx x) (hy : IsNum w vy y) (hs : siz x ≤ 536870912) (ht : siz y ≤ 536870912) :
    Calls Tryz.prog 43 #[vx, vy] w (NumRet w q) := by
  rw [← hq]; exact overf_any hx hy (Nat.le_trans hs (by omega)) (Nat.le_trans ht (by omega))
/-- every result lies in the box of the results -/
theorem ho_facts {a b c d x y : Rat} (hab : a ≤ b) (h1 : a ≤ x) (h2 : x ≤ b) (h3 : c ≤ y) (h4 : y ≤ d) :
    decide (a ≤ x ∧ x ≤ b) = true ∧ decide (c ≤ y ∧ y ≤ d) = true ∧ decide (a + c ≤ x + y ∧ x + y ≤ b + d) = true ∧ decide (a - d ≤ x - y ∧ x - y ≤ b - c) = true ∧
    decide (leastOf (a * c) [a * d, b * c, b * d] ≤ x * y ∧ x * y ≤ greatestOf (a * c) [a * d, b * c, b * d]) = true ∧ decide (-b ≤ -x ∧ -x ≤ -a) = true ∧ decide (absLo a b ≤ x.abs ∧ x.abs ≤ absHi a b) = true ∧
    decide (leastOf a [b, c, d] ≤ x ∧ x ≤ greatestOf a [b, c, d]) = true ∧ decide (leastOf a [b, c, d] ≤ y ∧ y ≤ greatestOf a [b, c, d]) = true := by
  have l4 := least4 a b c d
  have g4 := greatest4 a b c d
  refine ⟨decide_eq_true ⟨h1, h2⟩, decide_eq_true ⟨h3, h4⟩, decide_eq_true ?_, decide_eq_true ?_, decide_eq_true (prod_in ⟨h1, h2⟩ ⟨h3, h4⟩), decide_eq_true ?_, decide_eq_true (abs_in hab h1 h2), decide_eq_true ?_, decide_eq_true ?_⟩
  · constructor <;> grind
  · constructor <;> grind
  · constructor <;> grind
  · exact ⟨Rat.le_trans l4.1 h1, Rat.le_trans h2 g4.2.1⟩
  · exact ⟨Rat.le_trans l4.2.2.1 h3, Rat.le_trans h4 g4.2.2.2⟩
theorem wp_letter {P : Program} {c : Code} {Q : Exit → Act → World → Prop} {a : Act} {w : World} (h : ∀ A0, a = A0 → c.wp P Q A0 w) : c.wp P Q a w := h _ rfl
theorem numsAt_keep {w w' : World} {b o : Nat} {l : List Rat} (h : NumsAt w b o l) (hb : Below w.heap.size w w') : NumsAt w' b o l := by
  intro i q hi
  obtain ⟨p, h1, h2, h3, h4⟩ := h i q hi
  exact ⟨p, (hb.cell (World.block_lt_of_cell? w _ h1)).trans h1, (hb.cell (World.block_lt_of_cell? w _ h2)).trans h2, (hb.cell (World.block_lt_of_cell? w _ h3)).trans h3, IsNum.keep h4 hb⟩
theorem nums_two {w : World} {n : Nat} {a b : Rat} {s1 s2 : Bool} {A1 A2 A3 A4 : Option Addr} {n1 c1 n2 c2 n3 c3 n4 c4 : Nat} {T : TypeId} (L : w.heap[n]? = some (.cells #[.bool s1, .slice A1 n1 c1, .slice A2 n2 c2, .bool s2, .slice A3 n3 c3, .slice A4 n4 c4] T (0, 0))) (h1 : IsNum w (.agg #[.bool s1, .slice A1 n1 c1, .slice A2 n2 c2]) a) (h2 : IsNum w (.agg #[.bool s2, .slice A3 n3 c3, .slice A4 n4 c4]) b) :
    NumsAt w n 0 [a, b] := by
  intro i r hi
  match i, hi with
  | 0, hi =>
    obtain rfl := Option.some.inj hi
    exact ⟨⟨s1, A1, n1, c1, A2, n2, c2⟩, cell_of_row _ _ 0 _ _ _ L, cell_of_row _ _ 1 _ _ _ L, cell_of_row _ _ 2 _ _ _ L, h1⟩
  | 1, hi =>
    obtain rfl := Option.some.inj hi
    exact ⟨⟨s2, A3, n3, c3, A4, n4, c4⟩, cell_of_row _ _ 3 _ _ _ L, cell_of_row _ _ 4 _ _ _ L, cell_of_row _ _ 5 _ _ _ L, h2⟩
  | _ + 2, hi => exact absurd hi (by simp)
/-- nine cells of a row, each at its place -/
theorem nums_three {w : World} {n : Nat} {a b : Rat} {s1 s2 : Bool} {A1 A2 A3 A4 : Option Addr} {n1 c1 n2 c2 n3 c3 n4 c4 : Nat} {T : TypeId} {cur : Array Value} (L : w.heap[n]? = some (.cells cur T (0, 0)))
    (hc : cur.toList.take 9 = [.bool s1, .slice A1 n1 c1, .slice A2 n2 c2, .bool s2, .slice A3 n3 c3, .slice A4 n4 c4, .bool false, .slice none 0 0, .slice none 0 0]) (h1 : IsNum w (.agg #[.bool s1, .slice A1 n1 c1, .slice A2 n2 c2]) a) (h2 : IsNum w (.agg #[.bool s2, .slice A3 n3 c3, .slice A4 n4 c4]) b) :
    NumsAt w n 0 [a, b, 0] := by
  have hcell : ∀ (i : Nat) (v : Value), i < 9 → (cur.toList.take 9)[i]? = some v → w.cell? ⟨n, i, none⟩ = some v := by
    intro i v hi hv
    rw [List.getElem?_take_of_lt hi, Array.getElem?_toList] at hv
    exact cell_of_row _ _ i _ _ _ L |>.trans hv
  rw [hc] at hcell
  intro i r hi
  match i, hi with
  | 0, hi =>
    obtain rfl := Option.some.inj hi
    exact ⟨⟨s1, A1, n1, c1, A2, n2, c2⟩, hcell 0 _ (by omega) rfl, hcell 1 _ (by omega) rfl, hcell 2 _ (by omega) rfl, h1⟩
  | 1, hi =>
    obtain rfl := Option.some.inj hi
    exact ⟨⟨s2, A3, n3, c3, A4, n4, c4⟩, hcell 3 _ (by omega) rfl, hcell 4 _ (by omega) rfl, hcell 5 _ (by omega) rfl, h2⟩
  | 2, hi =>
    obtain rfl := Option.some.inj hi
    exact ⟨⟨false, none, 0, 0, none, 0, 0⟩, hcell 6 _ (by omega) rfl, hcell 7 _ (by omega) rfl, hcell 8 _ (by omega) rfl, zero_num w⟩
  | _ + 3, hi => exact absurd hi (by simp)
theorem ends_two {a b P1 P2 : Rat} {n : Nat} (iL : P1 = a ^ n ∨ P1 = b ^ n ∨ ((a ≤ 0 ∧ 0 ≤ b) ∧ P1 = 0 ^ n)) (iH : P2 = a ^ n ∨ P2 = b ^ n) (h : ¬ (a ≤ 0 ∧ 0 ≤ b)) :
    anyEq ([a, b].map (fun z => z ^ n)) P1 = true ∧ anyEq ([a, b].map (fun z => z ^ n)) P2 = true := by
  unfold anyEq
  simp only [List.map_cons, List.map_nil, List.any_cons, List.any_nil, Bool.or_false, Bool.or_eq_true, decide_eq_true_eq]
  constructor
  · rcases iL with e | e | ⟨k, -⟩
    · exact Or.inl e.symm
    · exact Or.inr e.symm
    · exact absurd k h
  · rcases iH with e | e
    · exact Or.inl e.symm
    · exact Or.inr e.symm
theorem ends_three {a b P1 P2 : Rat} {n : Nat} (iL : P1 = a ^ n ∨ P1 = b ^ n ∨ ((a ≤ 0 ∧ 0 ≤ b) ∧ P1 = 0 ^ n)) (iH : P2 = a ^ n ∨ P2 = b ^ n) :
    anyEq ([a, b, 0].map (fun z => z ^ n)) P1 = true ∧ anyEq ([a, b, 0].map (fun z => z ^ n)) P2 = true := by
  unfold anyEq
  simp only [List.map_cons, List.map_nil, List.any_cons, List.any_nil, Bool.or_false, Bool.or_eq_true, decide_eq_true_eq]
  constructor
  · rcases iL with e | e | ⟨-, e⟩
    · exact Or.inl e.symm
    · exact Or.inr (Or.inl e.symm)
    · exact Or.inr (Or.inr e.symm)
  · rcases iH with e | e
    · exact Or.inl e.symm
    · exact Or.inr (Or.inl e.symm)
set_option maxRecDepth 1000000 in
theorem num_info : ∃ (i : TypeInfo) (z : Value) (bytes : Nat), Tryz.prog.info? 27 = some i ∧ i.zero = some z ∧ i.size = 3 ∧ i.bytes = bytes ∧ z.cells.size = 3 ∧ bytes ≤ 1000 := ⟨_, _, _, rfl, rfl, rfl, rfl, rfl, by decide⟩
end Go.Proofs.YtlffafddmmhbmaaGreatDoor
namespace Go.Proofs.YtlffafddmmhbmaaGreatDoor
open Go.RowKit
open Vx

set_option maxRecDepth 100000 in
theorem enter_add (ar : Array Value) (u : World) : (callFunc 14 ar).run Tryz.prog u = .ok (.enter 14 ar) u := by kernel_rfl
set_option maxRecDepth 100000 in
theorem enter_sub (ar : Array Value) (u : World) : (callFunc 16 ar).run Tryz.prog u = .ok (.enter 16 ar) u := by kernel_rfl
set_option maxRecDepth 100000 in
theorem enter_mul (ar : Array Value) (u : World) : (callFunc 15 ar).run Tryz.prog u = .ok (.enter 15 ar) u := by kernel_rfl
set_option maxRecDepth 100000 in
theorem enter_over (ar : Array Value) (u : World) : (callFunc 43 ar).run Tryz.prog u = .ok (.enter 43 ar) u := by kernel_rfl
theorem siz4 {z0 z1 z2 z3 : Rat} {N : Nat} (h0 : siz z0 ≤ N) (h1 : siz z1 ≤ N) (h2 : siz z2 ≤ N) (h3 : siz z3 ≤ N) : ∀ z ∈ [z0, z1, z2, z3], siz z ≤ N := by
  intro z hz
  simp only [List.mem_cons, List.not_mem_nil, or_false] at hz
  rcases hz with rfl | rfl | rfl | rfl <;> assumption
theorem siz_or {a b x : Rat} {N : Nat} (h : x = a ∨ x = b) (ha : siz a ≤ N) (hb : siz b ≤ N) : siz x ≤ N := by rcases h with rfl | rfl <;> assumption
theorem anyEq_mem {l : List Rat} {p : Rat} (h : p ∈ l) : anyEq l p = true := by
  unfold anyEq; rw [List.any_eq_true]; exact ⟨p, h, decide_eq_true rfl⟩
section
variable {w : World} {v1 v2 v3 : Value} {a b c d p q : Rat} {mx : Int}
theorem ended_add (e1 : a + c = p) (e2 : b + d = q) (hr : IsBox w v1 p q) (hs : IsBox w v2 a b) (ht : IsBox w v3 c d) (sa : siz a ≤ 4100) (sb : siz b ≤ 4100) (sc : siz c ≤ 4100) (sd : siz d ≤ 4100)
    (hM : w.cell? ⟨1, 0, none⟩ = some (.int .i64 mx)) (hT : TabAt 0 Lib.deBruijn64tab w) :
    Calls Tryz.prog 42 #[v1, v2, v3, .func (.func 14) #[] #[]] w (BoolRet w true) := by
  have k : ∀ x y : Rat, siz x ≤ 4100 → siz y ≤ 4100 → siz (x + y) ≤ 536870912 := fun x y hx hy => Nat.le_trans (siz_add x y) (by omega)
  have h := ended_any (op := fun x y => x + y) (f := 14) hr hs ht (by omega) (by omega) (by omega) (by omega) (by rw [← e1]; exact k a c sa sc) (by rw [← e2]; exact k b d sb sd)
    (siz4 (k a c sa sc) (k b c sb sc) (k a d sa sd) (k b d sb sd)) rfl rfl rfl rfl (fun w' vx vy x y hx hy h1 h2 => add_val rfl h1 h2 (Nat.le_trans (siz_or hx sa sb) (by omega)) (Nat.le_trans (siz_or hy sc sd) (by omega))) enter_add hM hT
  rw [anyEq_mem (p := p) (by rw [← e1]; simp), anyEq_mem (p := q) (by rw [← e2]; simp)] at h
  exact h
theorem ended_sub (e1 : a - d = p) (e2 : b - c = q) (hr : IsBox w v1 p q) (hs : IsBox w v2 a b) (ht : IsBox w v3 c d) (sa : siz a ≤ 4100) (sb : siz b ≤ 4100) (sc : siz c ≤ 4100) (sd : siz d ≤ 4100)
    (hM : w.cell? ⟨1, 0, none⟩ = some (.int .i64 mx)) (hT : TabAt 0 Lib.deBruijn64tab w) :
    Calls Tryz.prog 42 #[v1, v2, v3, .func (.func 16) #[] #[]] w (BoolRet w true) := by
  have k : ∀ x y : Rat, siz x ≤ 4100 → siz y ≤ 4100 → siz (x - y) ≤ 536870912 := fun x y hx hy => Nat.le_trans (siz_sub x y) (by omega)
  have h := ended_any (op := fun x y => x - y) (f := 16) hr hs ht (by omega) (by omega) (by omega) (by omega) (by rw [← e1]; exact k a d sa sd) (by rw [← e2]; exact k b c sb sc)
    (siz4 (k a c sa sc) (k b c sb sc) (k a d sa sd) (k b d sb sd)) rfl rfl rfl rfl (fun w' vx vy x y hx hy h1 h2 => sub_val rfl h1 h2 (Nat.le_trans (siz_or hx sa sb) (by omega)) (Nat.le_trans (siz_or hy sc sd) (by omega))) enter_sub hM hT
  rw [anyEq_mem (p := p) (by rw [← e1]; simp), anyEq_mem (p := q) (by rw [← e2]; simp)] at h
  exact h
theorem ended_mul (e1 : leastOf (a * c) [a * d, b * c, b * d] = p) (e2 : greatestOf (a * c) [a * d, b * c, b * d] = q) (hr : IsBox w v1 p q) (hs : IsBox w v2 a b) (ht : IsBox w v3 c d) (sa : siz a ≤ 4100) (sb : siz b ≤ 4100) (sc : siz c ≤ 4100) (sd : siz d ≤ 4100)
    (hM : w.cell? ⟨1, 0, none⟩ = some (.int .i64 mx)) (hT : TabAt 0 Lib.deBruijn64tab w) :
    Calls Tryz.prog 42 #[v1, v2, v3, .func (.func 15) #[] #[]] w (BoolRet w true) := by
  have k : ∀ x y : Rat, siz x ≤ 4100 → siz y ≤ 4100 → siz (x * y) ≤ 536870912 := fun x y hx hy => Nat.le_trans (siz_mul x y) (by omega)
  have h := ended_any (op := fun x y => x * y) (f := 15) hr hs ht (by omega) (by omega) (by omega) (by omega) (siz_l4 e1 (k a c sa sc) (k a d sa sd) (k b c sb sc) (k b d sb sd)) (siz_g4 e2 (k a c sa sc) (k a d sa sd) (k b c sb sc) (k b d sb sd))
    (siz4 (k a c sa sc) (k b c sb sc) (k a d sa sd) (k b d sb sd)) rfl rfl rfl rfl (fun w' vx vy x y hx hy h1 h2 => mul_val' rfl h1 h2 (Nat.le_trans (siz_or hx sa sb) (by omega)) (Nat.le_trans (siz_or hy sc sd) (by omega))) enter_mul hM hT
  have i1 := any_least (a * c) (b * c) (a * d) (b * d)
  have i2 := any_greatest (a * c) (b * c) (a * d) (b * d)
  rw [e1] at i1
  rw [e2] at i2
  rw [i1, i2] at h
  exact h
theorem ended_div (e1 : leastOf (a / c) [a / d, b / c, b / d] = p) (e2 : greatestOf (a / c) [a / d, b / c, b / d] = q) (hr : IsBox w v1 p q) (hs : IsBox w v2 a b) (ht : IsBox w v3 c d) (sa : siz a ≤ 4100) (sb : siz b ≤ 4100) (sc : siz c ≤ 4100) (sd : siz d ≤ 4100)
    (hM : w.cell? ⟨1, 0, none⟩ = some (.int .i64 mx)) (hT : TabAt 0 Lib.deBruijn64tab w) :
    Calls Tryz.prog 42 #[v1, v2, v3, .func (.func 43) #[] #[]] w (BoolRet w true) := by
  have k : ∀ x y : Rat, siz x ≤ 4100 → siz y ≤ 4100 → siz (x / y) ≤ 536870912 := fun x y hx hy => Nat.le_trans (siz_div x y) (by omega)
  have h := ended_any (op := fun x y => x / y) (f := 43) hr hs ht (by omega) (by omega) (by omega) (by omega) (siz_l4 e1 (k a c sa sc) (k a d sa sd) (k b c sb sc) (k b d sb sd)) (siz_g4 e2 (k a c sa sc) (k a d sa sd) (k b c sb sc) (k b d sb sd))
    (siz4 (k a c sa sc) (k b c sb sc) (k a d sa sd) (k b d sb sd)) rfl rfl rfl rfl (fun w' vx vy x y hx hy h1 h2 => overf_val rfl h1 h2 (Nat.le_trans (siz_or hx sa sb) (by omega)) (Nat.le_trans (siz_or hy sc sd) (by omega))) enter_over hM hT
  have i1 := any_least (a / c) (b / c) (a / d) (b / d)
  have i2 := any_greatest (a / c) (b / c) (a / d) (b / d)
  rw [e1] at i1
  rw [e2] at i2
  rw [i1, i2] at h
  exact h
end
end Go.Proofs.YtlffafddmmhbmaaGreatDoor
