import Derived.Test.YtjgamlcpbkckhaaV12
import Derived.Test.YtjgamlcpbkckhaaEvZk
set_option linter.all false
open Go Go.Ev Go.RowKit
namespace Go.Ev
set_option maxRecDepth 100000
set_option linter.all false
def setF (g : Nat → Int) : Nat → D := fun j => .val (.int .u8 (g j))
def lawD (s : Int) (n : Nat) (b : Nat → Int) (a : Nat) (m : Nat) (c : Nat → Int) (t : Int) : List D := [.val (.int .u64 s), rowB n b, .agg [.val (.int .u16 a), rowB m c, .val (.int .u64 t)]]
def law0 (s : Int) (n : Nat) (b : Nat → Int) (a : Nat) (m : Nat) (c : Nat → Int) (t : Int) : St := startF af_5 (lawD s n b a m c t) [.dead]
noncomputable def law1 (s : Int) (n : Nat) (b : Nat → Int) (a : Nat) (m : Nat) (c : Nat → Int) (t : Int) : St :=
  at_ tabD af_5.body 8 (at_ tabD af_5.body 7 (at_ tabD af_5.body 6 (at_ tabD af_5.body 4 (at_ tabD af_5.body 3 (at_ tabD af_5.body 1 (at_ tabD af_5.body 0 (law0 s n b a m c t)))))))
def lawIx : List Nat := [2, 3, 4, 7] ++ (List.range 84).map (· + 11)
noncomputable def law2 (s : Int) (n : Nat) (b : Nat → Int) (a : Nat) (m : Nat) (c : Nat → Int) (t : Int) (i : Nat) (ch : Bool) (F : Nat → D) : St :=
  fgt lawIx (put1 10 (.val (.int .i64 i)) (put1 9 (.val (.bool ch)) (setB 6 (.arr (0 + n) F) (law1 s n b a m c t))))
noncomputable def lawR (s : Int) (n : Nat) (b : Nat → Int) (a : Nat) (m : Nat) (c : Nat → Int) (t : Int) (i : Nat) (ch : Bool) (F : Nat → D) (d0 d1 d2 d3 d4 d5 d6 d7 d8 : D) : St :=
  put1 28 d0 (put1 29 d1 (put1 30 d2 (put1 31 d3 (put1 32 d4 (put1 33 d5 (put1 34 d6 (put1 35 d7 (put1 36 d8 (law2 s n b a m c t i ch F)))))))))
def bytesP (n : Nat) (b : Nat → Int) : Prop := ∀ j, j < n → 0 ≤ b j ∧ b j < 256
theorem law_leaf {s : St} (h : endO false 0 af_5 .ret s = some ⟨none, .val (.bool true), [], []⟩) : EndP false 0 af_5 (fun o => o = ⟨none, .val (.bool true), [], []⟩) .ret s := endO_p _ rfl h
theorem law_rest (P : Program) (K : Cust) (w : World) (s : Int) (n : Nat) (b : Nat → Int) (a : Nat) (m : Nat) (c : Nat → Int) (t : Int) (i : Nat) (ch : Bool) (g : Nat → Int) (d0 d1 d2 d3 d4 d5 d6 d7 d8 : D)
    (hs : 0 ≤ s) (ht : 0 ≤ t) (hn : n ≤ 300) (hb : bytesP n b) (hg : bytesP n g) (hi : i ≤ 7) (hout : ∀ j, j < n → j < a ∨ a + i ≤ j → g j = b j) (hch : ch = true ↔ ∃ j, j < n ∧ g j ≠ b j) :
    AW tabD (LoopA K P w [.fresh] [.dead]) rs_5_6 (lawR s n b a m c t i ch (setF g) d0 d1 d2 d3 d4 d5 d6 d7 d8) (EndP false 0 af_5 fun o => o = ⟨none, .val (.bool true), [], []⟩) := by
  have e0 : 0 + n = n := Nat.zero_add n
  have hd := dig_differ (s := s) (a := a) hb hg (fun j hj h => hout j hj (by omega))
  have hx : ((digN s ((List.range n).map b) != digN s ((List.range (0 + n)).map g)) != ch) = false := by
    rw [e0]
    by_cases h : digN s ((List.range n).map b) = digN s ((List.range n).map g)
    · have : ch = false := by
        cases ch with
        | false => rfl
        | true =>
          obtain ⟨j, hj, hne⟩ := hch.1 rfl
          exact absurd (hd.1 h j hj) hne
      simp [h, this]
    · have : ch = true := hch.2 (Classical.byContradiction fun hne => h (hd.2 fun j hj => Classical.byContradiction fun hh => hne ⟨j, hj, hh⟩))
      simp [h, this]
  have hy : ((digN s ((List.range n).map b) == digN t ((List.range n).map b)) == (s % 2305843009213693951 == t % 2305843009213693951)) = true := by
    have := dig_start (s := s) (t := t) (l := (List.range n).map b)
    unfold pr at this
    by_cases h : digN s ((List.range n).map b) = digN t ((List.range n).map b)
    · simp [h, this.1 h]
    · have h2 : ¬ s % 2305843009213693951 = t % 2305843009213693951 := fun e => h (this.2 e)
      rw [beq_eq_false_iff_ne.2 h, beq_eq_false_iff_ne.2 h2]
      rfl
  refine aw_assoc (aw_reg ((True ∧ (((∀ j, j < n → [D.val (.int .u8 (b j))] = [D.val (.int .u8 (b j))]) ∧ 0 ≤ s) ∧ n ≤ 1000000 ∧ ∀ j, j < n → 0 ≤ b j ∧ b j < 256)) ∧ (((0 + n = 0 + n ∧ ∀ j, j < 0 + n → D.val (.int .u8 (g j)) = D.val (.int .u8 (g j))) ∧ 0 ≤ s) ∧ 0 + n ≤ 1000000 ∧ ∀ j, j < 0 + n → 0 ≤ g j ∧ g j < 256))
    ⟨⟨trivial, ⟨fun _ _ => rfl, hs⟩, by omega, hb⟩, ⟨⟨rfl, fun _ _ => rfl⟩, hs⟩, by omega, by rw [e0]; exact hg⟩ ?_)
  refine aw_ifs ((digN s ((List.range n).map b) != digN s ((List.range (0 + n)).map g)) != ch) (fun h => ?_) (fun _ => ?_)
  · rw [hx] at h; cases h
  refine aw_skips (aw_opens ?_)
  refine awr_testq 16 92 (((((True ∧ (((∀ j, j < n → [D.val (.int .u8 (b j))] = [D.val (.int .u8 (b j))]) ∧ 0 ≤ s) ∧ n ≤ 1000000 ∧ ∀ j, j < n → 0 ≤ b j ∧ b j < 256)) ∧ (((∀ j, j < n → [D.val (.int .u8 (b j))] = [D.val (.int .u8 (b j))]) ∧ 0 ≤ t) ∧ n ≤ 1000000 ∧ ∀ j, j < n → 0 ≤ b j ∧ b j < 256))) ∧ (0 ≤ s ∧ (0 : Int) < 2305843009213693951)) ∧ (0 ≤ t ∧ (0 : Int) < 2305843009213693951))
    ⟨⟨⟨⟨trivial, ⟨fun _ _ => rfl, hs⟩, by omega, hb⟩, ⟨fun _ _ => rfl, ht⟩, by omega, hb⟩, hs, by decide⟩, ht, by decide⟩
    ((digN s ((List.range n).map b) == digN t ((List.range n).map b)) == (s % 2305843009213693951 == t % 2305843009213693951)) (fun _ => ?_) (fun h => ?_)
  · exact awr_end0 (aw_ret (law_leaf (by kernel_rfl)))
  · rw [hy] at h; cases h
end Go.Ev
