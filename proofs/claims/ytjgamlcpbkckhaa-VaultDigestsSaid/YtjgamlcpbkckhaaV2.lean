import Derived.Test.YtjgamlcpbkckhaaV1
import Derived.Test.YtjgamlcpbkckhaaEvZf
set_option linter.all false
open Go Go.Ev Go.RowKit
namespace Go.Ev
set_option maxRecDepth 100000
set_option linter.all false
def dig0 (s : Int) (n : Nat) (b : Nat → Int) : St := startF af_8 [.val (.int .u64 s), rowB n b] [.dead]
def digIx : List Nat := [7, 8, 14, 15, 16, 17, 18, 19, 20, 21, 22, 23, 24, 25, 26, 27, 28, 29, 30, 31]
noncomputable def digSt (s : Int) (n : Nat) (b : Nat → Int) (i h : Int) : St := fgt digIx (put1 13 (.val (.int .i64 i)) (put1 5 (.val (.int .u64 h)) (at_ noC af_8.body 2 (at_ noC af_8.body 1 (at_ noC af_8.body 0 (dig0 s n b))))))
theorem dig_round (s : Int) (n : Nat) (b : Nat → Int) (i : Nat) (h : Int) (LP : ACode → St → (Ex → St → Prop) → Prop) (R : Ex → St → Prop) (hn : (n : Int) < 2 ^ 62)
    (h1 : i < n → ∀ s', fgt digIx s' = digSt s n b ((i : Int) + 1) (digRaw h (b i)) → R .normal s') (h2 : ¬ i < n → R (.exit 0) (at_ noC af_8.body 3 (digSt s n b i h))) :
    AW noC LP lp_8_1 (digSt s n b i h) R := by
  refine aw_reg0 ?_
  refine aw_ifs (decide ((i : Int) < n)) (fun ht => ?_) (fun hf => ?_)
  · have ht : i < n := by simpa using ht
    refine aw_skips ?_
    refine aw_blocks ?_
    refine aw_reg (True ∧ (0 ≤ (i : Int) ∧ (i : Int) < n)) ⟨trivial, Int.natCast_nonneg i, by omega⟩ ?_
    refine aw_reg0 ?_
    refine aw_end (True ∧ (0 ≤ digPre h (b i) ∧ (0 : Int) < 2305843009213693951)) ⟨trivial, wrap_nonneg _, by decide⟩ (blk_normal ?_)
    refine aw_end (True ∧ inRange .i64 ((i : Int) + 1)) ⟨trivial, by simp only [inRange, IntKind.min, IntKind.max, IntKind.signed, IntKind.bits]; omega⟩ ?_
    exact h1 ht _ (by kernel_rfl)
  · exact aw_exits (h2 (by simpa using hf))
end Go.Ev
namespace Go.Ev
theorem digN_range {s : Int} : ∀ bs : List Int, 0 ≤ digN s bs ∧ digN s bs < pr := by
  intro bs
  unfold digN
  have key : ∀ (l : List Int) (h : Int), 0 ≤ h ∧ h < pr → 0 ≤ l.foldl digS h ∧ l.foldl digS h < pr := by
    intro l
    induction l with
    | nil => intro h hh; exact hh
    | cons b l ih => intro h _; exact ih _ digS_range
  exact key bs _ (by unfold pr; omega)
theorem digN_step {s : Int} {n : Nat} {b : Nat → Int} {i : Nat} (hi : i < n) (hb : ∀ i, i < n → 0 ≤ b i ∧ b i < 256) : digRaw (digN s ((List.range i).map b)) (b i) = digN s ((List.range (i + 1)).map b) := by
  obtain ⟨h0, h1⟩ := digN_range (s := s) ((List.range i).map b)
  rw [dig_eq h0 h1 (hb i hi).1 (hb i hi).2, List.range_succ, List.map_append]
  unfold digN
  rw [List.foldl_append]
  rfl
theorem dig_aw (P : Program) (hm : P.follows .mixedOrders = true) (s : Int) (n : Nat) (b : Nat → Int) (K : Cust) (w : World) (hn : (n : Int) < 2 ^ 62) (hs : 0 ≤ s) (hb : ∀ i, i < n → 0 ≤ b i ∧ b i < 256) :
    AW noC (LoopA K P w [.fresh] [.dead]) af_8.body (startF af_8 [.val (.int .u64 s), rowB n b] [.dead]) (EndP false 0 af_8 fun o => o = ⟨none, .val (.int .u64 (digN s ((List.range n).map b))), [], []⟩) := by
  refine aw_reg0 ?_
  refine aw_reg (True ∧ (0 ≤ s ∧ (0 : Int) < 2305843009213693951)) ⟨trivial, hs, by decide⟩ ?_
  refine aw_assoc (aw_reg0 ?_)
  refine aw_loop (ι := { i : Nat // i ≤ n }) hm noC_ok digIx (fun x => digSt s n b x.1 (digN s ((List.range x.1).map b))) (fun x => n - x.1) ⟨0, Nat.zero_le n⟩ (fun x => ?_) (by kernel_rfl)
  obtain ⟨i, hin⟩ := x
  refine dig_round s n b i _ _ _ hn (fun hi s' he => ?_) (fun hi => round_exit (blk_exit ?_))
  · refine round_end digIx ⟨i + 1, hi⟩ (by show n - (i + 1) < n - i; omega) ?_
    rw [he, digN_step hi hb]
    rfl
  · obtain rfl : i = n := by omega
    refine aw_reg0 ?_
    exact aw_ret (endO_p _ rfl (by kernel_rfl))
theorem dig_alone (P : Program) (hm : P.follows .mixedOrders = true) (hf : compF P 8 = some af_8) (s : Int) (n : Nat) (b : Nat → Int) (hn : (n : Int) < 2 ^ 62) (hs : 0 ≤ s) (hb : ∀ i, i < n → 0 ≤ b i ∧ b i < 256) :
    Alone P 8 [.val (.int .u64 s), rowB n b] (.val (.int .u64 (digN s ((List.range n).map b)))) := by
  exact Alone.ofW (cl := noC) (raw := false) hm (fun K => noC_ok) hf fun K w => dig_aw P hm s n b K w hn hs hb
theorem map_getD (ns : List Int) : (List.range ns.length).map (fun i => ns.getD i 0) = ns := by
  apply List.ext_getElem?
  intro i
  rw [List.getElem?_map]
  by_cases h : i < ns.length
  · rw [List.getElem?_range h]
    simp [List.getD_eq_getElem?_getD, h]
  · rw [List.getElem?_eq_none (by simpa using h), List.getElem?_eq_none (by simpa using h)]
    rfl
/-- Digest, as a table of calls may use it -/
noncomputable def digR : List D → List Blk → Nat → Option Out
  | [.val (.int .u64 s), d], hp, _ => match bytesOfD hp d with
    | some ns => match decide (0 ≤ s) && Nat.ble (lenG ns) 1073741824 with
      | true => forceI (digN s ns) fun r => some ⟨none, .val (.int .u64 r), [], []⟩
      | false => none
    | none => none
  | _, _, _ => none
theorem digR_contract (P : Program) (hm : P.follows .mixedOrders = true) (hf : compF P 8 = some af_8) (K : Cust) : Contract K P 8 digR := by
  refine ⟨(fun_ok (K := K) (cl := noC) hm noC_ok hf).1, fun ds hp nid out ho hc w ρ args hk hr hn => ?_⟩
  unfold digR at ho
  split at ho
  · rename_i s d
    split at ho
    · rename_i ns hns
      split at ho
      · rename_i hcond
        rw [forceI_eq] at ho
        obtain rfl := (Option.some.inj ho).symm
        simp only [Bool.and_eq_true, decide_eq_true_eq] at hcond
        have hlen := Nat.le_of_ble_eq_true hcond.2
        rw [lenG_eq] at hlen
        simp only [RepL] at hr
        obtain ⟨v1, _, rfl, hv1, v2, _, rfl, hv2, rfl⟩ := hr
        obtain ⟨g1, g2⟩ := see_bytes hk hv2 hns
        have hA := dig_alone P hm hf s ns.length (fun i => ns.getD i 0) (by omega) hcond.1 g2
        rw [map_getD] at hA
        refine (hA K w [v1, v2] hk.see (by simp only [RepL]; exact ⟨v1, _, rfl, by simpa [Rep] using hv1, v2, _, rfl, g1, rfl⟩)).mono fun e w' hx => ?_
        obtain ⟨v, rfl, hres⟩ := hx
        exact ⟨v, rfl, hres.unsee⟩
      · cases ho
    · cases ho
  · cases ho
end Go.Ev
