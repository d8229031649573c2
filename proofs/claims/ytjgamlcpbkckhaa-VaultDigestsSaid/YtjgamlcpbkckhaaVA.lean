import Derived.Test.YtjgamlcpbkckhaaV12
import Derived.Test.YtjgamlcpbkckhaaEvZk
set_option linter.all false
open Go Go.Ev Go.RowKit
namespace Go.Ev
set_option maxRecDepth 100000
set_option linter.all false
def dblW (a : Int) : Int := IntKind.u64.wrap (a + a) % 2305843009213693951
def timesR (a : Int) : Int := IntKind.u64.wrap (IntKind.u64.wrap (0 + a) % 2305843009213693951 + dblW (dblW (dblW (dblW (dblW (dblW (dblW (dblW a)))))))) % 2305843009213693951
theorem dblW_eq {a : Int} (h0 : 0 ≤ a) (h1 : a < pr) : dblW a = (2 * a) % pr := by
  unfold dblW pr at *
  rw [IntKind.wrap_u64]
  congr 1
  omega
theorem mod_in {x : Int} : 0 ≤ x % pr ∧ x % pr < pr := emod_pr
theorem mul_mod (k x : Int) : (k * (x % pr)) % pr = (k * x) % pr := by rw [Int.mul_emod, Int.emod_emod, ← Int.mul_emod]
theorem dblW_mod {x : Int} : dblW (x % pr) = (2 * x) % pr := by rw [dblW_eq mod_in.1 mod_in.2, mul_mod]
theorem timesR_eq {a : Int} (h0 : 0 ≤ a) (h1 : a < pr) : timesR a = (a * 257) % pr := by
  unfold timesR
  rw [dblW_eq h0 h1, dblW_mod, dblW_mod, dblW_mod, dblW_mod, dblW_mod, dblW_mod, dblW_mod]
  have e1 : IntKind.u64.wrap (0 + a) % 2305843009213693951 = a % pr := by
    unfold pr at *
    rw [IntKind.wrap_u64]
    congr 1
    omega
  rw [e1]
  have hx := mod_in (x := a)
  have hy := mod_in (x := 2 * (2 * (2 * (2 * (2 * (2 * (2 * (2 * a))))))))
  have e2 : IntKind.u64.wrap (a % pr + 2 * (2 * (2 * (2 * (2 * (2 * (2 * (2 * a))))))) % pr) = a % pr + 2 * (2 * (2 * (2 * (2 * (2 * (2 * (2 * a))))))) % pr := by
    generalize a % pr = x at *
    generalize 2 * (2 * (2 * (2 * (2 * (2 * (2 * (2 * a))))))) % pr = y at *
    unfold pr at *
    rw [IntKind.wrap_u64]
    omega
  rw [e2]
  show (a % pr + 2 * (2 * (2 * (2 * (2 * (2 * (2 * (2 * a))))))) % pr) % pr = _
  rw [← Int.add_emod]
  congr 1
  omega
theorem tq {x : Int} : True ∧ (0 ≤ IntKind.u64.wrap x ∧ (0 : Int) < 2305843009213693951) := ⟨trivial, wrap_nonneg _, by decide⟩
theorem times_aw (P : Program) (hm : P.follows .mixedOrders = true) (a : Int) (K : Cust) (w : World) :
    AW noC (LoopA K P w [.fresh] [.dead]) af_26.body (startF af_26 [.val (.int .u64 a), .val (.int .u64 257)] [.dead]) (EndP false 0 af_26 fun o => o = ⟨none, .val (.int .u64 (timesR a)), [], []⟩) := by
  refine aw_reg0 (aw_reg0 ?_)
  refine aw_unroll 10 hm noC_ok (unr_step ?_)
  refine aw_assoc (aw_reg0 (aw_yes (aw_skips (aw_blocks (aw_assoc (aw_reg0 (aw_yes ?_)))))))
  refine aw_reg (True ∧ (0 ≤ IntKind.u64.wrap (0 + a) ∧ (0 : Int) < 2305843009213693951)) tq (aw_end (True ∧ (0 ≤ IntKind.u64.wrap (a + a) ∧ (0 : Int) < 2305843009213693951)) tq (blk_normal (seq_normal (aw_end0 (unr_next (unr_step ?_))))))
  refine aw_assoc (aw_reg0 (aw_yes (aw_skips (aw_blocks (aw_assoc (aw_reg0 (aw_no (aw_skips ?_))))))))
  refine aw_end (True ∧ (0 ≤ IntKind.u64.wrap (dblW a + dblW a) ∧ (0 : Int) < 2305843009213693951)) tq (blk_normal (seq_normal (aw_end0 (unr_next (unr_step ?_)))))
  refine aw_assoc (aw_reg0 (aw_yes (aw_skips (aw_blocks (aw_assoc (aw_reg0 (aw_no (aw_skips ?_))))))))
  refine aw_end (True ∧ (0 ≤ IntKind.u64.wrap (dblW (dblW a) + dblW (dblW a)) ∧ (0 : Int) < 2305843009213693951)) tq (blk_normal (seq_normal (aw_end0 (unr_next (unr_step ?_)))))
  refine aw_assoc (aw_reg0 (aw_yes (aw_skips (aw_blocks (aw_assoc (aw_reg0 (aw_no (aw_skips ?_))))))))
  refine aw_end (True ∧ (0 ≤ IntKind.u64.wrap (dblW (dblW (dblW a)) + dblW (dblW (dblW a))) ∧ (0 : Int) < 2305843009213693951)) tq (blk_normal (seq_normal (aw_end0 (unr_next (unr_step ?_)))))
  refine aw_assoc (aw_reg0 (aw_yes (aw_skips (aw_blocks (aw_assoc (aw_reg0 (aw_no (aw_skips ?_))))))))
  refine aw_end (True ∧ (0 ≤ IntKind.u64.wrap (dblW (dblW (dblW (dblW a))) + dblW (dblW (dblW (dblW a)))) ∧ (0 : Int) < 2305843009213693951)) tq (blk_normal (seq_normal (aw_end0 (unr_next (unr_step ?_)))))
  refine aw_assoc (aw_reg0 (aw_yes (aw_skips (aw_blocks (aw_assoc (aw_reg0 (aw_no (aw_skips ?_))))))))
  refine aw_end (True ∧ (0 ≤ IntKind.u64.wrap (dblW (dblW (dblW (dblW (dblW a)))) + dblW (dblW (dblW (dblW (dblW a))))) ∧ (0 : Int) < 2305843009213693951)) tq (blk_normal (seq_normal (aw_end0 (unr_next (unr_step ?_)))))
  refine aw_assoc (aw_reg0 (aw_yes (aw_skips (aw_blocks (aw_assoc (aw_reg0 (aw_no (aw_skips ?_))))))))
  refine aw_end (True ∧ (0 ≤ IntKind.u64.wrap (dblW (dblW (dblW (dblW (dblW (dblW a))))) + dblW (dblW (dblW (dblW (dblW (dblW a)))))) ∧ (0 : Int) < 2305843009213693951)) tq (blk_normal (seq_normal (aw_end0 (unr_next (unr_step ?_)))))
  refine aw_assoc (aw_reg0 (aw_yes (aw_skips (aw_blocks (aw_assoc (aw_reg0 (aw_no (aw_skips ?_))))))))
  refine aw_end (True ∧ (0 ≤ IntKind.u64.wrap (dblW (dblW (dblW (dblW (dblW (dblW (dblW a)))))) + dblW (dblW (dblW (dblW (dblW (dblW (dblW a))))))) ∧ (0 : Int) < 2305843009213693951)) tq (blk_normal (seq_normal (aw_end0 (unr_next (unr_step ?_)))))
  refine aw_assoc (aw_reg0 (aw_yes (aw_skips (aw_blocks (aw_assoc (aw_reg0 (aw_yes ?_)))))))
  refine aw_reg (True ∧ (0 ≤ IntKind.u64.wrap (IntKind.u64.wrap (0 + a) % 2305843009213693951 + dblW (dblW (dblW (dblW (dblW (dblW (dblW (dblW a)))))))) ∧ (0 : Int) < 2305843009213693951)) tq (aw_end (True ∧ (0 ≤ IntKind.u64.wrap (dblW (dblW (dblW (dblW (dblW (dblW (dblW (dblW a))))))) + dblW (dblW (dblW (dblW (dblW (dblW (dblW (dblW a)))))))) ∧ (0 : Int) < 2305843009213693951)) tq (blk_normal (seq_normal (aw_end0 (unr_next (unr_step ?_))))))
  refine aw_assoc (aw_reg0 (aw_no (aw_exits (unr_exit (blk_exit (seq_normal ?_))))))
  exact aw_reg0 (aw_ret (endO_p _ rfl (by kernel_rfl)))
theorem times_alone (P : Program) (hm : P.follows .mixedOrders = true) (hf : compF P 26 = some af_26) (a : Int) (h0 : 0 ≤ a) (h1 : a < pr) : Alone P 26 [.val (.int .u64 a), .val (.int .u64 257)] (.val (.int .u64 ((a * 257) % pr))) := by
  rw [← timesR_eq h0 h1]
  exact Alone.ofW (cl := noC) (raw := false) hm (fun K => noC_ok) hf fun K w => times_aw P hm a K w
/-- the reference's product by 257, as a table of calls may use it -/
noncomputable def timF : List D → List Blk → Nat → Option Out
  | [.val (.int .u64 a), .val (.int .u64 257)], _, _ => some ⟨some (0 ≤ a ∧ a < pr), .val (.int .u64 ((a * 257) % pr)), [], []⟩
  | _, _, _ => none
end Go.Ev

open Go Go.Ev Go.RowKit
namespace Go.Ev
set_option maxRecDepth 100000
set_option linter.all false
theorem timF_contract {P : Program} (hm : P.follows .mixedOrders = true) (hf : compF P 26 = some af_26) (K : Cust) : Contract K P 26 timF := by
  refine ⟨(fun_ok (K := K) (cl := noC) hm noC_ok hf).1, fun ds hp nid out ho hc w ρ args hk hr hn => ?_⟩
  unfold timF at ho
  split at ho
  · rename_i a
    obtain rfl := (Option.some.inj ho).symm
    obtain ⟨h0, h1⟩ := hc _ rfl
    simp only [RepL] at hr
    obtain ⟨v1, _, rfl, hv1, v2, _, rfl, hv2, rfl⟩ := hr
    refine (times_alone P hm hf a h0 h1 K w [v1, v2] hk.see (by simp only [RepL]; exact ⟨v1, _, rfl, by simpa [Rep] using hv1, v2, _, rfl, by simpa [Rep] using hv2, rfl⟩)).mono fun e w' hx => ?_
    obtain ⟨v, rfl, hres⟩ := hx
    exact ⟨v, rfl, hres.unsee⟩
  · cases ho
def refRaw (h b : Int) : Int := IntKind.u64.wrap (IntKind.u64.wrap ((h * 257) % pr + IntKind.u64.wrap b) + 1) % 2305843009213693951
theorem refRaw_eq {h b : Int} (b0 : 0 ≤ b) (b1 : b < 256) : refRaw h b = digS h b := by
  unfold refRaw digS
  have hx := mod_in (x := h * 257)
  have e : IntKind.u64.wrap (IntKind.u64.wrap ((h * 257) % pr + IntKind.u64.wrap b) + 1) = (h * 257) % pr + (b + 1) := by
    generalize (h * 257) % pr = x at *
    unfold pr at *
    rw [IntKind.wrap_u64, IntKind.wrap_u64, IntKind.wrap_u64]
    omega
  rw [e]
  show ((h * 257) % pr + (b + 1)) % pr = _
  rw [Int.emod_add_emod, Int.add_assoc]
noncomputable def tabR : FuncId → List D → List Blk → Nat → Option Out := oneCl 26 timF
def refIx : List Nat := [7, 8, 9, 10, 11, 12, 13, 14, 15, 16, 17, 18, 19, 20, 21, 22, 23, 24, 25]
def ref0 (s : Int) (n : Nat) (b : Nat → Int) : St := startF af_9 [.val (.int .u64 s), rowB n b] [.dead]
noncomputable def refSt (s : Int) (n : Nat) (b : Nat → Int) (i h : Int) : St :=
  fgt refIx (put1 6 (.val (.int .i64 i)) (put1 5 (.val (.int .u64 h)) (at_ tabR af_9.body 2 (at_ tabR af_9.body 1 (at_ tabR af_9.body 0 (ref0 s n b))))))
theorem ref_aw (P : Program) (hm : P.follows .mixedOrders = true) (K : Cust) (hcl : ClOK K P tabR) (w : World) (s : Int) (n : Nat) (b : Nat → Int) (hn : n ≤ 1000000) (hs : 0 ≤ s) (hb : (∀ i, i < n → 0 ≤ b i ∧ b i < 256)) :
    AW tabR (LoopA K P w [.fresh] [.dead]) af_9.body (startF af_9 [.val (.int .u64 s), rowB n b] [.dead]) (EndP false 0 af_9 fun o => o = ⟨none, .val (.int .u64 (digN s ((List.range n).map b))), [], []⟩) := by
  refine aw_reg0 ?_
  refine aw_reg (True ∧ (0 ≤ s ∧ (0 : Int) < 2305843009213693951)) ⟨trivial, hs, by decide⟩ ?_
  refine aw_assoc (aw_reg0 ?_)
  refine aw_loop (ι := { i : Nat // i ≤ n }) hm hcl refIx (fun x => refSt s n b x.1 (digN s ((List.range x.1).map b))) (fun x => n - x.1) ⟨0, Nat.zero_le n⟩ (fun x => ?_) (by kernel_rfl)
  obtain ⟨i, hin⟩ := x
  refine aw_assoc (aw_reg0 ?_)
  refine aw_ifs (decide ((i : Int) < n)) (fun ht => ?_) (fun hf => ?_)
  · have ht : i < n := by simpa using ht
    obtain ⟨h0, h1⟩ := digN_range (s := s) ((List.range i).map b)
    refine aw_skips (aw_blocks ?_)
    refine aw_end (((True ∧ (0 ≤ digN s ((List.range i).map b) ∧ digN s ((List.range i).map b) < pr)) ∧ (0 ≤ (i : Int) ∧ (i : Int) < n)) ∧ (0 ≤ IntKind.u64.wrap (IntKind.u64.wrap ((digN s ((List.range i).map b) * 257) % pr + IntKind.u64.wrap (b i)) + 1) ∧ (0 : Int) < 2305843009213693951))
      ⟨⟨⟨trivial, h0, h1⟩, by omega, by omega⟩, wrap_nonneg _, by decide⟩ (blk_normal (seq_normal ?_))
    refine aw_end (True ∧ inRange .i64 ((i : Int) + 1)) ⟨trivial, by simp only [inRange, IntKind.min, IntKind.max, IntKind.signed, IntKind.bits]; omega⟩ ?_
    refine round_endT (st := fun x : { i : Nat // i ≤ n } => refSt s n b x.1 (digN s ((List.range x.1).map b))) 1 refIx ⟨i + 1, ht⟩ (by show n - (i + 1) < n - i; omega) ((∀ j, j < n → True ∧ True) ∧ True) True ⟨fun _ _ => ⟨trivial, trivial⟩, trivial⟩ trivial ?_ (by kernel_rfl) (by kernel_rfl) (by kernel_rfl) (by kernel_rfl)
    have e : digN s ((List.range (i + 1)).map b) = refRaw (digN s ((List.range i).map b)) (b i) := by
      rw [refRaw_eq (hb i ht).1 (hb i ht).2, List.range_succ, List.map_append]
      unfold digN
      rw [List.foldl_append]
      rfl
    show _ = refSt s n b ((i + 1 : Nat) : Int) (digN s ((List.range (i + 1)).map b))
    rw [e]
    kernel_rfl
  · have hf : i = n := by
      have : ¬ i < n := by simpa using hf
      omega
    subst hf
    refine aw_exits (round_exit (blk_exit (seq_normal (aw_reg0 (aw_ret (endO_p _ rfl (by kernel_rfl)))))))
theorem ref_alone (P : Program) (hm : P.follows .mixedOrders = true) (hf : compF P 9 = some af_9) (hf2 : compF P 26 = some af_26) (s : Int) (n : Nat) (b : Nat → Int) (hn : n ≤ 1000000) (hs : 0 ≤ s) (hb : (∀ i, i < n → 0 ≤ b i ∧ b i < 256)) :
    Alone P 9 [.val (.int .u64 s), rowB n b] (.val (.int .u64 (digN s ((List.range n).map b)))) :=
  Alone.ofW (cl := tabR) (raw := false) hm (fun K => ClOK.one (timF_contract hm hf2 K)) hf fun K w => ref_aw P hm K (ClOK.one (timF_contract hm hf2 K)) w s n b hn hs hb
end Go.Ev

open Go Go.Ev Go.RowKit
namespace Go.Ev
set_option maxRecDepth 100000
set_option linter.all false
def rcIx : List Nat := [7, 8, 9, 10, 11, 12, 13, 14, 15, 16, 17, 18, 19, 20, 21, 22, 23, 24, 25, 26, 27, 28]
def rcF (s : Int) (b : Nat → Int) (j : Nat) : D := .val (.int .u8 (cipB s b j))
noncomputable def rcSt (s : Int) (n : Nat) (b : Nat → Int) (i : Nat) (k : Int) : St :=
  put1 6 (.val (.int .i64 i)) (put1 5 (.sl 1 0 i 1 none) (put1 0 (.val (.int .u64 k)) (reb 1 (.arr i (rcF s b)) (gather 1 1 (fgt rcIx (at_ noC af_13.body 2 (at_ noC af_13.body 1 (at_ noC af_13.body 0 (startF af_13 [.val (.int .u64 s), rowB n b] [.dead]))))))))) 
theorem rc_cat {s : Int} {b : Nat → Int} {i j : Nat} (h : j < i + 1) : catF i (rcF s b) (getK [.val (.int .u8 (cipRaw (kNext (kAt s i)) (b i)))]) j = rcF s b j := by
  unfold catF
  cases h0 : Nat.beq i 0 with
  | true =>
    obtain rfl := Nat.eq_of_beq_eq_true h0
    obtain rfl : j = 0 := by omega
    rfl
  | false =>
    cases h1 : Nat.ble (j + 1) i with
    | true => simp only [h1]
    | false =>
      have : j = i := by
        have h2 : ¬ j + 1 ≤ i := fun h => by rw [Nat.ble_eq_true_of_le h] at h1; cases h1
        omega
      subst this
      simp only [h1, Nat.sub_self]
      rfl
theorem rc_aw (P : Program) (hm : P.follows .mixedOrders = true) (s : Int) (n : Nat) (b : Nat → Int) (K : Cust) (w : World) (hn : n ≤ 1000000) :
    AW noC (LoopA K P w [.fresh] [.dead]) af_13.body (startF af_13 [.val (.int .u64 s), rowB n b] [.dead]) (EndA false 0 af_13 fun o => o = ⟨none, .sl 0 0 n 1 none, [(0, .cells (tabL n fun j => .val (.int .u8 (cipB s b j))))], []⟩) := by
  refine aw_reg0 (aw_reg0 (aw_assoc (aw_reg0 ?_)))
  refine aw_loopW (ι := { i : Nat // i ≤ n }) hm noC_ok (fun x => rcSt s n b x.1 (kAt s x.1)) (fun x => n - x.1) ⟨0, Nat.zero_le n⟩ (fun x => ?_)
    (wkGR 1 1 rcIx (.cells []) (.arr 0 (rcF s b)) ((∀ j, j < n → True ∧ True) ∧ True) True True ⟨fun _ _ => ⟨trivial, trivial⟩, trivial⟩ trivial trivial blk_empty (by kernel_rfl) (by kernel_rfl) (by kernel_rfl) (by kernel_rfl) (by kernel_rfl) (by kernel_rfl) (by kernel_rfl))
  obtain ⟨i, hin⟩ := x
  refine aw_assoc (aw_reg0 ?_)
  refine aw_ifs (decide ((i : Int) < n)) (fun ht => ?_) (fun hf => ?_)
  · have ht : i < n := by simpa using ht
    refine aw_skips (aw_blocks (aw_reg0 ?_))
    refine aw_end ((True ∧ (0 ≤ (i : Int) ∧ (i : Int) < n)) ∧ (i * 1 = i ∧ True ∧ i + 1 ≤ 1048576)) ⟨⟨trivial, by omega, by omega⟩, by omega, trivial, by omega⟩ (blk_normal (seq_normal ?_))
    refine aw_end (True ∧ inRange .i64 ((i : Int) + 1)) ⟨trivial, by simp only [inRange, IntKind.min, IntKind.max, IntKind.signed, IntKind.bits]; omega⟩ ?_
    refine round_endW (st := fun x : { i : Nat // i ≤ n } => rcSt s n b x.1 (kAt s x.1)) ⟨i + 1, ht⟩ (by show n - (i + 1) < n - i; omega)
      (wkGR 1 3 rcIx (.arr (i + 1) (catF i (rcF s b) (getK [.val (.int .u8 (cipRaw (kNext (kAt s i)) (b i)))]))) (.arr (i + 1) (rcF s b)) ((∀ j, j < n → True ∧ True) ∧ True) True (∀ j, j < i + 1 → needD 1 (catF i (rcF s b) (getK [.val (.int .u8 (cipRaw (kNext (kAt s i)) (b i)))]) j))
        ⟨fun _ _ => ⟨trivial, trivial⟩, trivial⟩ trivial (fun j hj => by rw [rc_cat hj]; simp only [rcF, needD]) (blk_congr fun j hj => rc_cat hj) (by kernel_rfl) (by kernel_rfl) (by kernel_rfl) (by kernel_rfl) (by kernel_rfl) (by kernel_rfl) (by kernel_rfl))
  · have hf : i = n := by
      have : ¬ i < n := by simpa using hf
      omega
    refine aw_exits (round_exit (blk_exit (seq_normal (aw_reg0 (aw_ret ?_)))))
    subst hf
    exact end_arr (id := 1) (off := 0) (n := i) (k := 1) (m := i) (f := rcF s b) (t := 4) (fun j _ => ⟨_, rfl⟩) rfl rfl rfl (by kernel_rfl) (by kernel_rfl) (by kernel_rfl) (by kernel_rfl)
theorem rc_alone (P : Program) (hm : P.follows .mixedOrders = true) (hf : compF P 13 = some af_13) (s : Int) (n : Nat) (b : Nat → Int) (hn : n ≤ 1000000) : AloneA P 13 [.val (.int .u64 s), rowB n b] n 1 n fun j => .int .u8 (cipB s b j) :=
  AloneA.ofW (cl := noC) hm (fun K => noC_ok) hf fun K w => rc_aw P hm s n b K w hn
end Go.Ev

