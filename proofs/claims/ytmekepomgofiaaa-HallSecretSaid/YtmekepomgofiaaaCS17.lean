import Derived.Test.YtmekepomgofiaaaCS16
import Derived.Test.YtmekepomgofiaaaCS15
set_option linter.all false
section
open Go Go.Ev Go.RowKit
namespace Go.Ev
set_option maxRecDepth 100000
set_option linter.all false
def runsR : D → Option (Prop × Nat × (Nat → Run))
  | .ref [d] 0 => runsO d
  | _ => none
theorem runsR_less {d : D} {p : Prop} {n : Nat} {f : Nat → Run} (h : runsR d = some (p, n, f)) (hp : p) : LessD d (.ref [rowR n f] 0) := by
  unfold runsR at h
  split at h
  · exact lessC (less_cons (runsO_less h hp) (Less.refl _))
  · cases h

theorem b3_alone (n : Nat) (x : Nat → Run) (hr : lateC n x) (hn : n ≤ 1000000) : Alone PG 82 [.ref [rowR n x] 0] (.agg (breD (timeB n x))) :=
  Alone.ofW (cl := T90) (raw := false) hm0 T90_ok cf_82 fun K w => by
    refine aw_reg0 (aw_reg (True ∧ (∀ (i : Nat), i < n → runD (x i) = runD (x i)) ∧ lateC n x ∧ n ≤ (1000000 : Nat)) (by ((try simp only [inRange_i64] at *); (try simp only [implies_true, and_self, true_and, and_true]); (repeat' (with_reducible apply And.intro)) <;> first | exact True.intro | exact fun _ _ => rfl | omega | assumption | (intros; simp [freeL, freeD]; done))) (aw_ret (end_d (D.agg [D.val (Value.int IntKind.u8 (timeB n x).rule), D.val (Value.int IntKind.i64 (timeB n x).a), D.val (Value.int IntKind.i64 (timeB n x).b), D.val (Value.int IntKind.i64 (timeB n x).hour)]) ?_)))
    rfl

def R82 : List D → Option (Option Prop × D)
  | [d0] => match runsR d0 with
    | some (p, n, x) => some (some (p ∧ lateC n x ∧ n ≤ 1000000), .agg (breD (timeB n x)))
    | _ => none
  | _ => none
noncomputable def T82 := orCl (seeC 82 R82) T90
theorem T82_ok (K : Cust) : ClOK K PG T82 := tab_see cf_82 (fun ds p d h hp => by
    unfold R82 at h
    split at h
    · split at h
      · rename_i e0
        cases h
        obtain ⟨h1, h2, h3⟩ := hp _ rfl
        exact ⟨_, less_cons (runsR_less e0 h1) (Less.refl _), b3_alone _ _ h2 h3⟩
      · cases h
    · cases h) (T90_ok K)
theorem b84_alone (h : Hall) (n : Nat) (x : Nat → Run) (hin : inC h.n n x) (hn : n ≤ 1000000 ∧ h.n ≤ 1000000) : Alone PG 84 [.ref [rowR n x] 0, .ref [.fn 80 [] [.ref (hallD h) 0]] 0] (.agg (breD (hourB 2 (staffP h) n x))) :=
  Alone.ofW (cl := T82) (raw := false) hm0 T82_ok cf_84 fun K w => by
    refine aw_reg0 (aw_reg (True ∧ (∀ (i : Nat), i < n → runD (x i) = runD (x i)) ∧ ((∀ (i : Nat), i < h.n → [i6 (h.st i)] = [i6 (h.st i)]) ∧ ∀ (i : Nat), i < h.m → [i6 (h.en i)] = [i6 (h.en i)]) ∧ inC h.n n x ∧ n ≤ (1000000 : Nat) ∧ h.n ≤ (1000000 : Nat)) (by ((try simp only [inRange_i64] at *); (try simp only [implies_true, and_self, true_and, and_true]); (repeat' (with_reducible apply And.intro)) <;> first | exact True.intro | exact fun _ _ => rfl | omega | assumption | (intros; simp [freeL, freeD]; done))) (aw_ret (end_d (D.agg [D.val (Value.int IntKind.u8 (hourB (2 : Int) (staffP h) n x).rule), D.val (Value.int IntKind.i64 (hourB (2 : Int) (staffP h) n x).a), D.val (Value.int IntKind.i64 (hourB (2 : Int) (staffP h) n x).b), D.val (Value.int IntKind.i64 (hourB (2 : Int) (staffP h) n x).hour)]) ?_)))
    rfl

def R84 : List D → Option (Option Prop × D)
  | [d0, .ref [.fn 80 [] [d1]] 0] => match runsR d0, hallR d1 with
    | some (p, n, x), some (q, h) => some (some (p ∧ q ∧ inC h.n n x ∧ n ≤ 1000000 ∧ h.n ≤ 1000000), .agg (breD (hourB 2 (staffP h) n x)))
    | _, _ => none
  | _ => none
noncomputable def T84 := orCl (seeC 84 R84) T82
theorem T84_ok (K : Cust) : ClOK K PG T84 := tab_see cf_84 (fun ds p d h hp => by
    unfold R84 at h
    split at h
    · split at h
      · rename_i e0 e1
        cases h
        obtain ⟨h1, h2, h3, h4⟩ := hp _ rfl
        exact ⟨_, less_cons (runsR_less e0 h1) (less_cons (lessC (less_cons (less_fn (Less.refl _) (less_cons (hallR_less e1 h2) (Less.refl _))) (Less.refl _))) (Less.refl _)), b84_alone _ _ _ h3 h4⟩
      · cases h
    · cases h) (T82_ok K)
theorem b86_alone (h : Hall) (n : Nat) (x : Nat → Run) (hin : inC h.m n x) (hn : n ≤ 1000000 ∧ h.m ≤ 1000000) : Alone PG 86 [.ref [rowR n x] 0, .ref [.fn 81 [] [.ref (hallD h) 0]] 0] (.agg (breD (hourB 3 (weakP h) n x))) :=
  Alone.ofW (cl := T84) (raw := false) hm0 T84_ok cf_86 fun K w => by
    refine aw_reg0 (aw_reg (True ∧ (∀ (i : Nat), i < n → runD (x i) = runD (x i)) ∧ ((∀ (i : Nat), i < h.n → [i6 (h.st i)] = [i6 (h.st i)]) ∧ ∀ (i : Nat), i < h.m → [i6 (h.en i)] = [i6 (h.en i)]) ∧ inC h.m n x ∧ n ≤ (1000000 : Nat) ∧ h.m ≤ (1000000 : Nat)) (by ((try simp only [inRange_i64] at *); (try simp only [implies_true, and_self, true_and, and_true]); (repeat' (with_reducible apply And.intro)) <;> first | exact True.intro | exact fun _ _ => rfl | omega | assumption | (intros; simp [freeL, freeD]; done))) (aw_ret (end_d (D.agg [D.val (Value.int IntKind.u8 (hourB (3 : Int) (weakP h) n x).rule), D.val (Value.int IntKind.i64 (hourB (3 : Int) (weakP h) n x).a), D.val (Value.int IntKind.i64 (hourB (3 : Int) (weakP h) n x).b), D.val (Value.int IntKind.i64 (hourB (3 : Int) (weakP h) n x).hour)]) ?_)))
    rfl

def R86 : List D → Option (Option Prop × D)
  | [d0, .ref [.fn 81 [] [d1]] 0] => match runsR d0, hallR d1 with
    | some (p, n, x), some (q, h) => some (some (p ∧ q ∧ inC h.m n x ∧ n ≤ 1000000 ∧ h.m ≤ 1000000), .agg (breD (hourB 3 (weakP h) n x)))
    | _, _ => none
  | _ => none
noncomputable def T86 := orCl (seeC 86 R86) T84
theorem T86_ok (K : Cust) : ClOK K PG T86 := tab_see cf_86 (fun ds p d h hp => by
    unfold R86 at h
    split at h
    · split at h
      · rename_i e0 e1
        cases h
        obtain ⟨h1, h2, h3, h4⟩ := hp _ rfl
        exact ⟨_, less_cons (runsR_less e0 h1) (less_cons (lessC (less_cons (less_fn (Less.refl _) (less_cons (hallR_less e1 h2) (Less.refl _))) (Less.refl _))) (Less.refl _)), b86_alone _ _ _ h3 h4⟩
      · cases h
    · cases h) (T84_ok K)
theorem b87_alone (h : Hall) (n : Nat) (x : Nat → Run) (hc : -1000000 ≤ h.cl ∧ h.cl ≤ 1000000) (hs : ∀ i, i < n → smallR (x i)) (hn : n ≤ 1000000) : Alone PG 87 [.ref (hallD h) 0, .ref [rowR n x] 0] (.agg (breD (tunB h n x))) :=
  Alone.ofW (cl := T86) (raw := false) hm0 T86_ok cf_87 fun K w => by
    refine aw_reg0 (aw_reg (True ∧ ((∀ (i : Nat), i < h.n → [i6 (h.st i)] = [i6 (h.st i)]) ∧ ∀ (i : Nat), i < h.m → [i6 (h.en i)] = [i6 (h.en i)]) ∧ (∀ (i : Nat), i < n → runD (x i) = runD (x i)) ∧ ((-1000000 : Int) ≤ h.cl ∧ h.cl ≤ (1000000 : Int)) ∧ (∀ (i : Nat), i < n → smallR (x i)) ∧ n ≤ (1000000 : Nat)) (by ((try simp only [inRange_i64] at *); (try simp only [implies_true, and_self, true_and, and_true]); (repeat' (with_reducible apply And.intro)) <;> first | exact True.intro | exact fun _ _ => rfl | omega | assumption | (intros; simp [freeL, freeD]; done))) (aw_ret (end_d (D.agg [D.val (Value.int IntKind.u8 (tunB h n x).rule), D.val (Value.int IntKind.i64 (tunB h n x).a), D.val (Value.int IntKind.i64 (tunB h n x).b), D.val (Value.int IntKind.i64 (tunB h n x).hour)]) ?_)))
    rfl

def R87 : List D → Option (Option Prop × D)
  | [d0, d1] => match hallR d0, runsR d1 with
    | some (p, h), some (q, n, x) => some (some (p ∧ q ∧ (-1000000 ≤ h.cl ∧ h.cl ≤ 1000000) ∧ (∀ i, i < n → smallR (x i)) ∧ n ≤ 1000000), .agg (breD (tunB h n x)))
    | _, _ => none
  | _ => none
noncomputable def T87 := orCl (seeC 87 R87) T86
theorem T87_ok (K : Cust) : ClOK K PG T87 := tab_see cf_87 (fun ds p d h hp => by
    unfold R87 at h
    split at h
    · split at h
      · rename_i e0 e1
        cases h
        obtain ⟨h1, h2, h3, h4, h5⟩ := hp _ rfl
        exact ⟨_, less_cons (hallR_less e0 h1) (less_cons (runsR_less e1 h2) (Less.refl _)), b87_alone _ _ _ h3 h4 h5⟩
      · cases h
    · cases h) (T86_ok K)
theorem b89_alone (h : Hall) (n : Nat) (x : Nat → Run) (hx : prepC h.n n x) (hn : n ≤ 1000000 ∧ h.n ≤ 1000000) : Alone PG 89 [.ref (hallD h) 0, .ref [rowR n x] 0] (.agg (breD (roomB h n x))) :=
  Alone.ofW (cl := T87) (raw := false) hm0 T87_ok cf_89 fun K w => by
    refine aw_reg0 (aw_reg (True ∧ ((∀ (i : Nat), i < h.n → [i6 (h.st i)] = [i6 (h.st i)]) ∧ ∀ (i : Nat), i < h.m → [i6 (h.en i)] = [i6 (h.en i)]) ∧ (∀ (i : Nat), i < n → runD (x i) = runD (x i)) ∧ prepC h.n n x ∧ n ≤ (1000000 : Nat) ∧ h.n ≤ (1000000 : Nat)) (by ((try simp only [inRange_i64] at *); (try simp only [implies_true, and_self, true_and, and_true]); (repeat' (with_reducible apply And.intro)) <;> first | exact True.intro | exact fun _ _ => rfl | omega | assumption | (intros; simp [freeL, freeD]; done))) (aw_ret (end_d (D.agg [D.val (Value.int IntKind.u8 (roomB h n x).rule), D.val (Value.int IntKind.i64 (roomB h n x).a), D.val (Value.int IntKind.i64 (roomB h n x).b), D.val (Value.int IntKind.i64 (roomB h n x).hour)]) ?_)))
    rfl

def R89 : List D → Option (Option Prop × D)
  | [d0, d1] => match hallR d0, runsR d1 with
    | some (p, h), some (q, n, x) => some (some (p ∧ q ∧ prepC h.n n x ∧ n ≤ 1000000 ∧ h.n ≤ 1000000), .agg (breD (roomB h n x)))
    | _, _ => none
  | _ => none
noncomputable def T89 := orCl (seeC 89 R89) T87
theorem T89_ok (K : Cust) : ClOK K PG T89 := tab_see cf_89 (fun ds p d h hp => by
    unfold R89 at h
    split at h
    · split at h
      · rename_i e0 e1
        cases h
        obtain ⟨h1, h2, h3, h4⟩ := hp _ rfl
        exact ⟨_, less_cons (hallR_less e0 h1) (less_cons (runsR_less e1 h2) (Less.refl _)), b89_alone _ _ _ h3 h4⟩
      · cases h
    · cases h) (T87_ok K)
def breB (h : Hall) (n : Nat) (x : Nat → Run) : Bre :=
  if (timeB n x).rule ≠ 0 then timeB n x else if (hourB 2 (staffP h) n x).rule ≠ 0 then hourB 2 (staffP h) n x else if (hourB 3 (weakP h) n x).rule ≠ 0 then hourB 3 (weakP h) n x else
  if (tunB h n x).rule ≠ 0 then tunB h n x else if (roomB h n x).rule ≠ 0 then roomB h n x else bre0
/-- what is valid -/
def runsC (h : Hall) (n : Nat) (x : Nat → Run) : Prop := h.m = h.n ∧ h.n ≤ 96 ∧ n ≤ 1000 ∧ (0 ≤ h.cl ∧ h.cl ≤ 6) ∧ ∀ i, i < n → campB h.n (x i).c = true
theorem runsC_late {h : Hall} {n : Nat} {x : Nat → Run} (hv : runsC h n x) : lateC n x := fun i hi => by
  have := hv.2.2.2.2 i hi
  have hn := hv.2.1
  simp only [campB, decide_eq_true_eq] at this
  simp only [inRange_i64]
  omega
theorem time_none {n : Nat} {x : Nat → Run} (h : (timeB n x).rule = 0) : ∀ i, i < n → lateB (x i) = false := by
  rcases findI_cases (fun i => lateB (x i)) n with ⟨i, h1, h2, h3, h4⟩ | ⟨h1, h2⟩
  · unfold timeB at h
    rw [h4] at h
    rw [decide_eq_true (by omega)] at h
    cases h
  · exact h1
theorem runsC_in {h : Hall} {n : Nat} {x : Nat → Run} (hv : runsC h n x) (ht : (timeB n x).rule = 0) : inC h.n n x := fun i hi => by
  have := hv.2.2.2.2 i hi
  have h2 := time_none ht i hi
  simp only [campB, decide_eq_true_eq] at this
  simp only [lateB, decide_eq_false_iff_not] at h2
  omega
theorem runsC_small {h : Hall} {n : Nat} {x : Nat → Run} (hv : runsC h n x) (ht : (timeB n x).rule = 0) : ∀ i, i < n → smallR (x i) := fun i hi => by
  have := hv.2.2.2.2 i hi
  have h2 := time_none ht i hi
  have hn := hv.2.1
  simp only [campB, decide_eq_true_eq] at this
  simp only [lateB, decide_eq_false_iff_not] at h2
  unfold smallR
  omega
theorem runsC_prep {h : Hall} {n : Nat} {x : Nat → Run} (hv : runsC h n x) (ht : (timeB n x).rule = 0) : prepC h.n n x := fun i hi => by
  have := hv.2.2.2.2 i hi
  have h2 := time_none ht i hi
  have hn := hv.2.1
  refine ⟨runsC_small hv ht i hi, ?_⟩
  simp only [campB, decide_eq_true_eq] at this
  simp only [lateB, decide_eq_false_iff_not] at h2
  omega

theorem breach_alone (h : Hall) (n : Nat) (x : Nat → Run) (hv : runsC h n x) : Alone PG 58 [.agg (hallD h), rowR n x] (.agg (breD (breB h n x))) :=
  Alone.ofW (cl := T89) (raw := false) hm0 T89_ok cf_58 fun K w => by
    obtain ⟨v1, v2, v3, v4, v5⟩ := id hv
    have hn : n ≤ 1000000 := by omega
    have hN : h.n ≤ 1000000 := by omega
    have hM : h.m ≤ 1000000 := by omega
    refine aw_reg0 (aw_reg0 (aw_reg0 (aw_reg0 (aw_assoc (aw_reg0 (aw_unroll 7 hm0 (T89_ok K) (unr_step (aw_reg0 (aw_yes (aw_skips (aw_blocks (aw_reg (True ∧ (0 : Int) ≤ (0 : Int) ∧ (0 : Int) < (5 : Int)) (by (have q0 := runsC_late hv; ((try simp only [inRange_i64] at *); (try simp only [implies_true, and_self, true_and, and_true]); (repeat' (with_reducible apply And.intro)) <;> first | exact True.intro | exact fun _ _ => rfl | omega | assumption | (intros; simp [freeL, freeD]; done)))) (aw_reg (True ∧ (∀ (i : Nat), i < n → True ∧ True ∧ True ∧ True ∧ True ∧ True ∧ True ∧ True ∧ True) ∧ (∀ (i : Nat), i < n → runD (x i) = runD (x i)) ∧ lateC n x ∧ n ≤ (1000000 : Nat)) (by (have q0 := runsC_late hv; ((try simp only [inRange_i64] at *); (try simp only [implies_true, and_self, true_and, and_true]); (repeat' (with_reducible apply And.intro)) <;> first | exact True.intro | exact fun _ _ => rfl | omega | assumption | (intros; simp [freeL, freeD]; done)))) (aw_reg0 (aw_ifne ((timeB n x).rule) ((0 : Int)) (fun h1 => aw_reg0 (aw_ret (blk_ret (seq_ret (unr_ret (blk_ret (seq_ret (end_d (D.agg [D.val (Value.int IntKind.u8 (timeB n x).rule), D.val (Value.int IntKind.i64 (timeB n x).a), D.val (Value.int IntKind.i64 (timeB n x).b), D.val (Value.int IntKind.i64 (timeB n x).hour)]) ?_)))))))) (fun h2 => aw_skip (blk_normal (seq_normal (aw_end (True ∧ inRange IntKind.i64 ((0 : Int) + (1 : Int))) (by (have q0 := runsC_late hv; ((try simp only [inRange_i64] at *); (try simp only [implies_true, and_self, true_and, and_true]); (repeat' (with_reducible apply And.intro)) <;> first | exact True.intro | exact fun _ _ => rfl | omega | assumption | (intros; simp [freeL, freeD]; done)))) (unr_next (unr_step (aw_reg0 (aw_yes (aw_skips (aw_blocks (aw_reg (True ∧ (0 : Int) ≤ (0 : Int) + (1 : Int) ∧ (0 : Int) + (1 : Int) < (5 : Int)) (by (have q0 := runsC_late hv; ((try simp only [inRange_i64] at *); (try simp only [implies_true, and_self, true_and, and_true]); (repeat' (with_reducible apply And.intro)) <;> first | exact True.intro | exact fun _ _ => rfl | omega | assumption | (intros; simp [freeL, freeD]; done)))) (aw_reg (True ∧ ((∀ (i : Nat), i < n → True ∧ True ∧ True ∧ True ∧ True ∧ True ∧ True ∧ True ∧ True) ∧ (∀ (i : Nat), i < h.n → True ∧ True) ∧ ∀ (i : Nat), i < h.m → True ∧ True) ∧ (∀ (i : Nat), i < n → runD (x i) = runD (x i)) ∧ ((∀ (i : Nat), i < h.n → [i6 (h.st i)] = [i6 (h.st i)]) ∧ ∀ (i : Nat), i < h.m → [i6 (h.en i)] = [i6 (h.en i)]) ∧ inC h.n n x ∧ n ≤ (1000000 : Nat) ∧ h.n ≤ (1000000 : Nat)) (by (have q1 := runsC_in hv (by assumption); have q2 : inC h.m n x := v1 ▸ q1; have q3 := runsC_small hv (by assumption); have q4 := runsC_prep hv (by assumption); ((try simp only [inRange_i64] at *); (try simp only [implies_true, and_self, true_and, and_true]); (repeat' (with_reducible apply And.intro)) <;> first | exact True.intro | exact fun _ _ => rfl | omega | assumption | (intros; simp [freeL, freeD]; done)))) (aw_reg0 (aw_ifne ((hourB (2 : Int) (staffP h) n x).rule) ((0 : Int)) (fun h3 => aw_reg0 (aw_ret (blk_ret (seq_ret (unr_ret (blk_ret (seq_ret (end_d (D.agg [D.val (Value.int IntKind.u8 (hourB (2 : Int) (staffP h) n x).rule), D.val (Value.int IntKind.i64 (hourB (2 : Int) (staffP h) n x).a), D.val (Value.int IntKind.i64 (hourB (2 : Int) (staffP h) n x).b), D.val (Value.int IntKind.i64 (hourB (2 : Int) (staffP h) n x).hour)]) ?_)))))))) (fun h4 => aw_skip (blk_normal (seq_normal (aw_end (True ∧ inRange IntKind.i64 ((0 : Int) + (1 : Int) + (1 : Int))) (by (have q0 := runsC_late hv; ((try simp only [inRange_i64] at *); (try simp only [implies_true, and_self, true_and, and_true]); (repeat' (with_reducible apply And.intro)) <;> first | exact True.intro | exact fun _ _ => rfl | omega | assumption | (intros; simp [freeL, freeD]; done)))) (unr_next (unr_step (aw_reg0 (aw_yes (aw_skips (aw_blocks (aw_reg (True ∧ (0 : Int) ≤ (0 : Int) + (1 : Int) + (1 : Int) ∧ (0 : Int) + (1 : Int) + (1 : Int) < (5 : Int)) (by (have q0 := runsC_late hv; ((try simp only [inRange_i64] at *); (try simp only [implies_true, and_self, true_and, and_true]); (repeat' (with_reducible apply And.intro)) <;> first | exact True.intro | exact fun _ _ => rfl | omega | assumption | (intros; simp [freeL, freeD]; done)))) (aw_reg (True ∧ ((∀ (i : Nat), i < n → True ∧ True ∧ True ∧ True ∧ True ∧ True ∧ True ∧ True ∧ True) ∧ (∀ (i : Nat), i < h.n → True ∧ True) ∧ ∀ (i : Nat), i < h.m → True ∧ True) ∧ (∀ (i : Nat), i < n → runD (x i) = runD (x i)) ∧ ((∀ (i : Nat), i < h.n → [i6 (h.st i)] = [i6 (h.st i)]) ∧ ∀ (i : Nat), i < h.m → [i6 (h.en i)] = [i6 (h.en i)]) ∧ inC h.m n x ∧ n ≤ (1000000 : Nat) ∧ h.m ≤ (1000000 : Nat)) (by (have q1 := runsC_in hv (by assumption); have q2 : inC h.m n x := v1 ▸ q1; have q3 := runsC_small hv (by assumption); have q4 := runsC_prep hv (by assumption); ((try simp only [inRange_i64] at *); (try simp only [implies_true, and_self, true_and, and_true]); (repeat' (with_reducible apply And.intro)) <;> first | exact True.intro | exact fun _ _ => rfl | omega | assumption | (intros; simp [freeL, freeD]; done)))) (aw_reg0 (aw_ifne ((hourB (3 : Int) (weakP h) n x).rule) ((0 : Int)) (fun h5 => aw_reg0 (aw_ret (blk_ret (seq_ret (unr_ret (blk_ret (seq_ret (end_d (D.agg [D.val (Value.int IntKind.u8 (hourB (3 : Int) (weakP h) n x).rule), D.val (Value.int IntKind.i64 (hourB (3 : Int) (weakP h) n x).a), D.val (Value.int IntKind.i64 (hourB (3 : Int) (weakP h) n x).b), D.val (Value.int IntKind.i64 (hourB (3 : Int) (weakP h) n x).hour)]) ?_)))))))) (fun h6 => aw_skip (blk_normal (seq_normal (aw_end (True ∧ inRange IntKind.i64 ((0 : Int) + (1 : Int) + (1 : Int) + (1 : Int))) (by (have q0 := runsC_late hv; ((try simp only [inRange_i64] at *); (try simp only [implies_true, and_self, true_and, and_true]); (repeat' (with_reducible apply And.intro)) <;> first | exact True.intro | exact fun _ _ => rfl | omega | assumption | (intros; simp [freeL, freeD]; done)))) (unr_next (unr_step (aw_reg0 (aw_yes (aw_skips (aw_blocks (aw_reg (True ∧ (0 : Int) ≤ (0 : Int) + (1 : Int) + (1 : Int) + (1 : Int) ∧ (0 : Int) + (1 : Int) + (1 : Int) + (1 : Int) < (5 : Int)) (by (have q0 := runsC_late hv; ((try simp only [inRange_i64] at *); (try simp only [implies_true, and_self, true_and, and_true]); (repeat' (with_reducible apply And.intro)) <;> first | exact True.intro | exact fun _ _ => rfl | omega | assumption | (intros; simp [freeL, freeD]; done)))) (aw_reg (True ∧ (((∀ (i : Nat), i < h.n → True ∧ True) ∧ ∀ (i : Nat), i < h.m → True ∧ True) ∧ ∀ (i : Nat), i < n → True ∧ True ∧ True ∧ True ∧ True ∧ True ∧ True ∧ True ∧ True) ∧ ((∀ (i : Nat), i < h.n → [i6 (h.st i)] = [i6 (h.st i)]) ∧ ∀ (i : Nat), i < h.m → [i6 (h.en i)] = [i6 (h.en i)]) ∧ (∀ (i : Nat), i < n → runD (x i) = runD (x i)) ∧ ((-1000000 : Int) ≤ h.cl ∧ h.cl ≤ (1000000 : Int)) ∧ (∀ (i : Nat), i < n → smallR (x i)) ∧ n ≤ (1000000 : Nat)) (by (have q1 := runsC_in hv (by assumption); have q2 : inC h.m n x := v1 ▸ q1; have q3 := runsC_small hv (by assumption); have q4 := runsC_prep hv (by assumption); ((try simp only [inRange_i64] at *); (try simp only [implies_true, and_self, true_and, and_true]); (repeat' (with_reducible apply And.intro)) <;> first | exact True.intro | exact fun _ _ => rfl | omega | assumption | (intros; simp [freeL, freeD]; done)))) (aw_reg0 (aw_ifne ((tunB h n x).rule) ((0 : Int)) (fun h7 => aw_reg0 (aw_ret (blk_ret (seq_ret (unr_ret (blk_ret (seq_ret (end_d (D.agg [D.val (Value.int IntKind.u8 (tunB h n x).rule), D.val (Value.int IntKind.i64 (tunB h n x).a), D.val (Value.int IntKind.i64 (tunB h n x).b), D.val (Value.int IntKind.i64 (tunB h n x).hour)]) ?_)))))))) (fun h8 => aw_skip (blk_normal (seq_normal (aw_end (True ∧ inRange IntKind.i64 ((0 : Int) + (1 : Int) + (1 : Int) + (1 : Int) + (1 : Int))) (by (have q0 := runsC_late hv; ((try simp only [inRange_i64] at *); (try simp only [implies_true, and_self, true_and, and_true]); (repeat' (with_reducible apply And.intro)) <;> first | exact True.intro | exact fun _ _ => rfl | omega | assumption | (intros; simp [freeL, freeD]; done)))) (unr_next (unr_step (aw_reg0 (aw_yes (aw_skips (aw_blocks (aw_reg (True ∧ (0 : Int) ≤ (0 : Int) + (1 : Int) + (1 : Int) + (1 : Int) + (1 : Int) ∧ (0 : Int) + (1 : Int) + (1 : Int) + (1 : Int) + (1 : Int) < (5 : Int)) (by (have q0 := runsC_late hv; ((try simp only [inRange_i64] at *); (try simp only [implies_true, and_self, true_and, and_true]); (repeat' (with_reducible apply And.intro)) <;> first | exact True.intro | exact fun _ _ => rfl | omega | assumption | (intros; simp [freeL, freeD]; done)))) (aw_reg (True ∧ (((∀ (i : Nat), i < h.n → True ∧ True) ∧ ∀ (i : Nat), i < h.m → True ∧ True) ∧ ∀ (i : Nat), i < n → True ∧ True ∧ True ∧ True ∧ True ∧ True ∧ True ∧ True ∧ True) ∧ ((∀ (i : Nat), i < h.n → [i6 (h.st i)] = [i6 (h.st i)]) ∧ ∀ (i : Nat), i < h.m → [i6 (h.en i)] = [i6 (h.en i)]) ∧ (∀ (i : Nat), i < n → runD (x i) = runD (x i)) ∧ prepC h.n n x ∧ n ≤ (1000000 : Nat) ∧ h.n ≤ (1000000 : Nat)) (by (have q1 := runsC_in hv (by assumption); have q2 : inC h.m n x := v1 ▸ q1; have q3 := runsC_small hv (by assumption); have q4 := runsC_prep hv (by assumption); ((try simp only [inRange_i64] at *); (try simp only [implies_true, and_self, true_and, and_true]); (repeat' (with_reducible apply And.intro)) <;> first | exact True.intro | exact fun _ _ => rfl | omega | assumption | (intros; simp [freeL, freeD]; done)))) (aw_reg0 (aw_ifne ((roomB h n x).rule) ((0 : Int)) (fun h9 => aw_reg0 (aw_ret (blk_ret (seq_ret (unr_ret (blk_ret (seq_ret (end_d (D.agg [D.val (Value.int IntKind.u8 (roomB h n x).rule), D.val (Value.int IntKind.i64 (roomB h n x).a), D.val (Value.int IntKind.i64 (roomB h n x).b), D.val (Value.int IntKind.i64 (roomB h n x).hour)]) ?_)))))))) (fun h10 => aw_skip (blk_normal (seq_normal (aw_end (True ∧ inRange IntKind.i64 ((0 : Int) + (1 : Int) + (1 : Int) + (1 : Int) + (1 : Int) + (1 : Int))) (by (have q0 := runsC_late hv; ((try simp only [inRange_i64] at *); (try simp only [implies_true, and_self, true_and, and_true]); (repeat' (with_reducible apply And.intro)) <;> first | exact True.intro | exact fun _ _ => rfl | omega | assumption | (intros; simp [freeL, freeD]; done)))) (unr_next (unr_step (aw_reg0 (aw_no (aw_exits (unr_exit (blk_exit (seq_normal (aw_reg0 (aw_ret (end_d (D.agg [D.val (Value.int IntKind.u8 (0 : Int)), D.val (Value.int IntKind.i64 (0 : Int)), D.val (Value.int IntKind.i64 (0 : Int)), D.val (Value.int IntKind.i64 (0 : Int))]) ?_))))))))))))))))))))))))))))))))))))))))))))))))))))))))))))))))))))))))))))))))))))))
    all_goals simp_all [breB, breD, bre0]

end Go.Ev
end
section
namespace Go.Ev
/-! ### An array of rows of k cells that is filled one after another -/
noncomputable def rowsF (k i : Nat) (g : Nat → List D) (z : List D) (q : Nat) : D := if q / k < i then getK (g (q / k)) (q % k) else getK z (q % k)
theorem updF_at : ∀ (l : List D) (f : Nat → D) (off j : Nat), updF f off l j = if off ≤ j ∧ j < off + l.length then getK l (j - off) else f j
  | [], f, off, j => by
    simp only [updF, List.length_nil]
    rw [if_neg (by omega)]
  | [d], f, off, j => by
    show (match Nat.beq j off with | true => d | false => f j) = _
    cases h : Nat.beq j off with
    | true =>
      have e := Nat.eq_of_beq_eq_true h
      subst e
      simp [getK_eq]
    | false =>
      have e := Nat.ne_of_beq_eq_false h
      rw [if_neg (by simp; omega)]
  | d :: e :: ds, f, off, j => by
    show updF (fun j => match Nat.beq j off with | true => d | false => f j) (off + 1) (e :: ds) j = _
    rw [updF_at (e :: ds)]
    by_cases h1 : off + 1 ≤ j ∧ j < off + 1 + (e :: ds).length
    · rw [if_pos h1, if_pos (by simp at h1 ⊢; omega), getK_eq, getK_eq]
      have : j - off = (j - (off + 1)) + 1 := by omega
      rw [this]
      simp
    · rw [if_neg h1]
      cases h : Nat.beq j off with
      | true =>
        have e := Nat.eq_of_beq_eq_true h
        subst e
        simp [getK_eq]
      | false =>
        have e := Nat.ne_of_beq_eq_false h
        rw [if_neg (by simp at h1 ⊢; omega)]
theorem rowsF_set {k i : Nat} {g : Nat → List D} {z : List D} (hk : 0 < k) (hg : (g i).length = k) : rowsF k (i + 1) g z = updF (rowsF k i g z) (i * k) (g i) := by
  funext q
  rw [updF_at, hg]
  unfold rowsF
  have h1 := Nat.div_add_mod q k
  have h2 := Nat.mod_lt q hk
  rw [Nat.mul_comm] at h1
  by_cases h : i * k ≤ q ∧ q < i * k + k
  · have e1 : q / k = i := Nat.div_eq_of_lt_le h.1 (by rw [Nat.add_mul]; omega)
    have e2 : q % k = q - i * k := by rw [e1] at h1; omega
    rw [if_pos (by omega), if_pos h, e1, e2]
  · rw [if_neg h]
    have : q / k ≠ i := fun e => by
      rw [e] at h1
      exact h ⟨by omega, by omega⟩
    by_cases h3 : q / k < i
    · rw [if_pos h3, if_pos (by omega)]
    · rw [if_neg h3, if_neg (by omega)]
theorem rowsF_0 {k : Nat} {g : Nat → List D} {z : List D} : rowsF k 0 g z = fun q => getK z (q % k) := by
  funext q
  unfold rowsF
  rw [if_neg (Nat.not_lt_zero _)]
/-- such an array becomes a row -/
theorem frz_rows {hp : List Blk} {id n m k i0 : Nat} {cap : Option Nat} {g : Nat → List D} {z : List D} (hb : getG hp id = some (.arr m (rowsF k i0 g z))) (hm : n * k ≤ m) (hi0 : n ≤ i0) (hk : 0 < k) (hg : ∀ i, i < n → (g i).length = k ∧ ∀ d ∈ g i, freeD d) : FrzP hp (.sl id 0 n k cap) (.row k n g) :=
  frz_arr hb fun i hi j e hj => by
    obtain ⟨h1, h2⟩ := hg i hi
    have hjk : j < k := by rw [← h1]; exact (List.getElem?_eq_some_iff.1 hj).1
    have hle : (i + 1) * k ≤ n * k := Nat.mul_le_mul_right k hi
    rw [Nat.add_mul, Nat.one_mul] at hle
    refine ⟨by omega, ?_⟩
    have e0 : 0 + i * k + j = i * k + j := by omega
    rw [e0]
    have e1 : (i * k + j) / k = i := by rw [Nat.mul_comm, Nat.mul_add_div hk, Nat.div_eq_of_lt hjk]; rfl
    have e2 : (i * k + j) % k = j := by rw [Nat.mul_comm, Nat.mul_add_mod, Nat.mod_eq_of_lt hjk]
    have : rowsF k i0 g z (i * k + j) = e := by
      unfold rowsF
      rw [e1, e2, if_pos (by omega), getK_eq, List.getD_eq_getElem?_getD, hj]
      rfl
    rw [this]
    exact frz_free (h2 e (List.mem_of_getElem? hj))
theorem need_updF {N : Nat} : ∀ (l : List D) {f : Nat → D} {off j : Nat}, (∀ d ∈ l, needD N d) → needD N (f j) → needD N (updF f off l j) := fun l f off j hl hf => by
  rw [updF_at]
  split
  · rename_i h
    rw [getK_eq, List.getD_eq_getElem?_getD, List.getElem?_eq_getElem (by omega)]
    exact hl _ (List.getElem_mem _)
  · exact hf
theorem need_getK {N : Nat} {l : List D} {j : Nat} (h : ∀ d ∈ l, needD N d) : needD N (getK l j) := by
  rw [getK_eq, List.getD_eq_getElem?_getD]
  cases e : l[j]? with
  | none => simp [needD]
  | some d => exact h d (List.mem_of_getElem? e)
theorem need_rows {N k i q : Nat} {g : Nat → List D} {z : List D} (hg : ∀ a, ∀ d ∈ g a, needD N d) (hz : ∀ d ∈ z, needD N d) : needD N (rowsF k i g z q) := by
  unfold rowsF
  split
  · exact need_getK (hg _)
  · exact need_getK hz
theorem rowsF_set1 {i : Nat} {g : Nat → List D} {z : List D} (hg : (g i).length = 1) : rowsF 1 (i + 1) g z = updF (rowsF 1 i g z) i (g i) := by
  have := rowsF_set (k := 1) (i := i) (g := g) (z := z) (by decide) hg
  rw [Nat.mul_one] at this
  exact this
theorem rowsF_01 {g : Nat → List D} {d : D} : rowsF 1 0 g [d] = fun _ => d := by
  rw [rowsF_0]
  funext q
  rw [Nat.mod_one]
  rfl
end Go.Ev
end
section
open Go Go.Ev Go.RowKit
namespace Go.Ev
set_option maxRecDepth 100000
set_option linter.all false
def R58 : List D → Option (Option Prop × D)
  | [d0, d1] => match hallO d0, runsO d1 with
    | some (p, h), some (q, n, x) => some (some (p ∧ q ∧ runsC h n x), .agg (breD (breB h n x)))
    | _, _ => none
  | _ => none
noncomputable def T58 := orCl (aloC 58 R58) T89
theorem T58_ok (K : Cust) : ClOK K PG T58 := tab_cons cf_58 (fun ds p d h hp => by
    unfold R58 at h
    split at h
    · split at h
      · rename_i e0 e1
        cases h
        obtain ⟨h1, h2, h3⟩ := hp _ rfl
        exact ⟨_, less_cons (hallO_less e0 h1) (less_cons (runsO_less e1 h2) (Less.refl _)), by simp [freeL, freeD, rowR_free, hallD_free], by simp [freeD, breD_free], breach_alone _ _ _ h3⟩
      · cases h
    · cases h) (T89_ok K)
theorem keep_alone (h : Hall) (n : Nat) (x : Nat → Run) (hv : runsC h n x) : Alone PG 91 [.agg (hallD h), rowR n x] (bD ((breB h n x).rule == 0)) :=
  Alone.ofW (cl := T58) (raw := false) hm0 T58_ok cf_91 fun K w => by
    refine aw_reg0 (aw_reg (True ∧ ((∀ (i : Nat), i < h.n → [i6 (h.st i)] = [i6 (h.st i)]) ∧ ∀ (i : Nat), i < h.m → [i6 (h.en i)] = [i6 (h.en i)]) ∧ (∀ (i : Nat), i < n → runD (x i) = runD (x i)) ∧ runsC h n x) (by ((try simp only [inRange_i64] at *); (try simp only [implies_true, and_self, true_and, and_true]); (repeat' (with_reducible apply And.intro)) <;> first | exact True.intro | exact fun _ _ => rfl | omega | assumption | (intros; simp [freeL, freeD]; done))) (aw_ret (end_b ((breB h n x).rule == (0 : Int)) ?_)))
    rfl

def R91 : List D → Option (Option Prop × D)
  | [d0, d1] => match hallO d0, runsO d1 with
    | some (p, h), some (q, n, x) => some (some (p ∧ q ∧ runsC h n x), bD ((breB h n x).rule == 0))
    | _, _ => none
  | _ => none
noncomputable def T91 := orCl (aloC 91 R91) T58
theorem T91_ok (K : Cust) : ClOK K PG T91 := tab_cons cf_91 (fun ds p d h hp => by
    unfold R91 at h
    split at h
    · split at h
      · rename_i e0 e1
        cases h
        obtain ⟨h1, h2, h3⟩ := hp _ rfl
        exact ⟨_, less_cons (hallO_less e0 h1) (less_cons (runsO_less e1 h2) (Less.refl _)), by simp [freeL, freeD, rowR_free, hallD_free], by simp [freeD], keep_alone _ _ _ h3⟩
      · cases h
    · cases h) (T58_ok K)
def okB (h : Hall) (n : Nat) (c : Nat → Camp) (m : Nat) : Bool := campsB h n c && decide ((m : Int) = n)
def plErr (h : Hall) (n : Nat) (c : Nat → Camp) (m : Nat) : Int := bif campsB h n c then (bif decide ((m : Int) = n) then 0 else 5) else 2
def okN (b : Bool) (n : Nat) : Nat := bif b then n else 0
def planR (c : Nat → Camp) (p : Nat → Int) (i : Nat) : Run := ⟨c i, p i⟩
theorem plErr_ok {h : Hall} {n : Nat} {c : Nat → Camp} {m : Nat} (e : plErr h n c m = 0) : okB h n c m = true := by grind [plErr, okB]
theorem plErr_bad {h : Hall} {n : Nat} {c : Nat → Camp} {m : Nat} (e : ¬ plErr h n c m = 0) : okB h n c m = false := by grind [plErr, okB]
def zero8 : List D := [i6 0, i6 0, i6 0, i6 0, i6 0, i6 0, i6 0, i6 0]
theorem frz_i {hp : List Blk} {x y : Int} (h : x = y) : FrzP hp (i6 x) (i6 y) := by
  subst h
  exact frz_free (by simp [freeD])
theorem frz_bad {hp : List Blk} {b : Bool} {n : Nat} {k : Nat} {g : Nat → List D} (h : b = false) : FrzP hp (.val (.slice none 0 0)) (.row k (okN b n) g) := by
  subst h
  exact frz_nil

theorem place_alone (h : Hall) (n : Nat) (c : Nat → Camp) (m : Nat) (p : Nat → Int) (hn : n ≤ 100000 ∧ m ≤ 100000 ∧ h.n ≤ 100000 ∧ h.m ≤ 100000) : Alone PG 57 [.agg (hallD h), rowC n c, rowI m p] (.tup [rowR (okN (okB h n c m) n) (planR c p), i6 (plErr h n c m)]) :=
  Alone.ofF (cl := T91) hm0 T91_ok cf_57 fun K w => by
    refine aw_reg0 (aw_assoc (aw_reg (True ∧ ((∀ (i : Nat), i < h.n → [i6 (h.st i)] = [i6 (h.st i)]) ∧ ∀ (i : Nat), i < h.m → [i6 (h.en i)] = [i6 (h.en i)]) ∧ (∀ (i : Nat), i < n → campD (c i) = campD (c i)) ∧ h.n ≤ (1000000 : Nat) ∧ h.m ≤ (1000000 : Nat) ∧ n ≤ (1000000 : Nat)) (by ((try simp only [inRange_i64] at *); (try simp only [implies_true, and_self, true_and, and_true]); (repeat' (with_reducible apply And.intro)) <;> first | exact True.intro | exact fun _ _ => rfl | omega | assumption | (intros; simp [freeL, freeD]; done))) (aw_assoc (aw_reg0 (aw_ifsne (bif campsB h n c then (0 : Int) else (2 : Int)) ((0 : Int)) (fun h1 => aw_assoc (aw_reg0 (aw_rets (end_f (D.tup [D.val (Value.slice none (0 : Nat) (0 : Nat)), D.val (Value.int IntKind.i64 (bif campsB h n c then (0 : Int) else (2 : Int)))]) ?_)))) (fun h2 => aw_skips (aw_assoc (aw_reg0 (aw_ifsne ((↑m : Int)) ((↑n : Int)) (fun h3 => aw_assoc (aw_reg0 (aw_rets (end_f (D.tup [D.val (Value.slice none (0 : Nat) (0 : Nat)), D.val (Value.int IntKind.i64 (5 : Int))]) ?_)))) (fun h4 => aw_skips (aw_reg (True ∧ (0 : Int) ≤ (↑n : Int) ∧ (↑n : Int) ≤ (↑n : Int) ∧ (↑n : Int) ≤ (1048576 : Int) ∧ (64 : Nat) * n ≤ (16777216 : Nat)) (by (simp only [inRange_i64, true_and]; omega)) (aw_assoc (aw_reg0 (?_))))))))))))))
    · exact frz_tup (frzL_cons (frz_bad (by grind [okB])) (frzL_cons (frz_i (by grind [plErr])) frzL_nil))
    · exact frz_tup (frzL_cons (frz_bad (by grind [okB])) (frzL_cons (frz_i (by grind [plErr])) frzL_nil))
    · have hmn : m = n := by omega
      have hok : campsB h n c = true := by grind
      refine aw_loopV (ι := {i : Nat // i ≤ n}) hm0 (T91_ok K) (fun z => [(28, i6 z.1)]) (fun z => [(3, .arr (n * 8) (rowsF 8 z.1 (fun i => runD (planR c p i)) zero8))]) (fun z => n - z.1) ⟨0, Nat.zero_le n⟩ (fun z => ?_) (by
        show _ = lst _ _ [(3, .arr (n * 8) (rowsF 8 0 (fun i => runD (planR c p i)) zero8))] _
        rw [rowsF_0]
        kernel_rfl)
      obtain ⟨i, hi⟩ := z
      refine aw_reg0 (aw_ifsd ((↑i : Int) < (↑n : Int)) (fun h5 => aw_skips (aw_blocks (aw_reg (True ∧ (0 : Int) ≤ (↑i : Int) ∧ (↑i : Int) < (↑n : Int)) (by (simp only [inRange_i64, true_and]; omega)) (aw_end (((True ∧ (0 : Int) ≤ (↑i : Int) ∧ (↑i : Int) < (↑m : Int)) ∧ (0 : Int) ≤ (↑i : Int) ∧ (↑i : Int) < (↑n : Int)) ∧ i * (8 : Nat) + (8 : Nat) ≤ n * (8 : Nat)) (by (simp only [inRange_i64, true_and]; omega)) (blk_normal (seq_normal (aw_end (True ∧ inRange IntKind.i64 ((↑i : Int) + (1 : Int))) (by (simp only [inRange_i64, true_and]; omega)) (round_t 4 ((True ∧ True ∧ (∀ (i : Nat), i < h.n → True ∧ True) ∧ (∀ (i : Nat), i < h.m → True ∧ True) ∧ True) ∧ (∀ (i : Nat), i < n → True ∧ True ∧ True ∧ True ∧ True ∧ True ∧ True ∧ True) ∧ (∀ (i : Nat), i < m → True ∧ True) ∧ (True ∧ True ∧ (∀ (i : Nat), i < h.n → True ∧ True) ∧ (∀ (i : Nat), i < h.m → True ∧ True) ∧ True) ∧ (∀ (i : Nat), i < n → True ∧ True ∧ True ∧ True ∧ True ∧ True ∧ True ∧ True) ∧ (∀ (i : Nat), i < m → True ∧ True) ∧ (∀ (i : Nat), i < n → True ∧ True ∧ True ∧ True ∧ True ∧ True ∧ True ∧ True) ∧ (∀ (i : Nat), i < n → True ∧ True ∧ True ∧ True ∧ True ∧ True ∧ True ∧ True) ∧ (∀ (i : Nat), i < n → True ∧ True ∧ True ∧ True ∧ True ∧ True ∧ True ∧ True) ∧ True) (((∀ (i : Nat), i < h.n → True ∧ True) ∧ (∀ (i : Nat), i < h.m → True ∧ True) ∧ True) ∧ (∀ (j : Nat), j < n * (8 : Nat) → needD (4 : Nat) (updF (rowsF (8 : Nat) i (fun (i : Nat) => runD (planR c p i)) zero8) (i * (8 : Nat)) [D.val (Value.int IntKind.i64 (c i).cu), D.val (Value.int IntKind.i64 (c i).pr), D.val (Value.int IntKind.i64 (c i).ho), D.val (Value.int IntKind.i64 (c i).en), D.val (Value.int IntKind.i64 (c i).ea), D.val (Value.int IntKind.i64 (c i).la), D.val (Value.int IntKind.i64 (c i).we), D.val (Value.int IntKind.i64 (p i))] j)) ∧ True) (by (simp)) (by (refine ⟨by simp, fun j _ => need_updF _ (by simp [needD]) (need_rows (by simp [runD, needD]) (by simp [zero8, needD])), trivial⟩)) ?_)))))))) (fun h6 => aw_exits (round_exit (blk_exit (seq_normal (aw_reg0 (aw_ret (end_f (D.tup [D.sl (3 : Nat) (0 : Nat) n (8 : Nat) none, D.val (Value.int IntKind.i64 (0 : Int))]) ?_))))))))
      · refine round_v ⟨i + 1, by omega⟩ (by show n - (i + 1) < n - i; omega) ?_
        show _ = lst _ _ [(3, .arr (n * 8) (rowsF 8 (i + 1) (fun i => runD (planR c p i)) zero8))] _
        rw [rowsF_set (k := 8) (i := i) (g := fun i => runD (planR c p i)) (z := zero8) (by decide) rfl]
        kernel_rfl
      · have e1 : okN (okB h n c m) n = n := by
          have : okB h n c m = true := by grind [okB]
          rw [this]; rfl
        have e2 : plErr h n c m = 0 := by grind [plErr]
        rw [e1, e2]
        exact frz_tup (frzL_cons (frz_rows (m := n * 8) (k := 8) (i0 := i) (g := fun i => runD (planR c p i)) (z := zero8) (by kernel_rfl) (Nat.le_refl _) (by omega) (by decide) (fun j _ => ⟨rfl, fun d hd => by simp [runD] at hd; rcases hd with rfl | rfl | rfl | rfl | rfl | rfl | rfl | rfl <;> simp [freeD]⟩)) (frzL_cons (frz_free (by simp [freeD])) frzL_nil))

def R57 : List D → Option (Option Prop × D)
  | [d0, d1, d2] => match hallO d0, campsO d1, intsO d2 with
    | some (q0, h), some (q1, n, c), some (q2, m, p) => some (some (q0 ∧ q1 ∧ q2 ∧ n ≤ 100000 ∧ m ≤ 100000 ∧ h.n ≤ 100000 ∧ h.m ≤ 100000), .tup [rowR (okN (okB h n c m) n) (planR c p), i6 (plErr h n c m)])
    | _, _, _ => none
  | _ => none
noncomputable def T57 := orCl (aloC 57 R57) T91
theorem T57_ok (K : Cust) : ClOK K PG T57 := tab_cons cf_57 (fun ds p d h hp => by
    unfold R57 at h
    split at h
    · split at h
      · rename_i e0 e1 e2
        cases h
        obtain ⟨h1, h2, h3, h4⟩ := hp _ rfl
        exact ⟨_, less_cons (hallO_less e0 h1) (less_cons (campsO_less e1 h2) (less_cons (intsO_less e2 h3) (Less.refl _))), by simp [freeL, freeD, rowC_free, rowI_free, hallD_free], by simp [freeD, freeL, rowR_free], place_alone _ _ _ _ _ h4⟩
      · cases h
    · cases h) (T91_ok K)
def keepB (h : Hall) (n : Nat) (c : Nat → Camp) (m : Nat) (p : Nat → Int) : Bool := okB h n c m && ((breB h n (planR c p)).rule == 0)
def obErr (h : Hall) (n : Nat) (c : Nat → Camp) (m : Nat) (p : Nat → Int) : Int := bif okB h n c m then (bif (breB h n (planR c p)).rule == 0 then 0 else 100) else plErr h n c m
theorem okB_runs {h : Hall} {n : Nat} {c : Nat → Camp} {m : Nat} {p : Nat → Int} (hk : okB h n c m = true) : runsC h n (planR c p) := by
  simp only [okB, Bool.and_eq_true, campsB, hallB, decide_eq_true_eq, Bool.not_eq_true'] at hk
  obtain ⟨⟨⟨⟨h1, h2, h3⟩, h4, h5, h6⟩, h7, h8⟩, h9⟩ := hk
  refine ⟨by omega, by omega, by omega, by omega, fun i hi => ?_⟩
  have := anyI_false.1 h8 i hi
  simpa [planR] using this

theorem obey_alone (h : Hall) (n : Nat) (c : Nat → Camp) (m : Nat) (p : Nat → Int) (hn : n ≤ 100000 ∧ m ≤ 100000 ∧ h.n ≤ 100000 ∧ h.m ≤ 100000) : Alone PG 59 [.agg (hallD h), rowC n c, rowI m p] (.tup [rowR (okN (keepB h n c m p) n) (planR c p), i6 (obErr h n c m p)]) :=
  Alone.ofF (cl := T57) hm0 T57_ok cf_59 fun K w => by
    refine aw_reg0 (aw_reg (True ∧ ((∀ (i : Nat), i < h.n → [i6 (h.st i)] = [i6 (h.st i)]) ∧ ∀ (i : Nat), i < h.m → [i6 (h.en i)] = [i6 (h.en i)]) ∧ (∀ (i : Nat), i < n → campD (c i) = campD (c i)) ∧ (∀ (i : Nat), i < m → [i6 (p i)] = [i6 (p i)]) ∧ n ≤ (100000 : Nat) ∧ m ≤ (100000 : Nat) ∧ h.n ≤ (100000 : Nat) ∧ h.m ≤ (100000 : Nat)) (by ((try simp only [inRange_i64] at *); (try simp only [implies_true, and_self, true_and, and_true]); (repeat' (with_reducible apply And.intro)) <;> first | exact True.intro | exact fun _ _ => rfl | omega | assumption | (intros; simp [freeL, freeD]; done))) (aw_assoc (aw_reg0 (aw_ifsne (plErr h n c m) ((0 : Int)) (fun h1 => aw_assoc (aw_reg0 (aw_rets (end_f (D.tup [D.val (Value.slice none (0 : Nat) (0 : Nat)), D.val (Value.int IntKind.i64 (plErr h n c m))]) ?_)))) (fun h2 => aw_skips (aw_assoc (aw_reg (True ∧ ((∀ (i : Nat), i < h.n → [i6 (h.st i)] = [i6 (h.st i)]) ∧ ∀ (i : Nat), i < h.m → [i6 (h.en i)] = [i6 (h.en i)]) ∧ (∀ (i : Nat), i < okN (okB h n c m) n → runD (planR c p i) = runD (planR c p i)) ∧ runsC h (okN (okB h n c m) n) (planR c p)) (by (have e := plErr_ok (by assumption); rw [e]; exact ⟨trivial, ⟨fun _ _ => rfl, fun _ _ => rfl⟩, fun _ _ => rfl, okB_runs e⟩)) (aw_ifsne ((breB h (okN (okB h n c m) n) (planR c p)).rule) ((0 : Int)) (fun h3 => aw_assoc (aw_reg0 (aw_rets (end_f (D.tup [D.val (Value.slice none (0 : Nat) (0 : Nat)), D.val (Value.int IntKind.i64 (100 : Int))]) ?_)))) (fun h4 => aw_skips (aw_reg0 (aw_ret (end_f (D.tup [D.row (8 : Nat) (okN (okB h n c m) n) fun (i : Nat) => runD (planR c p i), D.val (Value.int IntKind.i64 (0 : Int))]) ?_))))))))))))
    · have e := plErr_bad h1
      exact frz_tup (frzL_cons (frz_bad (by simp [keepB, e])) (frzL_cons (frz_i (by simp [obErr, e])) frzL_nil))
    · have e := plErr_ok h2
      simp only [e, okN, cond_true] at h3
      have h3' : ((breB h n (planR c p)).rule == 0) = false := by simpa using h3
      exact frz_tup (frzL_cons (frz_bad (by simp [keepB, e, h3])) (frzL_cons (frz_i (by simp [obErr, e, h3'])) frzL_nil))
    · have e := plErr_ok h2
      simp only [e, okN, cond_true] at h4
      have e1 : keepB h n c m p = true := by simp [keepB, e, h4]
      have e2 : obErr h n c m p = 0 := by simp [obErr, e, h4]
      rw [e, e1, e2]
      exact frz_free (by simp only [freeD, freeL]; exact ⟨fun i => runD_free _, trivial, trivial⟩)

def R59 : List D → Option (Option Prop × D)
  | [d0, d1, d2] => match hallO d0, campsO d1, intsO d2 with
    | some (q0, h), some (q1, n, c), some (q2, m, p) => some (some (q0 ∧ q1 ∧ q2 ∧ n ≤ 100000 ∧ m ≤ 100000 ∧ h.n ≤ 100000 ∧ h.m ≤ 100000), .tup [rowR (okN (keepB h n c m p) n) (planR c p), i6 (obErr h n c m p)])
    | _, _, _ => none
  | _ => none
noncomputable def T59 := orCl (aloC 59 R59) T57
theorem T59_ok (K : Cust) : ClOK K PG T59 := tab_cons cf_59 (fun ds p d h hp => by
    unfold R59 at h
    split at h
    · split at h
      · rename_i e0 e1 e2
        cases h
        obtain ⟨h1, h2, h3, h4⟩ := hp _ rfl
        exact ⟨_, less_cons (hallO_less e0 h1) (less_cons (campsO_less e1 h2) (less_cons (intsO_less e2 h3) (Less.refl _))), by simp [freeL, freeD, rowC_free, rowI_free, hallD_free], by simp [freeD, freeL, rowR_free], obey_alone _ _ _ _ _ h4⟩
      · cases h
    · cases h) (T57_ok K)
end Go.Ev
end
