import Derived.Test.YtmekepomgofiaaaC19
import Derived.Test.YtmekepomgofiaaaC12
import Derived.Test.YtmekepomgofiaaaC17
set_option linter.all false
section
open Go Go.Ev Go.RowKit
namespace Go.Ev
set_option maxRecDepth 100000
set_option maxHeartbeats 2000000
set_option linter.all false
def R27 : List D → Option (Option Prop × D)
  | [d0, d1, d2] => match hallO d0, campsO d1, intsO d2 with
    | some (q0, h), some (q1, n, c), some (q2, m, p) => some (some (q0 ∧ q1 ∧ q2 ∧ m = n ∧ runsC h n (planR c p)), .agg (breD (breB h n (planR c p))))
    | _, _, _ => none
  | _ => none
noncomputable def T27 := orCl (aloC 27 R27) T69
theorem T27_ok (K : Cust) : ClOK K PG T27 := tab_cons cf_27 (fun ds p d h hp => by
    unfold R27 at h
    split at h
    · split at h
      · rename_i e0 e1 e2
        cases h
        obtain ⟨h1, h2, h3, h4, h5⟩ := hp _ rfl
        exact ⟨_, less_cons (hallO_less e0 h1) (less_cons (campsO_less e1 h2) (less_cons (intsO_less e2 h3) (Less.refl _))), by simp [freeL, freeD, rowC_free, rowI_free, hallD_free], by simp [freeD, breD_free], breach_ref _ _ _ _ _ h4 h5⟩
      · cases h
    · cases h) (T69_ok K)
theorem okB_m {h : Hall} {n : Nat} {c : Nat → Camp} {m : Nat} (e : okB h n c m = true) : m = n := by simp only [okB, Bool.and_eq_true, decide_eq_true_eq] at e; omega
theorem wrong_alone (h : Hall) (n : Nat) (c : Nat → Camp) (m : Nat) (p : Nat → Int) (hn : h.n ≤ 100000 ∧ h.m ≤ 100000 ∧ n ≤ 100000 ∧ m ≤ 100000) : Alone PG 26 [.agg (hallD h), rowC n c, rowI m p] (i6 (obErr h n c m p)) :=
  Alone.ofW (cl := T27) (raw := false) hm0 T27_ok cf_26 fun K w => by
    refine aw_reg0 (aw_assoc (aw_reg (True ∧ ((∀ (i : Nat), i < h.n → [i6 (h.st i)] = [i6 (h.st i)]) ∧ ∀ (i : Nat), i < h.m → [i6 (h.en i)] = [i6 (h.en i)]) ∧ (∀ (i : Nat), i < n → campD (c i) = campD (c i)) ∧ h.n ≤ (100000 : Nat) ∧ h.m ≤ (100000 : Nat) ∧ n ≤ (100000 : Nat)) (by ((try simp only [inRange_i64] at *); (try simp only [implies_true, and_self, true_and, and_true]); (repeat' (with_reducible apply And.intro)) <;> first | exact True.intro | exact fun _ _ => rfl | exact fun _ _ => ⟨rfl, rfl⟩ | omega | assumption | (intros; simp [freeL, freeD]; done))) (aw_ifs (!campsB h n c) (fun h1 => aw_assoc (aw_reg0 (aw_rets (end_i ((2 : Int)) ?_)))) (fun h2 => aw_skips (aw_assoc (aw_reg0 (aw_ifsne ((↑m : Int)) ((↑n : Int)) (fun h3 => aw_assoc (aw_reg0 (aw_rets (end_i ((5 : Int)) ?_)))) (fun h4 => aw_skips (aw_assoc (aw_reg (True ∧ ((∀ (i : Nat), i < h.n → [i6 (h.st i)] = [i6 (h.st i)]) ∧ ∀ (i : Nat), i < h.m → [i6 (h.en i)] = [i6 (h.en i)]) ∧ (∀ (i : Nat), i < n → campD (c i) = campD (c i)) ∧ (∀ (i : Nat), i < m → [i6 (p i)] = [i6 (p i)]) ∧ m = n ∧ runsC h n (planR c p)) (by (have q : okB h n c m = true := (by grind [okB]); exact ⟨trivial, ⟨fun _ _ => rfl, fun _ _ => rfl⟩, fun _ _ => rfl, fun _ _ => rfl, okB_m q, okB_runs q⟩)) (aw_ifsne ((breB h n (planR c p)).rule) ((0 : Int)) (fun h5 => aw_assoc (aw_reg0 (aw_rets (end_i ((100 : Int)) ?_)))) (fun h6 => aw_skips (aw_reg0 (aw_ret (end_i ((0 : Int)) ?_)))))))))))))))
    all_goals grind [obErr, plErr, okB]

def R26 : List D → Option (Option Prop × D)
  | [d0, d1, d2] => match hallO d0, campsO d1, intsO d2 with
    | some (q0, h), some (q1, n, c), some (q2, m, p) => some (some (q0 ∧ q1 ∧ q2 ∧ (h.n ≤ 100000 ∧ h.m ≤ 100000 ∧ n ≤ 100000 ∧ m ≤ 100000)), i6 (obErr h n c m p))
    | _, _, _ => none
  | _ => none
noncomputable def T26 := orCl (aloC 26 R26) T27
theorem T26_ok (K : Cust) : ClOK K PG T26 := tab_cons cf_26 (fun ds p d h hp => by
    unfold R26 at h
    split at h
    · split at h
      · rename_i e0 e1 e2
        cases h
        obtain ⟨h1, h2, h3, h4⟩ := hp _ rfl
        exact ⟨_, less_cons (hallO_less e0 h1) (less_cons (campsO_less e1 h2) (less_cons (intsO_less e2 h3) (Less.refl _))), by simp [freeL, freeD, rowC_free, rowI_free, hallD_free], by simp [freeD], wrong_alone _ _ _ _ _ h4⟩
      · cases h
    · cases h) (T27_ok K)
end Go.Ev
end
section
open Go Go.Ev Go.RowKit
namespace Go.Ev
set_option maxRecDepth 100000
set_option maxHeartbeats 2000000
set_option linter.all false
def keepC (h : Hall) (n : Nat) (c : Nat → Camp) (p : Nat → Int) : Prop := h.n ≤ 96 ∧ n ≤ 1000 ∧ 0 ≤ h.cl ∧ h.cl ≤ 6 ∧ ∀ i, i < n → 0 ≤ p i ∧ p i ≤ 1000 ∧ 1 ≤ (c i).ho ∧ (c i).ho ≤ 24 ∧ 0 ≤ (c i).pr ∧ (c i).pr ≤ 24
end Go.Ev
end
section
open Go Go.Ev Go.RowKit
namespace Go.Ev
set_option maxRecDepth 100000
set_option maxHeartbeats 2000000
set_option linter.all false
theorem timeB_late {n : Nat} {x : Nat → Run} (e : (timeB n x).rule = 0) : ∀ i, i < n → lateB (x i) = false := by
  intro i hi
  rcases findI_cases (fun i => lateB (x i)) n with ⟨j, hj, h1, h2, h3⟩ | ⟨h1, h2⟩
  · have : (timeB n x).rule = 1 := by unfold timeB; rw [h3, decide_eq_true (by omega)]; rfl
    omega
  · exact h1 i hi
theorem keepB_keepC {h : Hall} {n : Nat} {c : Nat → Camp} {m : Nat} {p : Nat → Int} (e : keepB h n c m p = true) : m = n ∧ keepC h n c p := by
  have e1 := (keepB_ok e).1
  obtain ⟨v1, v2, v3, v4, v5⟩ := okB_runs (p := p) e1
  have hl := timeB_late (breB_time (keepB_ok e).2)
  refine ⟨okB_m e1, v2, v3, v4.1, v4.2, fun i hi => ?_⟩
  have q1 := v5 i hi
  have q2 := late_n (hl i hi)
  have q1' : campB h.n (c i) = true := q1
  simp only [campB, decide_eq_true_eq] at q1'
  omega
theorem wide_f {h : Hall} {n : Nat} (e : wideB h n = false) : h.n ≤ 110 ∧ h.m ≤ 110 ∧ n ≤ 18 := by
  unfold wideB at e
  have := of_decide_eq_false e
  omega

end Go.Ev
end
section
open Go Go.Ev Go.RowKit
namespace Go.Ev
set_option maxRecDepth 100000
set_option maxHeartbeats 2000000
set_option linter.all false
def sumN (p : Nat → Int) : Nat → Int
  | 0 => 0
  | n + 1 => sumN p n + p n
theorem sumN_bound {p : Nat → Int} {b : Int} : ∀ (n : Nat), (∀ i, i < n → 0 ≤ p i ∧ p i ≤ b) → 0 ≤ sumN p n ∧ sumN p n ≤ n * b
  | 0, _ => by simp [sumN]
  | n + 1, h => by
    have h1 := sumN_bound n fun i hi => h i (by omega)
    have h2 := h n (by omega)
    have h3 : ((n + 1 : Nat) : Int) * b = n * b + b := by rw [Int.natCast_succ, Int.add_mul, Int.one_mul]
    rw [h3]
    simp only [sumN]
    omega
def costR (r : Run) : Int := r.c.we * (r.first + r.c.ho)
def costC (x : Run) : Prop := 0 ≤ x.c.we ∧ x.c.we ≤ 100 ∧ 0 ≤ x.first + x.c.ho ∧ x.first + x.c.ho ≤ 2000
theorem costC_b {x : Run} (h : costC x) : 0 ≤ costR x ∧ costR x ≤ 200000 := by
  obtain ⟨h1, h2, h3, h4⟩ := h
  refine ⟨Int.mul_nonneg h1 h3, ?_⟩
  have := Int.mul_le_mul h2 h4 h3 (by omega : (0 : Int) ≤ 100)
  unfold costR
  omega
theorem sum_b {n : Nat} {x : Nat → Run} (hn : n ≤ 1000) (h : ∀ i, i < n → costC (x i)) (i : Nat) (hi : i ≤ n) : 0 ≤ sumN (fun i => costR (x i)) i ∧ sumN (fun i => costR (x i)) i ≤ 200000000 := by
  have := sumN_bound (p := fun i => costR (x i)) (b := 200000) i fun j hj => costC_b (h j (by omega))
  omega

theorem sum_alone (n : Nat) (x : Nat → Run) (hn : n ≤ 1000) (h : ∀ i, i < n → costC (x i)) : Alone PG 60 [rowR n x] (i6 (sumN (fun i => costR (x i)) n)) :=
  Alone.ofW (cl := T26) (raw := false) hm0 T26_ok cf_60 fun K w => by
    refine aw_reg0 (aw_reg0 (aw_assoc (aw_reg0 (?_))))
    refine aw_loopV (ι := {z : Nat × Int // z.1 ≤ n ∧ z.2 = sumN (fun i => costR (x i)) z.1}) hm0 (T26_ok K) (fun z => [(8, i6 z.1.1), (3, i6 z.1.2)]) (fun _ => []) (fun z => n - z.1.1) ⟨(0, 0), Nat.zero_le n, rfl⟩ (fun z => ?_)
    obtain ⟨⟨i, v⟩, hi, hv⟩ := z
    simp only at hi hv
    have hb := sum_b hn h i hi
    refine aw_reg0 (aw_ifsd ((↑i : Int) < (↑n : Int)) (fun h1 => aw_skips (aw_blocks (aw_reg (True ∧ (0 : Int) ≤ (↑i : Int) ∧ (↑i : Int) < (↑n : Int)) (by (have q := h i (by omega); have q2 := costC_b q; unfold costC at q; unfold costR at q2; simp only [inRange_i64, true_and]; omega)) (aw_end ((True ∧ inRange IntKind.i64 ((x i).first + (x i).c.ho) ∧ inRange IntKind.i64 ((x i).c.we * ((x i).first + (x i).c.ho))) ∧ inRange IntKind.i64 (v + (x i).c.we * ((x i).first + (x i).c.ho))) (by (have q := h i (by omega); have q2 := costC_b q; unfold costC at q; unfold costR at q2; simp only [inRange_i64, true_and]; omega)) (blk_normal (seq_normal (aw_end (True ∧ inRange IntKind.i64 ((↑i : Int) + (1 : Int))) (by (have q := h i (by omega); have q2 := costC_b q; unfold costC at q; unfold costR at q2; simp only [inRange_i64, true_and]; omega)) (round_t 1 ((∀ (i : Nat), i < n → True ∧ True ∧ True ∧ True ∧ True ∧ True ∧ True ∧ True ∧ True) ∧ (∀ (i : Nat), i < n → True ∧ True ∧ True ∧ True ∧ True ∧ True ∧ True ∧ True ∧ True) ∧ True) (True) (by (simp)) (by (exact True.intro)) ?_)))))))) (fun h2 => aw_exits (round_exit (blk_exit (seq_normal (aw_reg0 (aw_ret (end_i (v) ?_))))))))
    · exact round_v ⟨(i + 1, v + (x i).c.we * ((x i).first + (x i).c.ho)), by show i + 1 ≤ n; omega, by show _ = sumN _ i + costR (x i); rw [hv]; rfl⟩ (by show n - (i + 1) < n - i; omega)
    · have : i = n := by omega
      subst this
      exact hv

def R60 : List D → Option (Option Prop × D)
  | [d0] => match runsO d0 with
    | some (q, n, x) => some (some (q ∧ n ≤ 1000 ∧ ∀ i, i < n → costC (x i)), i6 (sumN (fun i => costR (x i)) n))
    | _ => none
  | _ => none
noncomputable def T60 := orCl (aloC 60 R60) T26
theorem T60_ok (K : Cust) : ClOK K PG T60 := tab_cons cf_60 (fun ds p d h hp => by
    unfold R60 at h
    split at h
    · split at h
      · rename_i e0
        cases h
        obtain ⟨h1, h2, h3⟩ := hp _ rfl
        exact ⟨_, less_cons (runsO_less e0 h1) (Less.refl _), by simp [freeL, freeD, rowR_free], by simp [freeD], sum_alone _ _ h2 h3⟩
      · cases h
    · cases h) (T26_ok K)
theorem keepB_cost {h : Hall} {n : Nat} {c : Nat → Camp} {m : Nat} {p : Nat → Int} : okN (keepB h n c m p) n ≤ 1000 ∧ ∀ i, i < okN (keepB h n c m p) n → costC (planR c p i) := by
  cases e : keepB h n c m p with
  | false => exact ⟨by simp [okN], fun i hi => by simp [okN] at hi⟩
  | true =>
    obtain ⟨hm, k1, k2, k3, k4, hk⟩ := keepB_keepC e
    obtain ⟨v1, v2, v3, v4, v5⟩ := okB_runs (p := p) (keepB_ok e).1
    refine ⟨k2, fun i hi => ?_⟩
    have hi' : i < n := hi
    have q := hk i hi'
    have q2 : campB h.n (c i) = true := v5 i hi'
    simp only [campB, decide_eq_true_eq] at q2
    show 0 ≤ (c i).we ∧ (c i).we ≤ 100 ∧ 0 ≤ p i + (c i).ho ∧ p i + (c i).ho ≤ 2000
    omega
def costB (h : Hall) (n : Nat) (c : Nat → Camp) (m : Nat) (p : Nat → Int) : Int := sumN (fun i => costR (planR c p i)) (okN (keepB h n c m p) n)
def checkB (h : Hall) (n : Nat) (c : Nat → Camp) (m : Nat) (p : Nat → Int) : Bre := bif okB h n c m then (bif (breB h n (planR c p)).rule == 0 then bre0 else breB h n (planR c p)) else bre0

theorem cost_plan (h : Hall) (n : Nat) (c : Nat → Camp) (m : Nat) (p : Nat → Int) (hn : h.n ≤ 100000 ∧ h.m ≤ 100000 ∧ n ≤ 100000 ∧ m ≤ 100000) : Alone PG 22 [.agg (hallD h), rowC n c, rowI m p] (.tup [i6 (costB h n c m p), i6 (obErr h n c m p)]) :=
  Alone.ofW (cl := T60) (raw := false) hm0 T60_ok cf_22 fun K w => by
    refine aw_reg0 (aw_reg (True ∧ ((∀ (i : Nat), i < h.n → [i6 (h.st i)] = [i6 (h.st i)]) ∧ ∀ (i : Nat), i < h.m → [i6 (h.en i)] = [i6 (h.en i)]) ∧ (∀ (i : Nat), i < n → campD (c i) = campD (c i)) ∧ (∀ (i : Nat), i < m → [i6 (p i)] = [i6 (p i)]) ∧ n ≤ (100000 : Nat) ∧ m ≤ (100000 : Nat) ∧ h.n ≤ (100000 : Nat) ∧ h.m ≤ (100000 : Nat)) (by (simp <;> omega)) (aw_reg (True ∧ (∀ (i : Nat), i < okN (keepB h n c m p) n → runD (planR c p i) = runD (planR c p i)) ∧ okN (keepB h n c m p) n ≤ (1000 : Nat) ∧ ∀ (i : Nat), i < okN (keepB h n c m p) n → costC (planR c p i)) (by (have q := keepB_cost (h := h) (n := n) (c := c) (m := m) (p := p); exact ⟨trivial, fun _ _ => rfl, q.1, q.2⟩)) (aw_ret (end_d (D.tup [D.val (Value.int IntKind.i64 (sumN (fun (i : Nat) => costR (planR c p i)) (okN (keepB h n c m p) n))), D.val (Value.int IntKind.i64 (obErr h n c m p))]) ?_))))
    rfl

def R22 : List D → Option (Option Prop × D)
  | [d0, d1, d2] => match hallO d0, campsO d1, intsO d2 with
    | some (q0, h), some (q1, n, c), some (q2, m, p) => some (some (q0 ∧ q1 ∧ q2 ∧ (h.n ≤ 100000 ∧ h.m ≤ 100000 ∧ n ≤ 100000 ∧ m ≤ 100000)), .tup [i6 (costB h n c m p), i6 (obErr h n c m p)])
    | _, _, _ => none
  | _ => none
noncomputable def T22 := orCl (aloC 22 R22) T60
theorem T22_ok (K : Cust) : ClOK K PG T22 := tab_cons cf_22 (fun ds p d h hp => by
    unfold R22 at h
    split at h
    · split at h
      · rename_i e0 e1 e2
        cases h
        obtain ⟨h1, h2, h3, h4⟩ := hp _ rfl
        exact ⟨_, less_cons (hallO_less e0 h1) (less_cons (campsO_less e1 h2) (less_cons (intsO_less e2 h3) (Less.refl _))), by simp [freeL, freeD, rowC_free, rowI_free, hallD_free], by simp [freeD, freeL, breD_free], cost_plan _ _ _ _ _ h4⟩
      · cases h
    · cases h) (T60_ok K)
theorem check_plan (h : Hall) (n : Nat) (c : Nat → Camp) (m : Nat) (p : Nat → Int) (hn : h.n ≤ 100000 ∧ h.m ≤ 100000 ∧ n ≤ 100000 ∧ m ≤ 100000) : Alone PG 21 [.agg (hallD h), rowC n c, rowI m p] (.tup [.agg (breD (checkB h n c m p)), i6 (obErr h n c m p)]) :=
  Alone.ofW (cl := T22) (raw := false) hm0 T22_ok cf_21 fun K w => by
    refine aw_reg0 (aw_reg (True ∧ ((∀ (i : Nat), i < h.n → [i6 (h.st i)] = [i6 (h.st i)]) ∧ ∀ (i : Nat), i < h.m → [i6 (h.en i)] = [i6 (h.en i)]) ∧ (∀ (i : Nat), i < n → campD (c i) = campD (c i)) ∧ (∀ (i : Nat), i < m → [i6 (p i)] = [i6 (p i)]) ∧ n ≤ (100000 : Nat) ∧ m ≤ (100000 : Nat) ∧ h.n ≤ (100000 : Nat) ∧ h.m ≤ (100000 : Nat)) (by (simp <;> omega)) (aw_assoc (aw_reg0 (aw_ifsne (plErr h n c m) ((0 : Int)) (fun h1 => aw_assoc (aw_reg0 (aw_rets (end_d (D.tup [D.agg [D.val (Value.int IntKind.u8 (0 : Int)), D.val (Value.int IntKind.i64 (0 : Int)), D.val (Value.int IntKind.i64 (0 : Int)), D.val (Value.int IntKind.i64 (0 : Int))], D.val (Value.int IntKind.i64 (plErr h n c m))]) ?_)))) (fun h2 => aw_skips (aw_assoc (aw_reg (True ∧ ((∀ (i : Nat), i < h.n → [i6 (h.st i)] = [i6 (h.st i)]) ∧ ∀ (i : Nat), i < h.m → [i6 (h.en i)] = [i6 (h.en i)]) ∧ (∀ (i : Nat), i < okN (okB h n c m) n → runD (planR c p i) = runD (planR c p i)) ∧ runsC h (okN (okB h n c m) n) (planR c p)) (by (have e := plErr_ok (by assumption); rw [e]; exact ⟨trivial, ⟨fun _ _ => rfl, fun _ _ => rfl⟩, fun _ _ => rfl, okB_runs e⟩)) (aw_assoc (aw_reg0 (aw_ifsne ((breB h (okN (okB h n c m) n) (planR c p)).rule) ((0 : Int)) (fun h3 => aw_assoc (aw_reg0 (aw_rets (end_d (D.tup [D.agg [D.val (Value.int IntKind.u8 (breB h (okN (okB h n c m) n) (planR c p)).rule), D.val (Value.int IntKind.i64 (breB h (okN (okB h n c m) n) (planR c p)).a), D.val (Value.int IntKind.i64 (breB h (okN (okB h n c m) n) (planR c p)).b), D.val (Value.int IntKind.i64 (breB h (okN (okB h n c m) n) (planR c p)).hour)], D.val (Value.int IntKind.i64 (100 : Int))]) ?_)))) (fun h4 => aw_skips (aw_reg0 (aw_ret (end_d (D.tup [D.agg [D.val (Value.int IntKind.u8 (0 : Int)), D.val (Value.int IntKind.i64 (0 : Int)), D.val (Value.int IntKind.i64 (0 : Int)), D.val (Value.int IntKind.i64 (0 : Int))], D.val (Value.int IntKind.i64 (0 : Int))]) ?_))))))))))))))
    · have e := plErr_bad h1
      simp [checkB, obErr, e, bre0, breD]
    · have e := plErr_ok h2
      simp only [e, okN, cond_true] at h3
      have h3' : ((breB h n (planR c p)).rule == 0) = false := by simpa using h3
      simp [checkB, obErr, e, h3', okN, breD]
    · have e := plErr_ok h2
      simp only [e, okN, cond_true] at h4
      simp [checkB, obErr, e, h4, bre0, breD]

def R21 : List D → Option (Option Prop × D)
  | [d0, d1, d2] => match hallO d0, campsO d1, intsO d2 with
    | some (q0, h), some (q1, n, c), some (q2, m, p) => some (some (q0 ∧ q1 ∧ q2 ∧ (h.n ≤ 100000 ∧ h.m ≤ 100000 ∧ n ≤ 100000 ∧ m ≤ 100000)), .tup [.agg (breD (checkB h n c m p)), i6 (obErr h n c m p)])
    | _, _, _ => none
  | _ => none
noncomputable def T21 := orCl (aloC 21 R21) T22
theorem T21_ok (K : Cust) : ClOK K PG T21 := tab_cons cf_21 (fun ds p d h hp => by
    unfold R21 at h
    split at h
    · split at h
      · rename_i e0 e1 e2
        cases h
        obtain ⟨h1, h2, h3, h4⟩ := hp _ rfl
        exact ⟨_, less_cons (hallO_less e0 h1) (less_cons (campsO_less e1 h2) (less_cons (intsO_less e2 h3) (Less.refl _))), by simp [freeL, freeD, rowC_free, rowI_free, hallD_free], by simp [freeD, freeL, breD_free], check_plan _ _ _ _ _ h4⟩
      · cases h
    · cases h) (T22_ok K)
theorem cost_ref (n : Nat) (c : Nat → Camp) (m : Nat) (p : Nat → Int) (hm : m = n) (hn : n ≤ 1000) (h : ∀ i, i < n → costC (planR c p i)) : Alone PG 28 [rowC n c, rowI m p] (i6 (sumN (fun i => costR (planR c p i)) n)) :=
  Alone.ofW (cl := T21) (raw := false) hm0 T21_ok cf_28 fun K w => by
    refine aw_reg0 (aw_reg0 (aw_assoc (aw_reg0 (?_))))
    refine aw_loopV (ι := {z : Nat × Int // z.1 ≤ n ∧ z.2 = sumN (fun i => costR (planR c p i)) z.1}) hm0 (T21_ok K) (fun z => [(6, i6 z.1.1), (5, i6 z.1.2)]) (fun _ => []) (fun z => n - z.1.1) ⟨(0, 0), Nat.zero_le n, rfl⟩ (fun z => ?_)
    obtain ⟨⟨i, v⟩, hi, hv⟩ := z
    simp only at hi hv
    have hb := sum_b (x := planR c p) hn h i hi
    refine aw_assoc (aw_reg0 (aw_ifsd ((↑i : Int) < (↑n : Int)) (fun h1 => aw_skips (aw_blocks (aw_end ((((((True ∧ (0 : Int) ≤ (↑i : Int) ∧ (↑i : Int) < (↑n : Int)) ∧ (0 : Int) ≤ (↑i : Int) ∧ (↑i : Int) < (↑m : Int)) ∧ (0 : Int) ≤ (↑i : Int) ∧ (↑i : Int) < (↑n : Int)) ∧ inRange IntKind.i64 (p i + (c i).ho)) ∧ inRange IntKind.i64 ((c i).we * (p i + (c i).ho))) ∧ inRange IntKind.i64 (v + (c i).we * (p i + (c i).ho))) (by (have q := h i (by omega); have q2 := costC_b q; change 0 ≤ (c i).we ∧ (c i).we ≤ 100 ∧ 0 ≤ p i + (c i).ho ∧ p i + (c i).ho ≤ 2000 at q; change 0 ≤ (c i).we * (p i + (c i).ho) ∧ (c i).we * (p i + (c i).ho) ≤ 200000 at q2; simp only [inRange_i64, true_and]; omega)) (blk_normal (seq_normal (aw_end (True ∧ inRange IntKind.i64 ((↑i : Int) + (1 : Int))) (by (have q := h i (by omega); have q2 := costC_b q; change 0 ≤ (c i).we ∧ (c i).we ≤ 100 ∧ 0 ≤ p i + (c i).ho ∧ p i + (c i).ho ≤ 2000 at q; change 0 ≤ (c i).we * (p i + (c i).ho) ∧ (c i).we * (p i + (c i).ho) ≤ 200000 at q2; simp only [inRange_i64, true_and]; omega)) (round_t 1 ((∀ (i : Nat), i < n → True ∧ True ∧ True ∧ True ∧ True ∧ True ∧ True ∧ True) ∧ (∀ (i : Nat), i < m → True ∧ True) ∧ True) (True) (by (simp)) (by (exact True.intro)) ?_))))))) (fun h2 => aw_exits (round_exit (blk_exit (seq_normal (aw_reg0 (aw_ret (end_i (v) ?_)))))))))
    · exact round_v ⟨(i + 1, v + (c i).we * (p i + (c i).ho)), by show i + 1 ≤ n; omega, by show _ = sumN _ i + costR (planR c p i); rw [hv]; rfl⟩ (by show n - (i + 1) < n - i; omega)
    · have : i = n := by omega
      subst this
      exact hv

def R28 : List D → Option (Option Prop × D)
  | [d0, d1] => match campsO d0, intsO d1 with
    | some (q1, n, c), some (q2, m, p) => some (some (q1 ∧ q2 ∧ m = n ∧ n ≤ 1000 ∧ ∀ i, i < n → costC (planR c p i)), i6 (sumN (fun i => costR (planR c p i)) n))
    | _, _ => none
  | _ => none
noncomputable def T28 := orCl (aloC 28 R28) T21
theorem T28_ok (K : Cust) : ClOK K PG T28 := tab_cons cf_28 (fun ds p d h hp => by
    unfold R28 at h
    split at h
    · split at h
      · rename_i e0 e1
        cases h
        obtain ⟨h1, h2, h3, h4, h5⟩ := hp _ rfl
        exact ⟨_, less_cons (campsO_less e0 h1) (less_cons (intsO_less e1 h2) (Less.refl _)), by simp [freeL, freeD, rowC_free, rowI_free], by simp [freeD], cost_ref _ _ _ _ h3 h4 h5⟩
      · cases h
    · cases h) (T21_ok K)
def enB (c : Nat → Camp) (p : Nat → Int) (t : Int) : Nat → Int
  | 0 => 0
  | n + 1 => bif decide (∃ j, j < n ∧ runsP (c j) (p j) t = true) then enB c p t n else bif runsP (c n) (p n) t then (c n).en else 0
theorem enB_none {c : Nat → Camp} {p : Nat → Int} {t : Int} : ∀ n, (∀ j, j < n → runsP (c j) (p j) t = false) → enB c p t n = 0
  | 0, _ => rfl
  | n + 1, h => by
    have e : decide (∃ j, j < n ∧ runsP (c j) (p j) t = true) = false := decide_eq_false (by rintro ⟨j, hj, q⟩; rw [h j (by omega)] at q; cases q)
    simp only [enB, e, cond_false, h n (by omega)]
theorem enB_at {c : Nat → Camp} {p : Nat → Int} {t : Int} {i : Nat} (hi : runsP (c i) (p i) t = true) (h : ∀ j, j < i → runsP (c j) (p j) t = false) : ∀ n, i < n → enB c p t n = (c i).en
  | 0, hn => by omega
  | n + 1, hn => by
    by_cases q : i = n
    · subst q
      have e : decide (∃ j, j < i ∧ runsP (c j) (p j) t = true) = false := decide_eq_false (by rintro ⟨j, hj, q⟩; rw [h j (by omega)] at q; cases q)
      simp only [enB, e, cond_false, hi, cond_true]
    · have e : decide (∃ j, j < n ∧ runsP (c j) (p j) t = true) = true := decide_eq_true ⟨i, by omega, hi⟩
      simp only [enB, e, cond_true]
      exact enB_at hi h n (by omega)

theorem energy_ref (n : Nat) (c : Nat → Camp) (m : Nat) (p : Nat → Int) (t : Int) (hm : m = n) (hp : smallP n p) (hu : -1000000 ≤ t ∧ t ≤ 1000000) (hn : n ≤ 100000) : Alone PG 30 [rowC n c, rowI m p, i6 t] (i6 (enB c p t n)) :=
  Alone.ofW (cl := T28) (raw := false) hm0 T28_ok cf_30 fun K w => by
    refine aw_reg0 (aw_assoc (aw_reg0 (?_)))
    refine aw_loopV (ι := {i : Nat // i ≤ n ∧ ∀ j, j < i → runsP (c j) (p j) t = false}) hm0 (T28_ok K) (fun z => [(7, i6 z.1)]) (fun _ => []) (fun z => n - z.1) ⟨0, Nat.zero_le _, fun j hj => by omega⟩ (fun z => ?_)
    obtain ⟨i, hi, hall⟩ := z
    refine aw_assoc (aw_reg0 (aw_ifsd ((↑i : Int) < (↑n : Int)) (fun h1 => aw_skips (aw_blocks (aw_reg (((True ∧ (0 : Int) ≤ (↑i : Int) ∧ (↑i : Int) < (↑n : Int)) ∧ (0 : Int) ≤ (↑i : Int) ∧ (↑i : Int) < (↑m : Int)) ∧ ((-1000000 : Int) ≤ p i ∧ p i ≤ (1000000 : Int)) ∧ (-1000000 : Int) ≤ t ∧ t ≤ (1000000 : Int)) (by (have := hp i (by omega); simp only [inRange_i64, true_and]; omega)) (aw_if (runsP (c i) (p i) t) (fun h2 => aw_reg (True ∧ (0 : Int) ≤ (↑i : Int) ∧ (↑i : Int) < (↑n : Int)) (by (have := hp i (by omega); simp only [inRange_i64, true_and]; omega)) (aw_ret (blk_ret (seq_ret (round_ret (blk_ret (seq_ret (end_i ((c i).en) ?_)))))))) (fun h3 => aw_skip (blk_normal (seq_normal (aw_end (True ∧ inRange IntKind.i64 ((↑i : Int) + (1 : Int))) (by (have := hp i (by omega); simp only [inRange_i64, true_and]; omega)) (round_t 1 ((∀ (i : Nat), i < n → True ∧ True ∧ True ∧ True ∧ True ∧ True ∧ True ∧ True) ∧ (∀ (i : Nat), i < m → True ∧ True) ∧ True) (True) (by (simp)) (by (exact True.intro)) ?_))))))))) (fun h4 => aw_exits (round_exit (blk_exit (seq_normal (aw_reg0 (aw_ret (end_i ((0 : Int)) ?_)))))))))
    · exact (enB_at (by assumption) hall n (by omega)).symm
    · exact round_v ⟨i + 1, by omega, fun j hj => by
        rcases Nat.lt_or_ge j i with q | q
        · exact hall j q
        · obtain rfl : j = i := by omega
          assumption⟩ (by show n - (i + 1) < n - i; omega)
    · exact (enB_none n fun j hj => hall j (by omega)).symm

def R30 : List D → Option (Option Prop × D)
  | [d0, d1, d2] => match campsO d0, intsO d1, inO d2 with
    | some (q1, n, c), some (q2, m, p), some t => some (some (q1 ∧ q2 ∧ m = n ∧ smallP n p ∧ (-1000000 ≤ t ∧ t ≤ 1000000) ∧ n ≤ 100000), i6 (enB c p t n))
    | _, _, _ => none
  | _ => none
noncomputable def T30 := orCl (aloC 30 R30) T28
theorem T30_ok (K : Cust) : ClOK K PG T30 := tab_cons cf_30 (fun ds p d h hp => by
    unfold R30 at h
    split at h
    · split at h
      · rename_i e0 e1 e2
        obtain rfl := inO_eq e2
        cases h
        obtain ⟨h1, h2, h3, h4, h5, h6⟩ := hp _ rfl
        exact ⟨_, less_cons (campsO_less e0 h1) (less_cons (intsO_less e1 h2) (Less.refl _)), by simp [freeL, freeD, rowC_free, rowI_free], by simp [freeD], energy_ref _ _ _ _ _ h3 h4 h5 h6⟩
      · cases h
    · cases h) (T28_ok K)
end Go.Ev
end
section
open Go Go.Ev Go.RowKit
namespace Go.Ev
set_option maxRecDepth 100000
set_option maxHeartbeats 2000000
set_option linter.all false
def fillI (b e v : Int) (c : Nat → Int) (j : Nat) : Int := if b ≤ (j : Int) ∧ (j : Int) < e then v else c j
theorem fill_set {b t v : Int} {c : Nat → Int} (h0 : 0 ≤ t) (hb : b ≤ t) : (fun j => D.val (.int .i64 (fillI b (t + 1) v c j))) = updF (fun j => D.val (.int .i64 (fillI b t v c j))) t.toNat [D.val (.int .i64 v)] := by
  funext j
  show _ = (match Nat.beq j t.toNat with | true => _ | false => _)
  cases h : Nat.beq j t.toNat with
  | true =>
    have e := Nat.eq_of_beq_eq_true h
    subst e
    simp only [fillI]
    congr 2
    rw [if_pos (by omega)]
  | false =>
    have e := Nat.ne_of_beq_eq_false h
    simp only [fillI]
    congr 2
    by_cases hj : b ≤ (j : Int) ∧ (j : Int) < t
    · rw [if_pos hj, if_pos (by omega)]
    · rw [if_neg hj, if_neg (by omega)]
theorem fill_0 {b v : Int} {c : Nat → Int} : (fun j => D.val (.int .i64 (c j))) = fun j => D.val (.int .i64 (fillI b b v c j)) := by
  funext j
  simp only [fillI]
  rw [if_neg (by omega)]
def enW (x : Nat → Run) : Nat → Nat → Int
  | 0, _ => 0
  | i + 1, j => fillI (x i).first ((x i).first + (x i).c.ho) (x i).c.en (enW x i) j

theorem keepB_prep {h : Hall} {n : Nat} {c : Nat → Camp} {m : Nat} {p : Nat → Int} (e : keepB h n c m p = true) : ∀ i, i < n → 0 ≤ p i ∧ 1 ≤ (c i).ho ∧ (c i).ho ≤ 24 ∧ p i + (c i).ho ≤ h.n ∧ 0 ≤ p i - (c i).pr ∧ 0 ≤ (c i).pr := by
  obtain ⟨v1, v2, v3, v4, v5⟩ := okB_runs (p := p) (keepB_ok e).1
  have hl := timeB_late (breB_time (keepB_ok e).2)
  intro i hi
  have q1 : campB h.n (c i) = true := v5 i hi
  have q2 := late_n (hl i hi)
  simp only [campB, decide_eq_true_eq] at q1
  omega

theorem use_plan (h : Hall) (n : Nat) (c : Nat → Camp) (m : Nat) (p : Nat → Int) (hn : h.n ≤ 100000 ∧ h.m ≤ 100000 ∧ n ≤ 100000 ∧ m ≤ 100000) : Alone PG 23 [.agg (hallD h), rowC n c, rowI m p] (.tup [rowI (okN (keepB h n c m p) h.n) (enW (planR c p) n), rowI (okN (keepB h n c m p) h.n) (prepI (planR c p) n), i6 (obErr h n c m p)]) :=
  Alone.ofF (cl := T30) hm0 T30_ok cf_23 fun K w => by
    refine aw_reg0 (aw_reg (True ∧ ((∀ (i : Nat), i < h.n → [i6 (h.st i)] = [i6 (h.st i)]) ∧ ∀ (i : Nat), i < h.m → [i6 (h.en i)] = [i6 (h.en i)]) ∧ (∀ (i : Nat), i < n → campD (c i) = campD (c i)) ∧ (∀ (i : Nat), i < m → [i6 (p i)] = [i6 (p i)]) ∧ n ≤ (100000 : Nat) ∧ m ≤ (100000 : Nat) ∧ h.n ≤ (100000 : Nat) ∧ h.m ≤ (100000 : Nat)) (by (simp <;> omega)) (aw_assoc (aw_reg0 (aw_ifsne (obErr h n c m p) ((0 : Int)) (fun h1 => aw_assoc (aw_reg0 (aw_rets (end_f (D.tup [D.val (Value.slice none (0 : Nat) (0 : Nat)), D.val (Value.slice none (0 : Nat) (0 : Nat)), D.val (Value.int IntKind.i64 (obErr h n c m p))]) ?_)))) (fun h2 => aw_skips (aw_reg (True ∧ (0 : Int) ≤ (↑h.n : Int) ∧ (↑h.n : Int) ≤ (↑h.n : Int) ∧ (↑h.n : Int) ≤ (1048576 : Int) ∧ (8 : Nat) * h.n ≤ (16777216 : Nat)) (by (simp <;> omega)) (aw_assoc (aw_reg0 (?_)))))))))
    · have e := obErr_bad h1
      exact frz_tup (frzL_cons (frz_bad (by exact e)) (frzL_cons (frz_bad (by exact e)) (frzL_cons (frz_i rfl) frzL_nil)))
    · have e := obErr_ok h2
      have hk := keepB_prep e
      have en : okN (keepB h n c m p) n = n := by rw [e]; rfl
      refine aw_loopV (ι := {i : Nat // i ≤ n}) hm0 (T30_ok K) (fun z => [(29, i6 z.1)]) (fun z => [(3, .arr h.n fun j => .val (.int .i64 (enW (planR c p) z.1 j)))]) (fun z => n - z.1) ⟨0, Nat.zero_le n⟩ (fun z => ?_)
      obtain ⟨i, hi⟩ := z
      refine aw_reg0 (aw_ifsd ((↑i : Int) < (↑(okN (keepB h n c m p) n) : Int)) (fun h3 => aw_skips (aw_blocks (aw_reg (True ∧ (0 : Int) ≤ (↑i : Int) ∧ (↑i : Int) < (↑(okN (keepB h n c m p) n) : Int)) (by (simp only [inRange_i64, true_and]; omega)) (aw_reg0 (?_))))) (fun h4 => aw_exits (round_exit (blk_exit (seq_normal (aw_reg (True ∧ ((∀ (i : Nat), i < h.n → [i6 (h.st i)] = [i6 (h.st i)]) ∧ ∀ (i : Nat), i < h.m → [i6 (h.en i)] = [i6 (h.en i)]) ∧ (∀ (i : Nat), i < okN (keepB h n c m p) n → runD (planR c p i) = runD (planR c p i)) ∧ prepC h.n (okN (keepB h n c m p) n) (planR c p) ∧ okN (keepB h n c m p) n ≤ (1000000 : Nat) ∧ h.n ≤ (1000000 : Nat)) ?_ (aw_ret (end_f (D.tup [D.sl (3 : Nat) (0 : Nat) h.n (1 : Nat) none, D.row (1 : Nat) h.n fun (i : Nat) => [i6 (prepI (planR c p) (okN (keepB h n c m p) n) i)], D.val (Value.int IntKind.i64 (0 : Int))]) ?_))))))))
      · have hin : i < n := by omega
        have q := hk i hin
        refine aw_loopE (ι := {k : Int // 0 ≤ k ∧ k ≤ (c i).ho}) hm0 (T30_ok K) (fun z => [(36, i6 z.1)]) (fun z => [(3, .arr h.n fun j => .val (.int .i64 (fillI (p i) (p i + z.1) (c i).en (enW (planR c p) i) j)))]) (fun z => ((c i).ho - z.1).toNat) ⟨0, by omega, by omega⟩ (fun z => ?_) (by
          show _ = lst _ _ [(3, .arr h.n fun j => D.val (.int .i64 (fillI (p i) (p i + 0) (c i).en (enW (planR c p) i) j)))] _
          rw [Int.add_zero, ← fill_0]
          kernel_rfl)
        obtain ⟨k, hk1, hk2⟩ := z
        have r1 : (planR c p i).c.ho = (c i).ho := rfl
        have r2 : (planR c p i).first = p i := rfl
        refine aw_reg0 (aw_ifsd (k < (planR c p i).c.ho) (fun h4 => aw_skips (aw_blocks (aw_reg0 (aw_end (((True ∧ inRange IntKind.i64 ((planR c p i).first + k)) ∧ (0 : Int) ≤ (planR c p i).first + k ∧ (planR c p i).first + k < (↑h.n : Int)) ∧ Int.toNat ((planR c p i).first + k) + (1 : Nat) ≤ h.n) (by (simp only [inRange_i64, true_and]; omega)) (blk_normal (seq_normal (aw_end (True ∧ inRange IntKind.i64 (k + (1 : Int))) (by (simp only [inRange_i64, true_and]; omega)) (?_)))))))) (fun h5 => aw_exits (round_exit (blk_exit (blk_normal (seq_normal (aw_end (True ∧ inRange IntKind.i64 ((↑i : Int) + (1 : Int))) (by (simp only [inRange_i64, true_and]; omega)) (round_t 4 ((True ∧ True ∧ (∀ (i : Nat), i < h.n → True ∧ True) ∧ (∀ (i : Nat), i < h.m → True ∧ True) ∧ True) ∧ (∀ (i : Nat), i < n → True ∧ True ∧ True ∧ True ∧ True ∧ True ∧ True ∧ True) ∧ (∀ (i : Nat), i < m → True ∧ True) ∧ (∀ (i : Nat), i < okN (keepB h n c m p) n → True ∧ True ∧ True ∧ True ∧ True ∧ True ∧ True ∧ True ∧ True) ∧ ((∀ (i : Nat), i < okN (keepB h n c m p) n → True ∧ True ∧ True ∧ True ∧ True ∧ True ∧ True ∧ True ∧ True) ∧ True ∧ True) ∧ (True ∧ True ∧ (∀ (i : Nat), i < h.n → True ∧ True) ∧ (∀ (i : Nat), i < h.m → True ∧ True) ∧ True) ∧ (∀ (i : Nat), i < n → True ∧ True ∧ True ∧ True ∧ True ∧ True ∧ True ∧ True) ∧ (∀ (i : Nat), i < m → True ∧ True) ∧ ((∀ (i : Nat), i < okN (keepB h n c m p) n → True ∧ True ∧ True ∧ True ∧ True ∧ True ∧ True ∧ True ∧ True) ∧ True ∧ True) ∧ (∀ (i : Nat), i < okN (keepB h n c m p) n → True ∧ True ∧ True ∧ True ∧ True ∧ True ∧ True ∧ True ∧ True) ∧ (∀ (i : Nat), i < h.n → True ∧ True) ∧ (∀ (i : Nat), i < okN (keepB h n c m p) n → True ∧ True ∧ True ∧ True ∧ True ∧ True ∧ True ∧ True ∧ True) ∧ True) (((∀ (i : Nat), i < h.n → True ∧ True) ∧ (∀ (i : Nat), i < h.m → True ∧ True) ∧ True) ∧ (∀ (j : Nat), j < h.n → True) ∧ True) (by (simp)) (by (simp)) ?_))))))))
        · refine round_v ⟨k + 1, by omega, by omega⟩ (by show ((c i).ho - (k + 1)).toNat < ((c i).ho - k).toNat; omega) ?_
          show _ = lst _ _ [(3, .arr h.n fun j => D.val (.int .i64 (fillI (p i) (p i + (k + 1)) (c i).en (enW (planR c p) i) j)))] _
          rw [show p i + (k + 1) = p i + k + 1 by omega, fill_set (by omega) (by omega)]
          kernel_rfl
        · obtain rfl : k = (c i).ho := by omega
          exact round_v ⟨i + 1, by omega⟩ (by show n - (i + 1) < n - i; omega)
      · refine ⟨trivial, ⟨fun _ _ => rfl, fun _ _ => rfl⟩, fun _ _ => rfl, fun i hi => ?_, by rw [en]; omega, by omega⟩
        rw [en] at hi
        have q := hk i hi
        refine ⟨keepB_small e i hi, ?_⟩
        show 0 ≤ p i - (c i).pr ∧ p i ≤ h.n
        omega
      · have hin : i = n := by rw [en] at *; omega
        rw [e] at *
        have eo : obErr h n c m p = 0 := h2
        subst hin
        exact frz_tup (frzL_cons (frz_ints (m := h.n) (f := fun j => D.val (.int .i64 (enW (planR c p) i j))) (by kernel_rfl) (Nat.le_refl _) (fun j _ => rfl)) (frzL_cons (frz_free (rowI_free _ _)) (frzL_cons (frz_i eo.symm) frzL_nil)))

end Go.Ev
end
section
open Go Go.Ev Go.RowKit
namespace Go.Ev
set_option maxRecDepth 100000
set_option maxHeartbeats 2000000
set_option linter.all false
def cmp3 (a b : Int) : Int := bif decide (a < b) then -1 else bif decide (a > b) then 1 else 0
theorem isnan (x : Int) : Alone PG 94 [i6 x] (bD false) :=
  Alone.ofW (cl := T30) (raw := false) hm0 T30_ok cf_94 fun K w => by
    refine aw_reg0 (aw_reg0 (aw_ret (end_b (x != x) ?_)))
    all_goals first
      | rfl
      | (rename_i q; exact absurd rfl q)
      | simp_all

def R94 : List D → Option (Option Prop × D)
  | [d0] => match inO d0 with
    | some x => some (none, bD false)
    | _ => none
  | _ => none
noncomputable def T94 := orCl (aloC 94 R94) T30
theorem T94_ok (K : Cust) : ClOK K PG T94 := tab_cons cf_94 (fun ds p d h hp => by
    unfold R94 at h
    split at h
    · split at h
      · rename_i e0
        obtain rfl := inO_eq e0
        cases h
        exact ⟨_, Less.refl _, by simp [freeL, freeD, campD_free, runD_free], by simp [freeD, freeL], isnan _⟩
      · cases h
    · cases h) (T30_ok K)
theorem cmp_alone (a b : Int) : Alone PG 64 [i6 a, i6 b] (i6 (cmp3 a b)) :=
  Alone.ofW (cl := T94) (raw := false) hm0 T94_ok cf_64 fun K w => by
    refine aw_reg0 (aw_reg0 (aw_reg0 (aw_assoc (aw_reg0 (aw_no (aw_skips (aw_assoc (aw_reg0 (aw_no (aw_skips (aw_assoc (aw_reg0 (aw_ifsd (a < b) (fun h1 => aw_assoc (aw_reg0 (aw_rets (end_i ((-1 : Int)) ?_)))) (fun h2 => aw_skips (aw_assoc (aw_reg0 (aw_ifsd (a > b) (fun h3 => aw_assoc (aw_reg0 (aw_rets (end_i ((1 : Int)) ?_)))) (fun h4 => aw_skips (aw_reg0 (aw_ret (end_i ((0 : Int)) ?_)))))))))))))))))))))
    all_goals (unfold cmp3; first | (rw [decide_eq_true (p := a < b) (by omega)]; rfl) | (rw [decide_eq_false (p := a < b) (by omega), decide_eq_true (p := a > b) (by omega)]; rfl) | (rw [decide_eq_false (p := a < b) (by omega), decide_eq_false (p := a > b) (by omega)]; rfl))

def R64 : List D → Option (Option Prop × D)
  | [d0, d1] => match inO d0, inO d1 with
    | some a, some b => some (none, i6 (cmp3 a b))
    | _, _ => none
  | _ => none
noncomputable def T64 := orCl (aloC 64 R64) T94
theorem T64_ok (K : Cust) : ClOK K PG T64 := tab_cons cf_64 (fun ds p d h hp => by
    unfold R64 at h
    split at h
    · split at h
      · rename_i e0 e1
        obtain rfl := inO_eq e0
        obtain rfl := inO_eq e1
        cases h
        exact ⟨_, Less.refl _, by simp [freeL, freeD], by simp [freeD], cmp_alone _ _⟩
      · cases h
    · cases h) (T94_ok K)
def keyI (x : Nat → Run) (v : Int) : Int := (x v.toNat).first - (x v.toNat).c.pr
theorem order_alone (n : Nat) (x : Nat → Run) (i j : Nat) (hi : i < n) (hj : j < n) (h : ∀ i, i < n → smallR (x i)) : Alone PG 63 [i6 i, i6 j, .ref [rowR n x] 0] (i6 (cmp3 (keyI x i) (keyI x j))) :=
  Alone.ofW (cl := T64) (raw := false) hm0 T64_ok cf_63 fun K w => by
    refine aw_reg0 (aw_reg ((((True ∧ (0 : Int) ≤ (↑i : Int) ∧ (↑i : Int) < (↑n : Int)) ∧ inRange IntKind.i64 ((x i).first - (x i).c.pr)) ∧ (0 : Int) ≤ (↑j : Int) ∧ (↑j : Int) < (↑n : Int)) ∧ inRange IntKind.i64 ((x j).first - (x j).c.pr)) (by (have q1 := h i hi; have q2 := h j hj; unfold smallR at q1 q2; simp only [inRange_i64, true_and]; omega)) (aw_ret (end_i (cmp3 ((x i).first - (x i).c.pr) ((x j).first - (x j).c.pr)) ?_)))
    rfl

theorem order_int (n : Nat) (x : Nat → Run) (a b : Int) (ha : 0 ≤ a ∧ a < n) (hb : 0 ≤ b ∧ b < n) (h : ∀ i, i < n → smallR (x i)) : Alone PG 63 [i6 a, i6 b, .ref [rowR n x] 0] (i6 (cmp3 (keyI x a) (keyI x b))) := by
  have := order_alone n x a.toNat b.toNat (by omega) (by omega) h
  rwa [Int.toNat_of_nonneg ha.1, Int.toNat_of_nonneg hb.1] at this
def R63 : List D → Option (Option Prop × D)
  | [d0, d1, d2] => match inO d0, inO d1, runsR d2 with
    | some a, some b, some (q, n, x) => some (some (q ∧ (0 ≤ a ∧ a < n) ∧ (0 ≤ b ∧ b < n) ∧ ∀ i, i < n → smallR (x i)), i6 (cmp3 (keyI x a) (keyI x b)))
    | _, _, _ => none
  | _ => none
noncomputable def T63 := orCl (aloC 63 R63) T64
theorem T63_ok (K : Cust) : ClOK K PG T63 := tab_cons cf_63 (fun ds p d h hp => by
    unfold R63 at h
    split at h
    · split at h
      · rename_i e0 e1 e2
        obtain rfl := inO_eq e0
        obtain rfl := inO_eq e1
        cases h
        obtain ⟨h1, h2, h3, h4⟩ := hp _ rfl
        exact ⟨_, less_cons (LessD.refl _) (less_cons (LessD.refl _) (less_cons (runsR_less e2 h1) (Less.refl _))), by simp [freeL, freeD, rowR_free], by simp [freeD], order_int _ _ _ _ h2 h3 h4⟩
      · cases h
    · cases h) (T64_ok K)
def shiftA (s : Nat → Int) (i j t : Nat) : Int := if t < j then s t else if t = j then s i else if t ≤ i then s (t - 1) else s t
theorem shift_0 {s : Nat → Int} {i : Nat} : s = shiftA s i i := by
  funext t
  unfold shiftA
  split
  · rfl
  · split
    · rename_i h; rw [h]
    · rw [if_neg (by omega)]
theorem shift_set {s : Nat → Int} {i j : Nat} (h : j + 1 ≤ i) : (fun t => D.val (.int .i64 (shiftA s i j t))) = updF (updF (fun t => D.val (.int .i64 (shiftA s i (j + 1) t))) (j + 1) [D.val (.int .i64 (s j))]) j [D.val (.int .i64 (s i))] := by
  funext t
  show _ = (match Nat.beq t j with | true => _ | false => (match Nat.beq t (j + 1) with | true => _ | false => _))
  cases h1 : Nat.beq t j with
  | true =>
    have e := Nat.eq_of_beq_eq_true h1
    simp only [shiftA]
    congr 2
    repeat' split
    all_goals first
      | rfl
      | (exfalso; omega)
  | false =>
    have n1 := Nat.ne_of_beq_eq_false h1
    cases h2 : Nat.beq t (j + 1) with
    | true =>
      have e := Nat.eq_of_beq_eq_true h2
      simp only [shiftA]
      congr 2
      repeat' split
      all_goals first
        | rfl
        | (exfalso; omega)
        | (congr 1; omega)
    | false =>
      have n2 := Nat.ne_of_beq_eq_false h2
      simp only [shiftA]
      congr 2
      repeat' split
      all_goals first
        | rfl
        | (exfalso; omega)
        | (congr 1; omega)
theorem shift_at {s : Nat → Int} {i j : Nat} : shiftA s i j j = s i := by
  unfold shiftA
  rw [if_neg (by omega), if_pos rfl]
theorem shift_lt {s : Nat → Int} {i j t : Nat} (h : t < j) : shiftA s i j t = s t := by
  unfold shiftA
  rw [if_pos h]
theorem shift_setI {s : Nat → Int} {i j : Nat} (h0 : 0 < j) (h : j ≤ i) : (fun t => D.val (.int .i64 (shiftA s i (j - 1) t))) = updF (updF (fun t => D.val (.int .i64 (shiftA s i j t))) j [D.val (.int .i64 (shiftA s i j ((j : Int) - 1).toNat))]) ((j : Int) - 1).toNat [D.val (.int .i64 (shiftA s i j j))] := by
  obtain ⟨k, rfl⟩ : ∃ k, j = k + 1 := ⟨j - 1, by omega⟩
  have e : ((k + 1 : Nat) : Int) - 1 = (k : Int) := by omega
  rw [e, Int.toNat_natCast, shift_at, shift_lt (by omega)]
  exact shift_set h
def insGo (key : Int → Int) (s : Nat → Int) (v : Int) : Nat → Nat
  | 0 => 0
  | j + 1 => bif decide (key v < key (s j)) then insGo key s v j else j + 1
theorem insGo_at {key : Int → Int} {s : Nat → Int} {v : Int} {j : Nat} (h2 : j = 0 ∨ ¬ key v < key (s (j - 1))) : ∀ i, j ≤ i → (∀ t, j ≤ t → t < i → key v < key (s t)) → insGo key s v i = j
  | 0, h, _ => by simp only [insGo]; omega
  | i + 1, h, ha => by
    by_cases q : j = i + 1
    · have : ¬ key v < key (s i) := by
        rcases h2 with h2 | h2
        · omega
        · rw [q] at h2; exact h2
      simp only [insGo, decide_eq_false this, cond_false, q]
    · have := ha i (by omega) (by omega)
      simp only [insGo, decide_eq_true this, cond_true]
      exact insGo_at h2 i (by omega) fun t a b => ha t a (by omega)
def sortI (key : Int → Int) (c : Nat → Int) : Nat → Nat → Int
  | 0 => c
  | i + 1 => shiftA (sortI key c i) i (insGo key (sortI key c i) (sortI key c i i) i)
theorem sort_1 {key : Int → Int} {c : Nat → Int} : c = sortI key c 1 := by
  show c = shiftA c 0 0
  exact shift_0
theorem insGo_le {key : Int → Int} {s : Nat → Int} {v : Int} : ∀ i, insGo key s v i ≤ i
  | 0 => by simp [insGo]
  | i + 1 => by
    have := insGo_le (key := key) (s := s) (v := v) i
    simp only [insGo]
    cases decide (key v < key (s i)) <;> simp <;> omega
theorem shift_all {P : Int → Prop} {s : Nat → Int} {n i j : Nat} (hi : i < n) (hj : j ≤ i) (h : ∀ t, t < n → P (s t)) : ∀ t, t < n → P (shiftA s i j t) := by
  intro t ht
  unfold shiftA
  split
  · exact h t ht
  · split
    · exact h i hi
    · split
      · exact h (t - 1) (by omega)
      · exact h t ht
theorem sort_all {P : Int → Prop} {key : Int → Int} {c : Nat → Int} {n : Nat} (h : ∀ t, t < n → P (c t)) : ∀ i, i ≤ n → ∀ t, t < n → P (sortI key c i t)
  | 0, _ => h
  | i + 1, hi => shift_all (by omega) (insGo_le i) (sort_all h i (by omega))
theorem cmp3_neg {a b : Int} : cmp3 a b < 0 ↔ a < b := by
  unfold cmp3
  by_cases h : a < b
  · simp [h]
  · by_cases h2 : a > b
    · simp [h, h2]
    · simp [h, h2]

theorem ins_alone (N : Nat) (x : Nat → Run) (n : Nat) (c : Nat → Int) (hn : n ≤ 1000000 ∧ N ≤ 1000000) (hx : ∀ i, i < N → smallR (x i)) (hc : ∀ t, t < n → 0 ≤ c t ∧ c t < N) :
    AloneB PG 108 [.sl 1 0 n 1 none, i6 0, i6 n, .fn 63 [] [.ref [rowR N x] 0]] (n * 1) (arrI c) (.tup []) (arrI (sortI (keyI x) c n)) :=
  AloneB.ofW (cl := T63) hm0 T63_ok cf_108 fun K w b B => by
    refine aw_reg (True ∧ inRange IntKind.i64 ((0 : Int) + (1 : Int))) (by (simp only [inRange_i64, true_and]; omega)) (?_)
    refine aw_loopE (ι := {i : Nat // 1 ≤ i ∧ i ≤ max 1 n}) hm0 (T63_ok K) (fun z => [(8, i6 z.1)]) (fun z => [(1, .arr (n * 1) fun j => .val (arrI (sortI (keyI x) c z.1) j))]) (fun z => max 1 n - z.1) ⟨1, Nat.le_refl _, Nat.le_max_left ..⟩ (fun z => ?_) (by
      show _ = lst _ _ [(1, .arr (n * 1) fun j => D.val (.int .i64 (sortI (keyI x) c 1 j)))] _
      rw [← sort_1]
      kernel_rfl)
    obtain ⟨i, hi1, hi2⟩ := z
    refine aw_assoc (aw_reg0 (aw_ifsd ((↑i : Int) < (↑n : Int)) (fun h1 => aw_skips (aw_blocks (aw_reg0 (?_)))) (fun h2 => aw_exits (round_exit (blk_exit (end_w (fun (j : Nat) => D.val (arrI (sortI (keyI x) c i) j)) ?_))))))
    · have hin : i < n := by omega
      have hs := sort_all (P := fun v => 0 ≤ v ∧ v < N) (key := keyI x) hc i (by omega)
      generalize hS : sortI (keyI x) c i = S at *
      refine aw_loopE (ι := {j : Nat // j ≤ i ∧ ∀ t, j ≤ t → t < i → keyI x (S i) < keyI x (S t)}) hm0 (T63_ok K) (fun z => [(9, i6 z.1)]) (fun z => [(1, .arr (n * 1) fun t => .val (arrI (shiftA S i z.1) t))]) (fun z => z.1) ⟨i, Nat.le_refl _, fun t a b => by omega⟩ (fun z => ?_) (by
        show _ = lst _ _ [(1, .arr (n * 1) fun t => D.val (.int .i64 (shiftA S i i t)))] _
        rw [← shift_0]
        kernel_rfl)
      obtain ⟨j, hj, hkey⟩ := z
      have hsh := shift_all (P := fun v => 0 ≤ v ∧ v < N) (j := j) hin hj hs
      refine aw_assoc (aw_opens (awr_testd 4 (21 : Nat) (True) trivial ((↑j : Int) > (0 : Int)) (fun h2 => awr_end ((((((True ∧ (0 : Int) ≤ (↑j : Int) ∧ (↑j : Int) < (↑n : Int)) ∧ j < n * (1 : Nat)) ∧ inRange IntKind.i64 ((↑j : Int) - (1 : Int))) ∧ (0 : Int) ≤ (↑j : Int) - (1 : Int) ∧ (↑j : Int) - (1 : Int) < (↑n : Int)) ∧ Int.toNat ((↑j : Int) - (1 : Int)) < n * (1 : Nat)) ∧ (∀ (i : Nat), i < N → runD (x i) = runD (x i)) ∧ ((0 : Int) ≤ shiftA S i j j ∧ shiftA S i j j < (↑N : Int)) ∧ ((0 : Int) ≤ shiftA S i j (Int.toNat ((↑j : Int) - (1 : Int))) ∧ shiftA S i j (Int.toNat ((↑j : Int) - (1 : Int))) < (↑N : Int)) ∧ ∀ (i : Nat), i < N → smallR (x i)) ?_ (aw_ifsd (cmp3 (keyI x (shiftA S i j j)) (keyI x (shiftA S i j (Int.toNat ((↑j : Int) - (1 : Int))))) < (0 : Int)) (fun h3 => aw_skips (aw_blocks (aw_end ((((((((((True ∧ inRange IntKind.i64 ((↑j : Int) - (1 : Int))) ∧ inRange IntKind.i64 ((↑j : Int) - (1 : Int))) ∧ (0 : Int) ≤ (↑j : Int) - (1 : Int) ∧ (↑j : Int) - (1 : Int) < (↑n : Int)) ∧ Int.toNat ((↑j : Int) - (1 : Int)) < n * (1 : Nat)) ∧ (0 : Int) ≤ (↑j : Int) ∧ (↑j : Int) < (↑n : Int)) ∧ j < n * (1 : Nat)) ∧ (0 : Int) ≤ (↑j : Int) ∧ (↑j : Int) < (↑n : Int)) ∧ j + (1 : Nat) ≤ n * (1 : Nat)) ∧ (0 : Int) ≤ (↑j : Int) - (1 : Int) ∧ (↑j : Int) - (1 : Int) < (↑n : Int)) ∧ Int.toNat ((↑j : Int) - (1 : Int)) + (1 : Nat) ≤ n * (1 : Nat)) (by (simp only [inRange_i64, true_and]; omega)) (blk_normal (seq_normal (aw_end (True ∧ inRange IntKind.i64 ((↑j : Int) - (1 : Int))) (by (simp only [inRange_i64, true_and]; omega)) (round_t 2 ((True ∧ ((∀ (i : Nat), i < N → True ∧ True ∧ True ∧ True ∧ True ∧ True ∧ True ∧ True ∧ True) ∧ True) ∧ True) ∧ True) ((∀ (j_1 : Nat), j_1 < n * (1 : Nat) → needD (2 : Nat) (updF (updF (fun (t : Nat) => D.val (arrI (shiftA S i j) t)) j [D.val (arrI (shiftA S i j) (Int.toNat ((↑j : Int) - (1 : Int))))]) (Int.toNat ((↑j : Int) - (1 : Int))) [D.val (arrI (shiftA S i j) j)] j_1)) ∧ True) (by (simp)) ?_ ?_))))))) (fun h4 => aw_exits (round_exit (blk_exit (blk_normal (seq_normal (aw_end (True ∧ inRange IntKind.i64 ((↑i : Int) + (1 : Int))) (by (simp only [inRange_i64, true_and]; omega)) (round_t 2 ((True ∧ ((∀ (i : Nat), i < N → True ∧ True ∧ True ∧ True ∧ True ∧ True ∧ True ∧ True ∧ True) ∧ True) ∧ True) ∧ True) ((∀ (j : Nat), j < n * (1 : Nat) → True) ∧ True) (by (simp)) (by (simp)) ?_))))))))) (fun h5 => awr_end0 (aw_no (aw_exits (round_exit (blk_exit (blk_normal (seq_normal (aw_end (True ∧ inRange IntKind.i64 ((↑i : Int) + (1 : Int))) (by (simp only [inRange_i64, true_and]; omega)) (round_t 2 ((True ∧ ((∀ (i : Nat), i < N → True ∧ True ∧ True ∧ True ∧ True ∧ True ∧ True ∧ True ∧ True) ∧ True) ∧ True) ∧ True) ((∀ (j : Nat), j < n * (1 : Nat) → True) ∧ True) (by (simp)) (by (simp)) ?_)))))))))))
      · have q1 := hsh j (by omega)
        have q2 := hsh ((j : Int) - 1).toNat (by omega)
        simp only [inRange_i64, true_and, implies_true]
        exact ⟨by omega, q1, q2, hx⟩
      · exact ⟨fun t _ => need_updF _ (by simp [needD]) (need_updF _ (by simp [needD]) (by simp [needD])), trivial⟩
      · have hj0 : 0 < j := by omega
        have h3' : keyI x (S i) < keyI x (S (j - 1)) := by
          have q := cmp3_neg.1 h3
          rw [shift_at, shift_lt (by omega)] at q
          have e : ((j : Int) - 1).toNat = j - 1 := by omega
          rw [e] at q
          exact q
        refine round_v ⟨j - 1, by omega, fun t a b => ?_⟩ (by show j - 1 < j; omega) ?_
        · by_cases q : t = j - 1
          · rw [q]; exact h3'
          · exact hkey t (by omega) b
        · show _ = lst _ [(9, i6 ((j - 1 : Nat) : Int))] [(1, .arr (n * 1) fun t => D.val (.int .i64 (shiftA S i (j - 1) t)))] _
          rw [show ((j - 1 : Nat) : Int) = (j : Int) - 1 by omega, shift_setI hj0 hj]
          kernel_rfl
      · have hfin : sortI (keyI x) c (i + 1) = shiftA S i j := by
          have h4' : ¬ keyI x (S i) < keyI x (S (j - 1)) := fun q => h4 (by
            have e : ((j : Int) - 1).toNat = j - 1 := by omega
            rw [cmp3_neg, shift_at, shift_lt (by omega), e]
            exact q)
          show shiftA (sortI (keyI x) c i) i (insGo (keyI x) (sortI (keyI x) c i) (sortI (keyI x) c i i) i) = _
          rw [hS, insGo_at (.inr h4') i hj hkey]
        refine round_v ⟨i + 1, by omega, by omega⟩ (by show max 1 n - (i + 1) < max 1 n - i; omega) ?_
        show _ = lst _ _ [(1, .arr (n * 1) fun t => D.val (.int .i64 (sortI (keyI x) c (i + 1) t)))] _
        rw [hfin]
        kernel_rfl
      · have hfin : sortI (keyI x) c (i + 1) = shiftA S i j := by
          show shiftA (sortI (keyI x) c i) i (insGo (keyI x) (sortI (keyI x) c i) (sortI (keyI x) c i i) i) = _
          rw [hS, insGo_at (.inl (by omega)) i hj hkey]
        refine round_v ⟨i + 1, by omega, by omega⟩ (by show max 1 n - (i + 1) < max 1 n - i; omega) ?_
        show _ = lst _ _ [(1, .arr (n * 1) fun t => D.val (.int .i64 (sortI (keyI x) c (i + 1) t)))] _
        rw [hfin]
        kernel_rfl
    · have : sortI (keyI x) c i = sortI (keyI x) c n := by
        rcases Nat.eq_zero_or_pos n with q | q
        · have : i = 1 := by omega
          rw [this, q, ← sort_1]
          rfl
        · have : i = n := by omega
          rw [this]
      exact fun j _ => by rw [this]

end Go.Ev
end
section
namespace Go.Ev
/-! ### Loops whose rounds need a block more than was there before (a slice that is nil at first, and then grows) -/
section
variable {K : Cust} {P : Program} {w0 : World} {ρ0 : List Own} {hp0 : List Blk} {cl : FuncId → List D → List Blk → Nat → Option Out} {s : St} {Q : Ex → St → Prop}
noncomputable def grown (n : Nat) (s : St) : St := ⟨s.p, s.sl, s.hp ++ deads n, s.base, s.wr⟩
theorem Wk.grow (n : Nat) : Wk K w0 ρ0 hp0 s (grown n s) := fun _ _ _ h => ⟨_, h.grow n⟩
theorem aw_loopG {ι : Type} (n : Nat) (hm : P.follows .mixedOrders = true) (hcl : ClOK K P cl) {b r : ACode} {j : Nat} (car : ι → List (Nat × D)) (bl : ι → List (Nat × Blk)) (μ : ι → Nat) (i : ι)
    (round : ∀ i, AW cl (LoopA K P w0 ρ0 hp0) b (lst b (car i) (bl i) (grown n s)) (RoundP K w0 ρ0 hp0 (fun i => lst b (car i) (bl i) (grown n s)) μ i (blkP j (seqP cl (LoopA K P w0 ρ0 hp0) r Q))))
    (he : fgt (lessL (csL (car i)) (dstC b)) (grown n s) = lst b (car i) (bl i) (grown n s) := by kernel_rfl) : AW cl (LoopA K P w0 ρ0 hp0) (.seq (.block j (.loop b)) r) s Q :=
  aw_loopW hm hcl (fun i => lst b (car i) (bl i) (grown n s)) μ i round ((Wk.grow n).trans (he ▸ Wk.fgt _ _))
end
end Go.Ev
end
section
namespace Go.Ev
section
variable {K : Cust} {P : Program} {w0 : World} {ρ0 : List Own} {hp0 : List Blk} {s s0 : St} {Q : Ex → St → Prop}
/-- at the end of a round a block is told anew -/
theorem round_rb {ι : Type} {st : ι → St} {μ : ι → Nat} {i : ι} (id : Nat) (xp x' : Blk) (hx : ∀ (K : Cust) (w : World) (M : World) (ρ : List Own) (o : Own), RepB K w M ρ o xp → RepB K w M ρ o x')
    (h : RoundP K w0 ρ0 hp0 st μ i Q .normal (reb id x' s)) (ep : getG s.hp id = some xp := by kernel_rfl) (hb : Nat.ble s.base id = true := by kernel_rfl) : RoundP K w0 ρ0 hp0 st μ i Q .normal s := by
  rw [getG_eq] at ep
  have epd : s.hp.getD id .dead = xp := by rw [List.getD_eq_getElem?_getD, ep]; rfl
  exact round_wk (Wk.reblk (id := id) (x' := x') (Nat.le_of_ble_eq_true hb) fun w M ρ o hr => hx K w M ρ o (epd ▸ hr)) h
theorem cells_arr {cs : List D} {n : Nat} {f : Nat → D} (hn : cs.length = n) (h : ∀ j, j < n → getK cs j = f j) : ∀ (K : Cust) (w : World) (M : World) (ρ : List Own) (o : Own), RepB K w M ρ o (.cells cs) → RepB K w M ρ o (.arr n f) := fun K w M ρ o hr => by
  have e : cs = tabL n f := tabL_ext hn fun j hj => by
    rw [← h j hj, getK_eq, List.getD_eq_getElem?_getD, List.getElem?_eq_getElem (by omega)]
    rfl
  subst e
  exact RepB_flat.1 hr
theorem arr_arr {m n : Nat} {f g : Nat → D} (hn : m = n) (h : ∀ j, j < n → f j = g j) : ∀ (K : Cust) (w : World) (M : World) (ρ : List Own) (o : Own), RepB K w M ρ o (.arr m f) → RepB K w M ρ o (.arr n g) := by
  subst hn
  exact blk_congr h
end
end Go.Ev
end
