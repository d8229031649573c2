import Derived.Test.YtmekepomgofiaaaF19
import Derived.Test.YtmekepomgofiaaaF12
import Derived.Test.YtmekepomgofiaaaF17
import Derived.Test.YtmekepomgofiaaaF14
set_option linter.all false
section
open Go Go.Ev Go.RowKit
namespace Go.Ev
set_option maxRecDepth 100000
set_option maxHeartbeats 2000000
set_option linter.all false
def R27 : List D → Option (Option Prop × D)
  | [d0, d1, d2] => match hallO d0, campsO d1, intsO d2 with
    | some (q0, h), some (q1, n, c), some (q2, m, p) => some (some (q0 ∧ q1 ∧ q2 ∧ m = n ∧ runsC h n (planR c p)), .agg (breD (breB h n (planR c p))))
    | _, _, _ => none
  | _ => none
noncomputable def T27 := orCl (aloC 27 R27) T69
theorem T27_ok (K : Cust) : ClOK K PG T27 := tab_cons cf_27 (fun ds p d h hp => by
    unfold R27 at h
    split at h
    · split at h
      · rename_i e0 e1 e2
        cases h
        obtain ⟨h1, h2, h3, h4, h5⟩ := hp _ rfl
        exact ⟨_, less_cons (hallO_less e0 h1) (less_cons (campsO_less e1 h2) (less_cons (intsO_less e2 h3) (Less.refl _))), by simp [freeL, freeD, rowC_free, rowI_free, hallD_free], by simp [freeD, breD_free], breach_ref _ _ _ _ _ h4 h5⟩
      · cases h
    · cases h) (T69_ok K)
theorem okB_m {h : Hall} {n : Nat} {c : Nat → Camp} {m : Nat} (e : okB h n c m = true) : m = n := by simp only [okB, Bool.and_eq_true, decide_eq_true_eq] at e; omega
theorem wrong_alone (h : Hall) (n : Nat) (c : Nat → Camp) (m : Nat) (p : Nat → Int) (hn : h.n ≤ 100000 ∧ h.m ≤ 100000 ∧ n ≤ 100000 ∧ m ≤ 100000) : Alone PG 26 [.agg (hallD h), rowC n c, rowI m p] (i6 (obErr h n c m p)) :=
  Alone.ofW (cl := T27) (raw := false) hm0 T27_ok cf_26 fun K w => by
    refine aw_reg0 (aw_assoc (aw_reg (True ∧ ((∀ (i : Nat), i < h.n → [i6 (h.st i)] = [i6 (h.st i)]) ∧ ∀ (i : Nat), i < h.m → [i6 (h.en i)] = [i6 (h.en i)]) ∧ (∀ (i : Nat), i < n → campD (c i) = campD (c i)) ∧ h.n ≤ (100000 : Nat) ∧ h.m ≤ (100000 : Nat) ∧ n ≤ (100000 : Nat)) (by ((try simp only [inRange_i64] at *); (try simp only [implies_true, and_self, true_and, and_true]); (repeat' (with_reducible apply And.intro)) <;> first | exact True.intro | exact fun _ _ => rfl | exact fun _ _ => ⟨rfl, rfl⟩ | omega | assumption | (intros; simp [freeL, freeD]; done))) (aw_ifs (!campsB h n c) (fun h1 => aw_assoc (aw_reg0 (aw_rets (end_i ((2 : Int)) ?_)))) (fun h2 => aw_skips (aw_assoc (aw_reg0 (aw_ifsne ((↑m : Int)) ((↑n : Int)) (fun h3 => aw_assoc (aw_reg0 (aw_rets (end_i ((5 : Int)) ?_)))) (fun h4 => aw_skips (aw_assoc (aw_reg (True ∧ ((∀ (i : Nat), i < h.n → [i6 (h.st i)] = [i6 (h.st i)]) ∧ ∀ (i : Nat), i < h.m → [i6 (h.en i)] = [i6 (h.en i)]) ∧ (∀ (i : Nat), i < n → campD (c i) = campD (c i)) ∧ (∀ (i : Nat), i < m → [i6 (p i)] = [i6 (p i)]) ∧ m = n ∧ runsC h n (planR c p)) (by (have q : okB h n c m = true := (by grind [okB]); exact ⟨trivial, ⟨fun _ _ => rfl, fun _ _ => rfl⟩, fun _ _ => rfl, fun _ _ => rfl, okB_m q, okB_runs q⟩)) (aw_ifsne ((breB h n (planR c p)).rule) ((0 : Int)) (fun h5 => aw_assoc (aw_reg0 (aw_rets (end_i ((100 : Int)) ?_)))) (fun h6 => aw_skips (aw_reg0 (aw_ret (end_i ((0 : Int)) ?_)))))))))))))))
    all_goals grind [obErr, plErr, okB]

def R26 : List D → Option (Option Prop × D)
  | [d0, d1, d2] => match hallO d0, campsO d1, intsO d2 with
    | some (q0, h), some (q1, n, c), some (q2, m, p) => some (some (q0 ∧ q1 ∧ q2 ∧ (h.n ≤ 100000 ∧ h.m ≤ 100000 ∧ n ≤ 100000 ∧ m ≤ 100000)), i6 (obErr h n c m p))
    | _, _, _ => none
  | _ => none
noncomputable def T26 := orCl (aloC 26 R26) T27
theorem T26_ok (K : Cust) : ClOK K PG T26 := tab_cons cf_26 (fun ds p d h hp => by
    unfold R26 at h
    split at h
    · split at h
      · rename_i e0 e1 e2
        cases h
        obtain ⟨h1, h2, h3, h4⟩ := hp _ rfl
        exact ⟨_, less_cons (hallO_less e0 h1) (less_cons (campsO_less e1 h2) (less_cons (intsO_less e2 h3) (Less.refl _))), by simp [freeL, freeD, rowC_free, rowI_free, hallD_free], by simp [freeD], wrong_alone _ _ _ _ _ h4⟩
      · cases h
    · cases h) (T27_ok K)
end Go.Ev
end
section
open Go Go.Ev Go.RowKit
namespace Go.Ev
set_option maxRecDepth 100000
set_option maxHeartbeats 2000000
set_option linter.all false
def keepC (h : Hall) (n : Nat) (c : Nat → Camp) (p : Nat → Int) : Prop := h.n ≤ 96 ∧ n ≤ 1000 ∧ 0 ≤ h.cl ∧ h.cl ≤ 6 ∧ ∀ i, i < n → 0 ≤ p i ∧ p i ≤ 1000 ∧ 1 ≤ (c i).ho ∧ (c i).ho ≤ 24 ∧ 0 ≤ (c i).pr ∧ (c i).pr ≤ 24
end Go.Ev
end
section
open Go Go.Ev Go.RowKit
namespace Go.Ev
set_option maxRecDepth 100000
set_option maxHeartbeats 2000000
set_option linter.all false
theorem timeB_late {n : Nat} {x : Nat → Run} (e : (timeB n x).rule = 0) : ∀ i, i < n → lateB (x i) = false := by
  intro i hi
  rcases findI_cases (fun i => lateB (x i)) n with ⟨j, hj, h1, h2, h3⟩ | ⟨h1, h2⟩
  · have : (timeB n x).rule = 1 := by unfold timeB; rw [h3, decide_eq_true (by omega)]; rfl
    omega
  · exact h1 i hi
theorem keepB_keepC {h : Hall} {n : Nat} {c : Nat → Camp} {m : Nat} {p : Nat → Int} (e : keepB h n c m p = true) : m = n ∧ keepC h n c p := by
  have e1 := (keepB_ok e).1
  obtain ⟨v1, v2, v3, v4, v5⟩ := okB_runs (p := p) e1
  have hl := timeB_late (breB_time (keepB_ok e).2)
  refine ⟨okB_m e1, v2, v3, v4.1, v4.2, fun i hi => ?_⟩
  have q1 := v5 i hi
  have q2 := late_n (hl i hi)
  have q1' : campB h.n (c i) = true := q1
  simp only [campB, decide_eq_true_eq] at q1'
  omega
theorem wide_f {h : Hall} {n : Nat} (e : wideB h n = false) : h.n ≤ 110 ∧ h.m ≤ 110 ∧ n ≤ 18 := by
  unfold wideB at e
  have := of_decide_eq_false e
  omega

end Go.Ev
end
section
open Go Go.Ev Go.RowKit
namespace Go.Ev
set_option maxRecDepth 100000
set_option maxHeartbeats 2000000
set_option linter.all false
def sumN (p : Nat → Int) : Nat → Int
  | 0 => 0
  | n + 1 => sumN p n + p n
theorem sumN_bound {p : Nat → Int} {b : Int} : ∀ (n : Nat), (∀ i, i < n → 0 ≤ p i ∧ p i ≤ b) → 0 ≤ sumN p n ∧ sumN p n ≤ n * b
  | 0, _ => by simp [sumN]
  | n + 1, h => by
    have h1 := sumN_bound n fun i hi => h i (by omega)
    have h2 := h n (by omega)
    have h3 : ((n + 1 : Nat) : Int) * b = n * b + b := by rw [Int.natCast_succ, Int.add_mul, Int.one_mul]
    rw [h3]
    simp only [sumN]
    omega
def costR (r : Run) : Int := r.c.we * (r.first + r.c.ho)
def costC (x : Run) : Prop := 0 ≤ x.c.we ∧ x.c.we ≤ 100 ∧ 0 ≤ x.first + x.c.ho ∧ x.first + x.c.ho ≤ 2000
theorem costC_b {x : Run} (h : costC x) : 0 ≤ costR x ∧ costR x ≤ 200000 := by
  obtain ⟨h1, h2, h3, h4⟩ := h
  refine ⟨Int.mul_nonneg h1 h3, ?_⟩
  have := Int.mul_le_mul h2 h4 h3 (by omega : (0 : Int) ≤ 100)
  unfold costR
  omega
theorem sum_b {n : Nat} {x : Nat → Run} (hn : n ≤ 1000) (h : ∀ i, i < n → costC (x i)) (i : Nat) (hi : i ≤ n) : 0 ≤ sumN (fun i => costR (x i)) i ∧ sumN (fun i => costR (x i)) i ≤ 200000000 := by
  have := sumN_bound (p := fun i => costR (x i)) (b := 200000) i fun j hj => costC_b (h j (by omega))
  omega

theorem sum_alone (n : Nat) (x : Nat → Run) (hn : n ≤ 1000) (h : ∀ i, i < n → costC (x i)) : Alone PG 60 [rowR n x] (i6 (sumN (fun i => costR (x i)) n)) :=
  Alone.ofW (cl := T26) (raw := false) hm0 T26_ok cf_60 fun K w => by
    refine aw_reg0 (aw_reg0 (aw_assoc (aw_reg0 (?_))))
    refine aw_loopV (ι := {z : Nat × Int // z.1 ≤ n ∧ z.2 = sumN (fun i => costR (x i)) z.1}) hm0 (T26_ok K) (fun z => [(8, i6 z.1.1), (3, i6 z.1.2)]) (fun _ => []) (fun z => n - z.1.1) ⟨(0, 0), Nat.zero_le n, rfl⟩ (fun z => ?_)
    obtain ⟨⟨i, v⟩, hi, hv⟩ := z
    simp only at hi hv
    have hb := sum_b hn h i hi
    refine aw_reg0 (aw_ifsd ((↑i : Int) < (↑n : Int)) (fun h1 => aw_skips (aw_blocks (aw_reg (True ∧ (0 : Int) ≤ (↑i : Int) ∧ (↑i : Int) < (↑n : Int)) (by (have q := h i (by omega); have q2 := costC_b q; unfold costC at q; unfold costR at q2; simp only [inRange_i64, true_and]; omega)) (aw_end ((True ∧ inRange IntKind.i64 ((x i).first + (x i).c.ho) ∧ inRange IntKind.i64 ((x i).c.we * ((x i).first + (x i).c.ho))) ∧ inRange IntKind.i64 (v + (x i).c.we * ((x i).first + (x i).c.ho))) (by (have q := h i (by omega); have q2 := costC_b q; unfold costC at q; unfold costR at q2; simp only [inRange_i64, true_and]; omega)) (blk_normal (seq_normal (aw_end (True ∧ inRange IntKind.i64 ((↑i : Int) + (1 : Int))) (by (have q := h i (by omega); have q2 := costC_b q; unfold costC at q; unfold costR at q2; simp only [inRange_i64, true_and]; omega)) (round_t 1 ((∀ (i : Nat), i < n → True ∧ True ∧ True ∧ True ∧ True ∧ True ∧ True ∧ True ∧ True) ∧ (∀ (i : Nat), i < n → True ∧ True ∧ True ∧ True ∧ True ∧ True ∧ True ∧ True ∧ True) ∧ True) (True) (by (simp)) (by (exact True.intro)) ?_)))))))) (fun h2 => aw_exits (round_exit (blk_exit (seq_normal (aw_reg0 (aw_ret (end_i (v) ?_))))))))
    · exact round_v ⟨(i + 1, v + (x i).c.we * ((x i).first + (x i).c.ho)), by show i + 1 ≤ n; omega, by show _ = sumN _ i + costR (x i); rw [hv]; rfl⟩ (by show n - (i + 1) < n - i; omega)
    · have : i = n := by omega
      subst this
      exact hv

def R60 : List D → Option (Option Prop × D)
  | [d0] => match runsO d0 with
    | some (q, n, x) => some (some (q ∧ n ≤ 1000 ∧ ∀ i, i < n → costC (x i)), i6 (sumN (fun i => costR (x i)) n))
    | _ => none
  | _ => none
noncomputable def T60 := orCl (aloC 60 R60) T26
theorem T60_ok (K : Cust) : ClOK K PG T60 := tab_cons cf_60 (fun ds p d h hp => by
    unfold R60 at h
    split at h
    · split at h
      · rename_i e0
        cases h
        obtain ⟨h1, h2, h3⟩ := hp _ rfl
        exact ⟨_, less_cons (runsO_less e0 h1) (Less.refl _), by simp [freeL, freeD, rowR_free], by simp [freeD], sum_alone _ _ h2 h3⟩
      · cases h
    · cases h) (T26_ok K)
theorem keepB_cost {h : Hall} {n : Nat} {c : Nat → Camp} {m : Nat} {p : Nat → Int} : okN (keepB h n c m p) n ≤ 1000 ∧ ∀ i, i < okN (keepB h n c m p) n → costC (planR c p i) := by
  cases e : keepB h n c m p with
  | false => exact ⟨by simp [okN], fun i hi => by simp [okN] at hi⟩
  | true =>
    obtain ⟨hm, k1, k2, k3, k4, hk⟩ := keepB_keepC e
    obtain ⟨v1, v2, v3, v4, v5⟩ := okB_runs (p := p) (keepB_ok e).1
    refine ⟨k2, fun i hi => ?_⟩
    have hi' : i < n := hi
    have q := hk i hi'
    have q2 : campB h.n (c i) = true := v5 i hi'
    simp only [campB, decide_eq_true_eq] at q2
    show 0 ≤ (c i).we ∧ (c i).we ≤ 100 ∧ 0 ≤ p i + (c i).ho ∧ p i + (c i).ho ≤ 2000
    omega
def costB (h : Hall) (n : Nat) (c : Nat → Camp) (m : Nat) (p : Nat → Int) : Int := sumN (fun i => costR (planR c p i)) (okN (keepB h n c m p) n)
def checkB (h : Hall) (n : Nat) (c : Nat → Camp) (m : Nat) (p : Nat → Int) : Bre := bif okB h n c m then (bif (breB h n (planR c p)).rule == 0 then bre0 else breB h n (planR c p)) else bre0

theorem check_plan (h : Hall) (n : Nat) (c : Nat → Camp) (m : Nat) (p : Nat → Int) (hn : h.n ≤ 100000 ∧ h.m ≤ 100000 ∧ n ≤ 100000 ∧ m ≤ 100000) : Alone PG 21 [.agg (hallD h), rowC n c, rowI m p] (.tup [.agg (breD (checkB h n c m p)), i6 (obErr h n c m p)]) :=
  Alone.ofW (cl := T60) (raw := false) hm0 T60_ok cf_21 fun K w => by
    refine aw_reg0 (aw_reg (True ∧ ((∀ (i : Nat), i < h.n → [i6 (h.st i)] = [i6 (h.st i)]) ∧ ∀ (i : Nat), i < h.m → [i6 (h.en i)] = [i6 (h.en i)]) ∧ (∀ (i : Nat), i < n → campD (c i) = campD (c i)) ∧ (∀ (i : Nat), i < m → [i6 (p i)] = [i6 (p i)]) ∧ n ≤ (100000 : Nat) ∧ m ≤ (100000 : Nat) ∧ h.n ≤ (100000 : Nat) ∧ h.m ≤ (100000 : Nat)) (by (simp <;> omega)) (aw_assoc (aw_reg0 (aw_ifsne (plErr h n c m) ((0 : Int)) (fun h1 => aw_assoc (aw_reg0 (aw_rets (end_d (D.tup [D.agg [D.val (Value.int IntKind.u8 (0 : Int)), D.val (Value.int IntKind.i64 (0 : Int)), D.val (Value.int IntKind.i64 (0 : Int)), D.val (Value.int IntKind.i64 (0 : Int))], D.val (Value.int IntKind.i64 (plErr h n c m))]) ?_)))) (fun h2 => aw_skips (aw_assoc (aw_reg (True ∧ ((∀ (i : Nat), i < h.n → [i6 (h.st i)] = [i6 (h.st i)]) ∧ ∀ (i : Nat), i < h.m → [i6 (h.en i)] = [i6 (h.en i)]) ∧ (∀ (i : Nat), i < okN (okB h n c m) n → runD (planR c p i) = runD (planR c p i)) ∧ runsC h (okN (okB h n c m) n) (planR c p)) (by (have e := plErr_ok (by assumption); rw [e]; exact ⟨trivial, ⟨fun _ _ => rfl, fun _ _ => rfl⟩, fun _ _ => rfl, okB_runs e⟩)) (aw_assoc (aw_reg0 (aw_ifsne ((breB h (okN (okB h n c m) n) (planR c p)).rule) ((0 : Int)) (fun h3 => aw_assoc (aw_reg0 (aw_rets (end_d (D.tup [D.agg [D.val (Value.int IntKind.u8 (breB h (okN (okB h n c m) n) (planR c p)).rule), D.val (Value.int IntKind.i64 (breB h (okN (okB h n c m) n) (planR c p)).a), D.val (Value.int IntKind.i64 (breB h (okN (okB h n c m) n) (planR c p)).b), D.val (Value.int IntKind.i64 (breB h (okN (okB h n c m) n) (planR c p)).hour)], D.val (Value.int IntKind.i64 (100 : Int))]) ?_)))) (fun h4 => aw_skips (aw_reg0 (aw_ret (end_d (D.tup [D.agg [D.val (Value.int IntKind.u8 (0 : Int)), D.val (Value.int IntKind.i64 (0 : Int)), D.val (Value.int IntKind.i64 (0 : Int)), D.val (Value.int IntKind.i64 (0 : Int))], D.val (Value.int IntKind.i64 (0 : Int))]) ?_))))))))))))))
    · have e := plErr_bad h1
      simp [checkB, obErr, e, bre0, breD]
    · have e := plErr_ok h2
      simp only [e, okN, cond_true] at h3
      have h3' : ((breB h n (planR c p)).rule == 0) = false := by simpa using h3
      simp [checkB, obErr, e, h3', okN, breD]
    · have e := plErr_ok h2
      simp only [e, okN, cond_true] at h4
      simp [checkB, obErr, e, h4, bre0, breD]

def R21 : List D → Option (Option Prop × D)
  | [d0, d1, d2] => match hallO d0, campsO d1, intsO d2 with
    | some (q0, h), some (q1, n, c), some (q2, m, p) => some (some (q0 ∧ q1 ∧ q2 ∧ (h.n ≤ 100000 ∧ h.m ≤ 100000 ∧ n ≤ 100000 ∧ m ≤ 100000)), .tup [.agg (breD (checkB h n c m p)), i6 (obErr h n c m p)])
    | _, _, _ => none
  | _ => none
noncomputable def T21 := orCl (aloC 21 R21) T60
theorem T21_ok (K : Cust) : ClOK K PG T21 := tab_cons cf_21 (fun ds p d h hp => by
    unfold R21 at h
    split at h
    · split at h
      · rename_i e0 e1 e2
        cases h
        obtain ⟨h1, h2, h3, h4⟩ := hp _ rfl
        exact ⟨_, less_cons (hallO_less e0 h1) (less_cons (campsO_less e1 h2) (less_cons (intsO_less e2 h3) (Less.refl _))), by simp [freeL, freeD, rowC_free, rowI_free, hallD_free], by simp [freeD, freeL, breD_free], check_plan _ _ _ _ _ h4⟩
      · cases h
    · cases h) (T60_ok K)
end Go.Ev
end
section
open Go Go.Ev Go.RowKit
namespace Go.Ev
set_option maxRecDepth 100000
set_option maxHeartbeats 2000000
set_option linter.all false
end Go.Ev
end
section
open Go Go.Ev Go.RowKit
namespace Go.Ev
set_option maxRecDepth 100000
set_option maxHeartbeats 2000000
set_option linter.all false
def keyI (x : Nat → Run) (v : Int) : Int := (x v.toNat).first - (x v.toNat).c.pr
def shiftA (s : Nat → Int) (i j t : Nat) : Int := if t < j then s t else if t = j then s i else if t ≤ i then s (t - 1) else s t
def insGo (key : Int → Int) (s : Nat → Int) (v : Int) : Nat → Nat
  | 0 => 0
  | j + 1 => bif decide (key v < key (s j)) then insGo key s v j else j + 1
def sortI (key : Int → Int) (c : Nat → Int) : Nat → Nat → Int
  | 0 => c
  | i + 1 => shiftA (sortI key c i) i (insGo key (sortI key c i) (sortI key c i i) i)
end Go.Ev
end
section
namespace Go.Ev
/-! ### Loops whose rounds need a block more than was there before (a slice that is nil at first, and then grows) -/
section
variable {K : Cust} {P : Program} {w0 : World} {ρ0 : List Own} {hp0 : List Blk} {cl : FuncId → List D → List Blk → Nat → Option Out} {s : St} {Q : Ex → St → Prop}
noncomputable def grown (n : Nat) (s : St) : St := ⟨s.p, s.sl, s.hp ++ deads n, s.base, s.wr⟩
theorem Wk.grow (n : Nat) : Wk K w0 ρ0 hp0 s (grown n s) := fun _ _ _ h => ⟨_, h.grow n⟩
theorem aw_loopG {ι : Type} (n : Nat) (hm : P.follows .mixedOrders = true) (hcl : ClOK K P cl) {b r : ACode} {j : Nat} (car : ι → List (Nat × D)) (bl : ι → List (Nat × Blk)) (μ : ι → Nat) (i : ι)
    (round : ∀ i, AW cl (LoopA K P w0 ρ0 hp0) b (lst b (car i) (bl i) (grown n s)) (RoundP K w0 ρ0 hp0 (fun i => lst b (car i) (bl i) (grown n s)) μ i (blkP j (seqP cl (LoopA K P w0 ρ0 hp0) r Q))))
    (he : fgt (lessL (csL (car i)) (dstC b)) (grown n s) = lst b (car i) (bl i) (grown n s) := by kernel_rfl) : AW cl (LoopA K P w0 ρ0 hp0) (.seq (.block j (.loop b)) r) s Q :=
  aw_loopW hm hcl (fun i => lst b (car i) (bl i) (grown n s)) μ i round ((Wk.grow n).trans (he ▸ Wk.fgt _ _))
end
end Go.Ev
end
section
namespace Go.Ev
section
variable {K : Cust} {P : Program} {w0 : World} {ρ0 : List Own} {hp0 : List Blk} {s s0 : St} {Q : Ex → St → Prop}
/-- at the end of a round a block is told anew -/
theorem round_rb {ι : Type} {st : ι → St} {μ : ι → Nat} {i : ι} (id : Nat) (xp x' : Blk) (hx : ∀ (K : Cust) (w : World) (M : World) (ρ : List Own) (o : Own), RepB K w M ρ o xp → RepB K w M ρ o x')
    (h : RoundP K w0 ρ0 hp0 st μ i Q .normal (reb id x' s)) (ep : getG s.hp id = some xp := by kernel_rfl) (hb : Nat.ble s.base id = true := by kernel_rfl) : RoundP K w0 ρ0 hp0 st μ i Q .normal s := by
  rw [getG_eq] at ep
  have epd : s.hp.getD id .dead = xp := by rw [List.getD_eq_getElem?_getD, ep]; rfl
  exact round_wk (Wk.reblk (id := id) (x' := x') (Nat.le_of_ble_eq_true hb) fun w M ρ o hr => hx K w M ρ o (epd ▸ hr)) h
theorem cells_arr {cs : List D} {n : Nat} {f : Nat → D} (hn : cs.length = n) (h : ∀ j, j < n → getK cs j = f j) : ∀ (K : Cust) (w : World) (M : World) (ρ : List Own) (o : Own), RepB K w M ρ o (.cells cs) → RepB K w M ρ o (.arr n f) := fun K w M ρ o hr => by
  have e : cs = tabL n f := tabL_ext hn fun j hj => by
    rw [← h j hj, getK_eq, List.getD_eq_getElem?_getD, List.getElem?_eq_getElem (by omega)]
    rfl
  subst e
  exact RepB_flat.1 hr
theorem arr_arr {m n : Nat} {f g : Nat → D} (hn : m = n) (h : ∀ j, j < n → f j = g j) : ∀ (K : Cust) (w : World) (M : World) (ρ : List Own) (o : Own), RepB K w M ρ o (.arr m f) → RepB K w M ρ o (.arr n g) := by
  subst hn
  exact blk_congr h
end
end Go.Ev
end
section
namespace Go.Ev
section
variable {K : Cust} {P : Program} {w w' : World} {ρ : List Own} {hp : List Blk} {nid : Nat}
theorem see_subB {id0 b0 n0 : Nat} (ho0 : ρ[id0]? = some (Own.live b0 n0)) : Sub (mask K w ρ) (mask K w [.fresh, .live b0 n0]) := fun c cs ty fr h => by
  rw [mask_some] at *
  refine ⟨?_, h.2⟩
  rintro (hh | ⟨i, k, hi⟩)
  · exact h.1 (.inl hh)
  · match i, hi with
    | 0, hi => simp at hi
    | 1, hi =>
      simp at hi
      obtain ⟨rfl, rfl⟩ := hi
      exact h.1 (.inr ⟨id0, n0, ho0⟩)
    | i + 2, hi => simp at hi
theorem see_ownB {b b0 n0 : Nat} {cs : Array Value} {ty : TypeId} {fr : Nat × Nat} (h : w.heap[b]? = some (Obj.cells cs ty fr)) (hb : ¬ K.hid b) (hne : b ≠ b0) : (mask K w [.fresh, .live b0 n0]).heap[b]? = some (Obj.cells cs ty fr) := by
  rw [mask_some]
  refine ⟨?_, h⟩
  rintro (hh | ⟨i, k, hi⟩)
  · exact hb hh
  · match i, hi with
    | 0, hi => simp at hi
    | 1, hi => simp at hi; exact hne hi.1.symm
    | i + 2, hi => simp at hi
theorem own_blockB {id id0 : Nat} {x : Blk} (hk : OK K w ρ hp) (hg : getG (hp.set id0 .dead) id = some x) (hx : x ≠ .dead) : ∃ b n, own ρ id = .live b n ∧ RepB K w (mask K w ρ) ρ (.live b n) x ∧ id ≠ id0 := by
  rw [getG_eq, List.getElem?_set] at hg
  split at hg
  · split at hg
    · exact absurd (Option.some.inj hg).symm hx
    · cases hg
  · rename_i hne
    obtain ⟨b, n, h1, h2⟩ := own_block hk (by rw [getG_eq]; exact hg) hx
    exact ⟨b, n, h1, h2, fun e => hne e.symm⟩
theorem seeB_ok {id0 b0 n0 : Nat} (ho0 : ρ[id0]? = some (Own.live b0 n0)) (hk : OK K w ρ hp) : ∀ (n : Nat) (d d' : D) (v : Value) (p : Option Prop), Rep K (mask K w ρ) ρ d v → seeS (hp.set id0 .dead) n d = some (p, d') → holdsO p → Rep K (mask K w [.fresh, .live b0 n0]) [.fresh, .live b0 n0] d' v
  | 0, d, d', v, p, h, hs, _ => by simp [seeS] at hs
  | n + 1, d, d', v, p, h, hs, hq => by
    have ih := seeB_ok ho0 hk n
    have ihL : ∀ {ds ds' : List D} {vs : List Value} {p : Option Prop}, mapO (seeS (hp.set id0 .dead) n) ds = some (p, ds') → holdsO p → RepL K (mask K w ρ) ρ ds vs → RepL K (mask K w [.fresh, .live b0 n0]) [.fresh, .live b0 n0] ds' vs := fun {ds ds' vs p} hm hp hl => by
      obtain ⟨g1, g2⟩ := mapO_get hm hp
      refine repL_of (by rw [← g1]; exact repL_length hl) fun i e hi => ?_
      obtain ⟨d, q, q1, q2, q3⟩ := g2 i e hi
      obtain ⟨u, q4, q5⟩ := repL_get hl q1
      exact ⟨u, q4, ih d e u q q5 q2 q3⟩
    have ihB : ∀ {id b m : Nat} {cs cs' : List D} {p : Option Prop}, own ρ id = .live b m → id ≠ id0 → RepB K w (mask K w ρ) ρ (.live b m) (.cells cs) → mapO (seeS (hp.set id0 .dead) n) cs = some (p, cs') → holdsO p → Reads K (mask K w [.fresh, .live b0 n0]) (mask K w [.fresh, .live b0 n0]) [.fresh, .live b0 n0] cs' b 0 := fun {id b m cs cs' p} ho hne hB hm hp => by
      obtain ⟨vs, ty, q1, q2, q3⟩ := hB
      have hcell := see_ownB (b0 := b0) (n0 := n0) q1 (hk.apart id b m (own_live ho)) (fun (e : b = b0) => hne (hk.inj id id0 b m n0 (own_live ho) (by rw [e]; exact ho0)))
      obtain ⟨g1, g2⟩ := mapO_get hm hp
      intro j e hj
      obtain ⟨d, q, k1, k2, k3⟩ := g2 j e hj
      obtain ⟨x, k4, k5⟩ := q3 j d k1
      exact ⟨x, by rw [cell_of hcell, Nat.zero_add]; exact k4, ih d e x q k5 k2 k3⟩
    cases d with
    | any => simp only [seeS] at hs; cases hs; trivial
    | val x => simp only [seeS] at hs; cases hs; simpa only [Rep] using h
    | cust t q => simp only [seeS] at hs; cases hs; simp only [Rep] at *; exact K.mono _ _ _ _ _ (see_subB ho0) h
    | emp z => simp only [seeS] at hs; cases hs; simpa only [Rep] using h
    | map id => simp [seeS] at hs
    | row k len f =>
      simp only [seeS] at hs
      cases hs
      have hf := hq _ rfl
      simp only [Rep] at *
      exact h.imp id fun ⟨b, o, c, h1, h2, h3⟩ => ⟨b, o, c, h1, h2, fun i hi => RepC.free (K := K) (K' := K) (see_subB ho0) (fun t q v hc => K.mono _ _ _ _ _ (see_subB ho0) hc) (f i) b _ (hf i hi) (h3 i hi)⟩
    | ref cs off =>
      simp only [seeS] at hs
      split at hs
      · rename_i p' cs' hm
        cases hs
        obtain ⟨g1, g2⟩ := mapO_get hm hq
        simp only [Rep] at *
        obtain ⟨b, o, h1, h2⟩ := h
        refine ⟨b, o, h1, reads_C fun j e hj => ?_⟩
        obtain ⟨d, q, k1, k2, k3⟩ := g2 j e hj
        obtain ⟨x, k4, k5⟩ := repC_reads (w := mask K w ρ) (fun _ _ _ _ h => h) h2 j d k1
        exact ⟨x, (see_subB ho0).cell k4, ih d e x q k5 k2 k3⟩
      · cases hs
    | sl id off len k cap =>
      simp only [seeS] at hs
      split at hs
      · rename_i m f hg
        cases hs
        obtain ⟨hle, hf⟩ := hq _ rfl
        obtain ⟨b, N, ho, hB, hne⟩ := own_blockB hk hg (by intro e; cases e)
        simp only [Rep, ho] at h ⊢
        obtain ⟨c, rfl, hlc, _⟩ := h
        obtain ⟨vs, ty, q1, q2, q3, q4⟩ := hB
        have hcell := see_ownB (b0 := b0) (n0 := n0) q1 (hk.apart id b N (own_live ho)) (fun (e : b = b0) => hne (hk.inj id id0 b N n0 (own_live ho) (by rw [e]; exact ho0)))
        refine .inr ⟨b, off, c, rfl, hlc, fun i hi => reads_C fun j e hj => ?_⟩
        rw [addmul] at hj
        obtain ⟨hjk, rfl⟩ := tabF_at hj
        have hb : off + i * k + j < m := by
          have : (i + 1) * k ≤ len * k := Nat.mul_le_mul_right k hi
          rw [Nat.add_mul, Nat.one_mul] at this
          omega
        obtain ⟨x, p1, p2⟩ := q4 _ hb
        exact ⟨x, by rw [cell_of hcell]; exact p1, Rep.free (K := K) (K' := K) (see_subB ho0) (fun t q v hc => K.mono _ _ _ _ _ (see_subB ho0) hc) _ x (hf _ hb) p2⟩
      · rename_i cs hg
        split at hs
        · rename_i hle
          split at hs
          · rename_i p' cs' hm
            cases hs
            obtain ⟨b, N, ho, hB, hne⟩ := own_blockB hk hg (by intro e; cases e)
            have hrd := ihB ho hne hB hm hq
            simp only [Rep, ho] at h ⊢
            obtain ⟨c, rfl, hlc, _⟩ := h
            refine .inr ⟨b, off, c, rfl, hlc, fun i hi => reads_C fun j e hj => ?_⟩
            unfold cutC at hj
            rw [takeG_eq, dropG_eq, addmul, List.getElem?_take] at hj
            split at hj
            · rw [List.getElem?_drop] at hj
              have := hrd _ e hj
              rw [Nat.zero_add] at this
              exact this
            · cases hj
          · cases hs
        · cases hs
      · cases hs
    | ptr id off =>
      simp only [seeS] at hs
      split at hs
      · rename_i cs hg
        split at hs
        · rename_i p' cs' hm
          cases hs
          obtain ⟨b, N, ho, hB, hne⟩ := own_blockB hk hg (by intro e; cases e)
          have hrd := ihB ho hne hB hm hq
          simp only [Rep, ho] at h ⊢
          exact ⟨b, 0, by rw [Nat.zero_add]; exact h, reads_C hrd⟩
        · cases hs
      · cases hs
    | agg ds =>
      simp only [seeS] at hs
      split at hs
      · rename_i p' ds' hm
        cases hs
        simp only [Rep] at *
        obtain ⟨vs, rfl, h2⟩ := h
        exact ⟨vs, rfl, ihL hm hq h2⟩
      · cases hs
    | tup ds =>
      simp only [seeS] at hs
      split at hs
      · rename_i p' ds' hm
        cases hs
        simp only [Rep] at *
        obtain ⟨vs, rfl, h2⟩ := h
        exact ⟨vs, rfl, ihL hm hq h2⟩
      · cases hs
    | fn f a b =>
      simp only [seeS] at hs
      split at hs
      · rename_i p1 a' ha
        split at hs
        · rename_i p2 b' hb
          cases hs
          obtain ⟨k1, k2⟩ := holdsO_and hq
          simp only [Rep] at *
          obtain ⟨x, y, rfl, h1, h2⟩ := h
          exact ⟨x, y, rfl, ihL ha k1 h1, ihL hb k2 h2⟩
        · cases hs
      · cases hs
    | iface t d =>
      simp only [seeS] at hs
      split at hs
      · rename_i p' d' hd
        cases hs
        simp only [Rep] at *
        obtain ⟨x, rfl, h2⟩ := h
        exact ⟨x, rfl, ih d d' x _ h2 hd hq⟩
      · cases hs
end
end Go.Ev
end
section
namespace Go.Ev
section
variable {K : Cust} {P : Program} {w w' : World} {ρ : List Own} {hp : List Blk} {nid id b n m : Nat} {g g' : Nat → Value}
theorem OK.oneK (hk : OK K w ρ hp) (ho : ρ[id]? = some (Own.live b n)) (hb : hp[id]? = some (.arr m fun j => .val (g j))) : OK K w [.fresh, .live b n] [.dead, .arr m fun j => .val (g j)] := by
  refine ⟨rfl, fun i c k hi => ?_, fun i j c k l h1 h2 => ?_, fun i x hx => ?_, hk.hid, fun i c k hi hh => ?_⟩
  · match i, hi with
    | 0, hi => simp at hi
    | 1, hi => simp at hi; obtain ⟨rfl, rfl⟩ := hi; exact hk.lt id b n ho
    | i + 2, hi => simp at hi
  · match i, j, h1, h2 with
    | 0, _, h1, _ => simp at h1
    | _, 0, _, h2 => simp at h2
    | 1, 1, _, _ => rfl
    | i + 2, _, h1, _ => simp at h1
    | _, j + 2, _, h2 => simp at h2
  · match i, hx with
    | 0, hx => simp at hx; subst hx; trivial
    | 1, hx =>
      simp at hx
      subst hx
      have := hk.blk id _ hb
      rw [own_some ho] at this
      exact arr_cust (K := K) (K' := K) this
    | i + 2, hx => simp at hx
  · match i, hi with
    | 0, hi => simp at hi
    | 1, hi =>
      simp at hi
      obtain ⟨rfl, rfl⟩ := hi
      exact hk.apart id b n ho hh
    | i + 2, hi => simp at hi
theorem Res.oneK {d : D} {v : Value} {p : Option Prop} (hk : OK K w ρ hp) (ho : ρ[id]? = some (Own.live b n)) (hb : hp[id]? = some (.arr m fun j => .val (g j))) (hd : isPl d = true)
    (h : Res (K) w [.fresh, .live b n] [.dead, .arr m fun j => .val (g j)] 0 ⟨none, d, [(1, .arr m fun j => .val (g' j))], []⟩ v w') : Res K w ρ hp nid ⟨p, d, [(id, .arr m fun j => .val (g' j))], []⟩ v w' := by
  obtain ⟨ρ1, h1, h2⟩ := h
  have hkeep : ∀ c : Nat, c < w.heap.size → c ≠ b → w'.heap[c]? = w.heap[c]? := fun c hc hne => h2.keep c hc fun i k hi => by
    match i, hi with
    | 0, hi => simp at hi
    | 1, hi => simp at hi; exact absurd hi.1.symm hne
    | i + 2, hi => simp at hi
  have hok := h2.ok _ (Le.refl _) (hk.oneK ho hb)
  have hb1 : RepB (K) w' (mask (K) w' ρ1) ρ1 (own ρ1 1) (.arr m fun j => .val (g' j)) := hok.blk 1 _ (by simp [app])
  have hlive : own ρ1 1 = .live b n := by
    have hle : ole (.live b n) (own ρ1 1) := by simpa [own] using h2.le 1
    rcases hle with e | e
    · exact e
    · rw [e] at hb1
      exact hb1.elim
  rw [hlive] at hb1
  have hsub : Sub (mask K w ρ) (mask K w' ρ) := fun c cs ty fr hc => by
    rw [mask_some] at *
    refine ⟨hc.1, ?_⟩
    rw [hkeep c (lt_of_cells hc.2) (fun e => hc.1 (e ▸ .inr ⟨id, n, ho⟩))]
    exact hc.2
  have hidl := (List.getElem?_eq_some_iff.1 hb).1
  refine ⟨ρ, isPl_cust hd h1, h2.size, fun c hc hcond => hkeep c hc fun e => ?_, fun c hc => .inl hc, rfl, OwnLe.refl ρ, fun hp2 hle hk2 => ?_, fun i q1 q2 => ⟨fun y hy => ?_, rfl⟩, fun i h _ => h, h2.env⟩
  · subst e
    have := hcond id n ho
    rw [hb] at this
    cases this
  · rw [List.append_nil]
    refine ⟨by simp [app, hk2.len], fun i c k hi => Nat.lt_of_lt_of_le (hk2.lt i c k hi) h2.size, hk2.inj, fun i y hy => ?_, fun c hc => Nat.lt_of_lt_of_le (hk2.hid c hc) h2.size, hk2.apart⟩
    simp only [app, List.foldl_cons, List.foldl_nil, List.getElem?_set] at hy
    split at hy
    · rename_i e
      subst e
      have : y = .arr m fun j => .val (g' j) := by
        split at hy
        · exact (Option.some.inj hy).symm
        · cases hy
      rw [this, own_some ho]
      exact arr_cust (K := K) (K' := K) hb1
    · rename_i e
      refine (hk2.blk i y hy).mono hsub (OwnLe.refl ρ) fun c k hc => hkeep c (hk2.lt i c k (own_live hc)) ?_
      intro e2
      subst e2
      exact e (hk2.inj _ _ _ _ _ ho (own_live hc))
  · rw [List.mem_singleton] at hy
    subst hy
    rintro rfl
    rw [hb] at q1
    cases q1
/-- a table of one function that changes the array which is its first argument; the other arguments are seen as nobody's -/
noncomputable def chgS (f0 : FuncId) (r : Nat → Nat → (Nat → Value) → List D → Option (Option Prop × D × (Nat → Value))) (f : FuncId) (ds : List D) (hp : List Blk) (_ : Nat) : Option Out := match Nat.beq f f0 with
  | true => match ds with
    | .sl id 0 len k none :: ds => match getG hp id with
      | some (.arr m fn) => match mapO (seeS (hp.set id .dead) 6) ds with
        | some (q, ds) => match r len k (fun j => match fn j with | .val v => v | _ => undef) ds with
          | some (p, d, g') => match isPl d with
            | true => some ⟨andO (some (∀ j, j < m → ∃ v, fn j = .val v)) (andO (some (len * k = m)) (andO q p)), d, [(id, .arr m fun j => .val (g' j))], []⟩
            | false => none
          | none => none
        | none => none
      | _ => none
    | _ => none
  | false => none
theorem chgS_ok {f0 : FuncId} {r : Nat → Nat → (Nat → Value) → List D → Option (Option Prop × D × (Nat → Value))} (henter : ∀ args w, (callFunc f0 args).run P w = .ok (.enter f0 args) w)
    (h : ∀ len k g ds p d g', r len k g ds = some (p, d, g') → holdsO p → ∃ ds', Less ds ds' ∧ AloneB P f0 (.sl 1 0 len k none :: ds') (len * k) g d g') : ClOK K P (chgS f0 r) := by
  intro f ds hp nid out ho hc
  unfold chgS at ho
  split at ho
  · rename_i hfg
    obtain rfl := Nat.eq_of_beq_eq_true hfg
    split at ho
    · rename_i id len k ds0
      split at ho
      · rename_i m fn hg
        split at ho
        rotate_left
        · cases ho
        rename_i q dsee hsee
        split at ho
        · rename_i p d g2 hr
          split at ho
          · rename_i hpl
            obtain rfl := (Option.some.inj ho).symm
            obtain ⟨k1, k2⟩ := holdsO_and hc
            obtain ⟨k3, k45⟩ := holdsO_and k2
            obtain ⟨k5, k4⟩ := holdsO_and k45
            have k1 := k1 _ rfl
            obtain rfl := k3 _ rfl
            refine ⟨henter, fun w ρ args hk hrep hn => ?_⟩
            obtain ⟨ds', hl, hA⟩ := h len k _ dsee p d g2 hr k4
            obtain ⟨b, n, hob, hB⟩ := own_block hk hg (by intro e; cases e)
            have hol := own_live hob
            simp only [RepL] at hrep
            obtain ⟨x, xs, rfl, h1, h2⟩ := hrep
            -- the array is one of plain values
            have hB' : RepB K w (mask K w ρ) ρ (.live b n) (.arr (len * k) fun j => .val (match fn j with | .val v => v | _ => undef)) := by
              obtain ⟨vs, ty, q1, q2, q3, q4⟩ := hB
              refine ⟨vs, ty, q1, q2, q3, fun j hj => ?_⟩
              obtain ⟨y, p1, p2⟩ := q4 j hj
              obtain ⟨v, hv⟩ := k1 j hj
              refine ⟨y, p1, ?_⟩
              rw [hv] at p2
              simp only [Rep] at p2 ⊢
              rw [hv]
              exact p2
            have hidl : id < hp.length := by
              rw [getG_eq] at hg
              exact (List.getElem?_eq_some_iff.1 hg).1
            -- the caller's heap, with the array told so
            have hkk : OK K w ρ (hp.set id (.arr (len * k) fun j => .val (match fn j with | .val v => v | _ => undef))) := by
              refine ⟨by simp [hk.len], hk.lt, hk.inj, fun i y hy => ?_, hk.hid, hk.apart⟩
              rw [List.getElem?_set] at hy
              split at hy
              · rename_i e
                subst e
                try simp only [hidl, if_true] at hy
                cases hy
                rw [hob]
                exact hB'
              · exact hk.blk i y hy
            have hb' : (hp.set id (.arr (len * k) fun j => D.val (match fn j with | .val v => v | _ => undef)))[id]? = some (.arr (len * k) fun j => .val (match fn j with | .val v => v | _ => undef)) := by
              rw [List.getElem?_set, if_pos rfl, if_pos hidl]
            obtain ⟨m1, m2⟩ := mapO_get hsee k5
            have hseen : RepL K (mask K w [.fresh, .live b n]) [.fresh, .live b n] dsee xs := repL_of (by rw [← m1]; exact repL_length h2) fun i e he => by
              obtain ⟨d0, q0, e1, e2, e3⟩ := m2 i e he
              obtain ⟨u, hu, hru⟩ := repL_get h2 e1
              exact ⟨u, hu, seeB_ok hol hk 6 d0 e u q0 hru e2 e3⟩
            have hargs : RepL (K) (mask (K) w [.fresh, .live b n]) [.fresh, .live b n] (.sl 1 0 len k none :: ds') (x :: xs) := by
              simp only [RepL]
              refine ⟨x, xs, rfl, ?_, hl K _ _ _ hseen⟩
              simp only [Rep, hob] at h1
              have : own [Own.fresh, .live b n] 1 = .live b n := rfl
              simp only [Rep, this]
              exact h1
            refine (hA (K) w b n (x :: xs) (hkk.oneK hol hb') hargs).mono fun e w' hx => ?_
            obtain ⟨v, rfl, hres⟩ := hx
            have hR := Res.oneK (p := andO (some (∀ j, j < len * k → ∃ v, fn j = .val v)) (andO (some (len * k = len * k)) (andO q p))) (nid := nid) hkk hol hb' hpl hres
            obtain ⟨ρ2, r1, r2⟩ := hR
            refine ⟨v, rfl, ρ2, r1, r2.size, fun c hcc hcond => r2.keep c hcc fun i k hi => ?_, r2.new, r2.len, r2.le, fun hp2 hle hk2 => ?_, fun i q1 q2 => ?_, r2.fr, r2.env⟩
            · have := hcond i k hi
              rw [List.getElem?_set]
              split
              · rename_i e
                subst e
                rw [getG_eq] at hg
                rw [hg] at this
                cases this
              · exact this
            · have hlen2 := hle.1
              have hk3 : OK K w ρ (hp2.set id (.arr (len * k) fun j => .val (match fn j with | .val v => v | _ => undef))) := by
                refine ⟨by simp [hk2.len], hk2.lt, hk2.inj, fun i y hy => ?_, hk2.hid, hk2.apart⟩
                rw [List.getElem?_set] at hy
                split at hy
                · rename_i e
                  subst e
                  have hid2 : id < hp2.length := by omega
                  try simp only [hid2, if_true] at hy
                  cases hy
                  rw [hob]
                  exact hB'
                · exact hk2.blk i y hy
              have := r2.ok _ ⟨by simp [hlen2], fun i => by
                rw [List.getElem?_set, List.getElem?_set, hlen2]
                split
                · exact .inl rfl
                · exact hle.2 i⟩ hk3
              simpa [app] using this
            · have hne : id ≠ i := by
                rintro rfl
                rw [getG_eq] at hg
                rw [hg] at q1
                cases q1
              refine r2.hid i ?_ q2
              rw [List.getElem?_set, if_neg hne]
              exact q1
          · cases ho
        · cases ho
      · cases ho
    · cases ho
  · cases ho
end
end Go.Ev
end
section
open Go Go.Ev Go.RowKit
namespace Go.Ev
set_option maxRecDepth 100000
set_option maxHeartbeats 2000000
set_option linter.all false
end Go.Ev
end
section
open Go Go.Ev Go.RowKit
namespace Go.Ev
set_option linter.all false
/-- first by the key, then by the number -/
def lexP (key : Int → Int) (a b : Int) : Prop := key a < key b ∨ key a = key b ∧ a < b
structure SortP (key : Int → Int) (c : Nat → Int) (n i : Nat) : Prop where
  lex : ∀ s t, s < t → t < i → lexP key (sortI key c i s) (sortI key c i t)
  rest : ∀ t, i ≤ t → t < n → sortI key c i t = c t
  from' : ∀ t, t < i → ∃ t', t' < i ∧ sortI key c i t = c t'
  all : ∀ t', t' < i → ∃ t, t < i ∧ sortI key c i t = c t'
end Go.Ev
end
section
open Go Go.Ev Go.RowKit
namespace Go.Ev
set_option linter.all false
def upd (f : Nat → Int) (i : Nat) (v : Int) : Nat → Int := fun j => if j = i then v else f j
def begR (r : Run) : Int := r.first - r.c.pr
/-- the room that is taken next -/
def nextR (ro : Nat) (F : Nat → Int) (b : Int) : Int := findI (fun r => decide (F r ≤ b)) ro
/-- from which hour each room is free, and which room each run has, behind k of the runs in their order -/
def roomS (x : Nat → Run) (ro : Nat) (o : Nat → Nat) : Nat → (Nat → Int) × (Nat → Int)
  | 0 => (fun _ => 0, fun _ => -1)
  | k + 1 => (upd (roomS x ro o k).1 (nextR ro (roomS x ro o k).1 (begR (x (o k)))).toNat (x (o k)).first, upd (roomS x ro o k).2 (o k) (nextR ro (roomS x ro o k).1 (begR (x (o k)))))
/-- the runs in the order in which they are given rooms -/
structure OrdP (x : Nat → Run) (n m : Nat) (o : Nat → Nat) : Prop where
  lt : ∀ t, t < m → o t < n
  inj : ∀ s t, s < m → t < m → o s = o t → s = t
  asc : ∀ s t, s < t → t < m → begR (x (o s)) ≤ begR (x (o t))
  pos : ∀ t, t < m → 0 ≤ begR (x (o t)) ∧ begR (x (o t)) < (x (o t)).first
structure RoomP (x : Nat → Run) (ro : Nat) (o : Nat → Nat) (k : Nat) : Prop where
  held : ∀ r, r < ro → (roomS x ro o k).1 r = 0 ∨ ∃ t, t < k ∧ (roomS x ro o k).1 r = (x (o t)).first ∧ (roomS x ro o k).2 (o t) = r
  has : ∀ t, t < k → ∃ r : Nat, r < ro ∧ (roomS x ro o k).2 (o t) = r ∧ (x (o t)).first ≤ (roomS x ro o k).1 r
  none' : ∀ i, (∀ t, t < k → o t ≠ i) → (roomS x ro o k).2 i = -1
end Go.Ev
end
section
open Go Go.Ev Go.RowKit
namespace Go.Ev
set_option maxRecDepth 100000
set_option maxHeartbeats 2000000
set_option linter.all false
end Go.Ev
end
section
open Go Go.Ev Go.RowKit
namespace Go.Ev
set_option linter.all false
def ordN (x : Nat → Run) : Nat → Nat
  | 0 => 0
  | i + 1 => bif decide ((x i).c.pr > 0) then ordN x i + 1 else ordN x i
def ordF (x : Nat → Run) : Nat → Nat → Int
  | 0 => fun _ => 0
  | i + 1 => bif decide ((x i).c.pr > 0) then (fun t => if t < ordN x i then ordF x i t else i) else ordF x i
/-- the order in which runs are given rooms -/
def ordO (x : Nat → Run) (n : Nat) (k : Nat) : Nat := (sortI (keyI x) (ordF x n) (ordN x n) k).toNat
end Go.Ev
end
section
open Go Go.Ev Go.RowKit
namespace Go.Ev
set_option maxRecDepth 100000
set_option maxHeartbeats 2000000
set_option linter.all false
theorem cat_at {a j : Nat} {g : Nat → D} {v : D} (ha : 0 < a) (hj : j < a + 1) : catF a g (getK [v]) j = if j < a then g j else v := by
  unfold catF
  cases h : Nat.beq a 0 with
  | true => have := Nat.eq_of_beq_eq_true h; omega
  | false =>
    simp only
    cases h2 : Nat.ble (j + 1) a with
    | true => have := Nat.le_of_ble_eq_true h2; simp only; rw [if_pos (by omega)]
    | false =>
      have h3 : ¬ j + 1 ≤ a := fun q => by rw [Nat.ble_eq_true_of_le q] at h2; cases h2
      simp only
      rw [if_neg (by omega), show j - a = 0 by omega, getK_eq]
      rfl
end Go.Ev
end
section
open Go Go.Ev Go.RowKit
namespace Go.Ev
set_option linter.all false
end Go.Ev
end
section
open Go Go.Ev Go.RowKit
namespace Go.Ev
set_option linter.all false
end Go.Ev
end
section
open Go Go.Ev Go.RowKit
namespace Go.Ev
set_option maxRecDepth 100000
set_option linter.all false
def noBig0 (_ : FuncId) : Bool := false
noncomputable def raw0 : Raw := ⟨noBig0, fun _ _ _ _ => none⟩
def alone1 (f : FuncId) : Bool := Nat.beq f 91 || Nat.beq f 74
noncomputable def tab1 : FuncId → List D → List Blk → Nat → Option Out := isoT alone1 (callF tree.find raw0 2000)
noncomputable def rawK : Raw := ⟨noBig0, tab1⟩
theorem known_val : valO (callF (without alone1 tree.find) rawK 3000 13 [] [.dead] 0) = some ⟨none, .val (.bool true), [], []⟩ := by kernel_rfl
def knownR (ds : List D) (_ : List Blk) (_ : Nat) : Option Out := match ds with
  | [] => some ⟨none, .val (.bool true), [], []⟩
  | _ => none
theorem knownR_ok (K : Cust) : ClOK K PG (oneCl 13 knownR) := by
  intro f ds hp nid out h hc
  unfold oneCl at h
  split at h
  · rename_i e
    obtain rfl := Nat.eq_of_beq_eq_true e
    unfold knownR at h
    split at h
    · have h0 : ClOK K PG tab1 := isoT_ok (callF_ok (raw := raw0) (drawn_ok hm0) (FT.found tree tree_good) (fun _ _ _ _ _ h => by cases h) 2000)
      refine isoT_ok (S := fun f => Nat.beq f 13) (callF_ok (raw := rawK) (drawn_ok hm0) (without_ok (S := alone1) (FT.found tree tree_good)) h0 3000) 13 [] hp nid out ?_ hc
      rw [← Option.some.inj h]
      exact known_val
    · cases h
  · cases h
end Go.Ev
end
section
open Go Go.Ev Go.RowKit
namespace Go.Ev
set_option maxRecDepth 100000
set_option maxHeartbeats 2000000
set_option linter.all false
noncomputable def T13r := orCl (oneCl 13 knownR) T21
theorem T13r_ok (K : Cust) : ClOK K PG T13r := ClOK.or (knownR_ok K) (T21_ok K)
end Go.Ev
end
section
open Go Go.Ev Go.RowKit
namespace Go.Ev
set_option linter.all false
/-- behind the run i of an hour the first s of the order have their rooms -/
structure PlP (x : Nat → Run) (n : Nat) (hour i s : Nat) : Prop where
  le : s ≤ ordN x n
  lo : ∀ t, t < s → begR (x (ordO x n t)) < hour ∨ begR (x (ordO x n t)) = hour ∧ ordO x n t < i
  hi : ∀ t, s ≤ t → t < ordN x n → (hour : Int) < begR (x (ordO x n t)) ∨ begR (x (ordO x n t)) = hour ∧ i ≤ ordO x n t
end Go.Ev
end
section
open Go Go.Ev Go.RowKit
namespace Go.Ev
set_option linter.all false
/-- all that the walk asks of a state of the rooms -/
structure RmP (h : Hall) (c : Nat → Camp) (p : Nat → Int) (n hour i s : Nat) : Prop where
  pl : PlP (planR c p) n hour i s
end Go.Ev
end
section
namespace Go.Ev
/-! ### Loops at whose beginning a block is told anew (an empty literal that grows) -/
section
variable {K : Cust} {P : Program} {w0 : World} {ρ0 : List Own} {hp0 : List Blk} {cl : FuncId → List D → List Blk → Nat → Option Out} {s : St} {Q : Ex → St → Prop}
theorem aw_loopR {ι : Type} (more : List Nat) (id : Nat) (xp x' : Blk) (hx : ∀ (K : Cust) (w : World) (M : World) (ρ : List Own) (o : Own), RepB K w M ρ o xp → RepB K w M ρ o x') (hm : P.follows .mixedOrders = true) (hcl : ClOK K P cl) {b r : ACode} {j : Nat} (car : ι → List (Nat × D)) (bl : ι → List (Nat × Blk)) (μ : ι → Nat) (i : ι)
    (round : ∀ i, AW cl (LoopA K P w0 ρ0 hp0) b (lst b (car i) (bl i) s) (RoundP K w0 ρ0 hp0 (fun i => lst b (car i) (bl i) s) μ i (blkP j (seqP cl (LoopA K P w0 ρ0 hp0) r Q))))
    (he : reb id x' (fgt (more ++ lessL (csL (car i)) (dstC b)) s) = lst b (car i) (bl i) s := by kernel_rfl) (ep : getG s.hp id = some xp := by kernel_rfl) (hb : Nat.ble s.base id = true := by kernel_rfl) : AW cl (LoopA K P w0 ρ0 hp0) (.seq (.block j (.loop b)) r) s Q := by
  rw [getG_eq] at ep
  have epd : s.hp.getD id .dead = xp := by rw [List.getD_eq_getElem?_getD, ep]; rfl
  exact aw_loopW hm hcl (fun i => lst b (car i) (bl i) s) μ i round
    (he ▸ (Wk.fgt (more ++ lessL (csL (car i)) (dstC b)) s).trans (Wk.reblk (s := fgt (more ++ lessL (csL (car i)) (dstC b)) s) (x' := x') (Nat.le_of_ble_eq_true hb) fun w M ρ o hr => hx K w M ρ o (epd ▸ hr)))
/-- a loop before which some slots are forgotten -/
theorem aw_loopF {ι : Type} (more : List Nat) (hm : P.follows .mixedOrders = true) (hcl : ClOK K P cl) {b r : ACode} {j : Nat} (car : ι → List (Nat × D)) (bl : ι → List (Nat × Blk)) (μ : ι → Nat) (i : ι)
    (round : ∀ i, AW cl (LoopA K P w0 ρ0 hp0) b (lst b (car i) (bl i) (fgt more s)) (RoundP K w0 ρ0 hp0 (fun i => lst b (car i) (bl i) (fgt more s)) μ i (blkP j (seqP cl (LoopA K P w0 ρ0 hp0) r Q))))
    (he : fgt (lessL (csL (car i)) (dstC b)) (fgt more s) = lst b (car i) (bl i) (fgt more s) := by kernel_rfl) : AW cl (LoopA K P w0 ρ0 hp0) (.seq (.block j (.loop b)) r) s Q :=
  aw_loopW hm hcl (fun i => lst b (car i) (bl i) (fgt more s)) μ i round ((Wk.fgt more s).trans (he ▸ Wk.fgt _ _))
/-- a loop before which slots are forgotten, a block is told anew, and n dead blocks are laid behind -/
theorem aw_loopX {ι : Type} (more : List Nat) (id : Nat) (xp x' : Blk) (hx : ∀ (K : Cust) (w : World) (M : World) (ρ : List Own) (o : Own), RepB K w M ρ o xp → RepB K w M ρ o x') (n : Nat) (hm : P.follows .mixedOrders = true) (hcl : ClOK K P cl) {b r : ACode} {j : Nat} (car : ι → List (Nat × D)) (bl : ι → List (Nat × Blk)) (μ : ι → Nat) (i : ι)
    (round : ∀ i, AW cl (LoopA K P w0 ρ0 hp0) b (lst b (car i) (bl i) (grown n (reb id x' (fgt more s)))) (RoundP K w0 ρ0 hp0 (fun i => lst b (car i) (bl i) (grown n (reb id x' (fgt more s)))) μ i (blkP j (seqP cl (LoopA K P w0 ρ0 hp0) r Q))))
    (he : fgt (lessL (csL (car i)) (dstC b)) (grown n (reb id x' (fgt more s))) = lst b (car i) (bl i) (grown n (reb id x' (fgt more s))) := by kernel_rfl) (ep : getG s.hp id = some xp := by kernel_rfl) (hb : Nat.ble s.base id = true := by kernel_rfl) : AW cl (LoopA K P w0 ρ0 hp0) (.seq (.block j (.loop b)) r) s Q := by
  rw [getG_eq] at ep
  have epd : s.hp.getD id .dead = xp := by rw [List.getD_eq_getElem?_getD, ep]; rfl
  exact aw_loopW hm hcl (fun i => lst b (car i) (bl i) (grown n (reb id x' (fgt more s)))) μ i round
    (((Wk.fgt more s).trans ((Wk.reblk (s := fgt more s) (x' := x') (Nat.le_of_ble_eq_true hb) fun w M ρ o hr => hx K w M ρ o (epd ▸ hr)).trans (Wk.grow n))).trans (he ▸ Wk.fgt _ _))
theorem cat_any {a j : Nat} {f : Nat → D} {v : D} (h : j < a + 1) : catF a f (getK [v]) j = if j < a then f j else v := by
  unfold catF
  cases h0 : Nat.beq a 0 with
  | true =>
    obtain rfl := Nat.eq_of_beq_eq_true h0
    obtain rfl : j = 0 := by omega
    rfl
  | false =>
    cases h1 : Nat.ble (j + 1) a with
    | true => simp only [h1]; rw [if_pos (by have := Nat.le_of_ble_eq_true h1; omega)]
    | false =>
      have h3 : ¬ j + 1 ≤ a := fun q => by rw [Nat.ble_eq_true_of_le q] at h1; cases h1
      have : j = a := by omega
      subst this
      simp only [h1, Nat.sub_self]
      rw [if_neg (by omega)]
      rfl
end
end Go.Ev
end
section
open Go Go.Ev Go.RowKit
namespace Go.Ev
set_option maxRecDepth 100000
set_option maxHeartbeats 2000000
set_option linter.all false
end Go.Ev
end
section
open Go Go.Ev Go.RowKit
namespace Go.Ev
set_option maxRecDepth 100000
set_option maxHeartbeats 20000000
set_option linter.all false
def sameB (n : Nat) (f : Nat → Int) (m : Nat) (g : Nat → Int) : Bool := decide (n = m) && !anyI (fun i => !decide (f i = g i)) n
theorem sameB_t {n m : Nat} {f g : Nat → Int} (h : n = m) (h2 : ∀ i, i < n → f i = g i) : sameB n f m g = true := by
  have : anyI (fun i => !decide (f i = g i)) n = false := anyI_false.2 fun i hi => by simp [h2 i hi]
  simp [sameB, h, this]
  subst h
  simp [this]
theorem sameB_n {n m : Nat} {f g : Nat → Int} (h : ¬ (n : Int) = m) : sameB n f m g = false := by
  have : ¬ n = m := by omega
  simp [sameB, this]
theorem sameB_f {n m i : Nat} {f g : Nat → Int} (hi : i < n) (h : ¬ f i = g i) : sameB n f m g = false := by
  have : anyI (fun i => !decide (f i = g i)) n = true := anyI_iff.2 ⟨i, hi, by simp [h]⟩
  simp [sameB, this]
theorem same_alone (n : Nat) (f : Nat → Int) (m : Nat) (g : Nat → Int) (hn : n ≤ 1000000) : Alone PG 25 [rowI n f, rowI m g] (bD (sameB n f m g)) :=
  Alone.ofW (cl := T13r) (raw := false) hm0 T13r_ok cf_25 fun K w => by
    refine aw_reg0 (aw_assoc (aw_reg0 (aw_ifsne ((↑n : Int)) ((↑m : Int)) (fun h1 => aw_assoc (aw_reg0 (aw_rets (end_b (false) ?_)))) (fun h2 => aw_skips (aw_assoc (aw_reg0 (?_)))))))
    · exact (sameB_n (by assumption)).symm
    · have hnm : n = m := by omega
      refine aw_loopV (ι := {i : Nat // i ≤ n ∧ ∀ j, j < i → f j = g j}) hm0 (T13r_ok K) (fun z => [(5, i6 z.1)]) (fun _ => []) (fun z => n - z.1) ⟨0, Nat.zero_le _, fun j hj => by omega⟩ (fun z => ?_)
      obtain ⟨i, hi, hall⟩ := z
      refine aw_assoc (aw_reg0 (aw_ifsd ((↑i : Int) < (↑n : Int)) (fun h3 => aw_skips (aw_blocks (aw_reg ((True ∧ (0 : Int) ≤ (↑i : Int) ∧ (↑i : Int) < (↑n : Int)) ∧ (0 : Int) ≤ (↑i : Int) ∧ (↑i : Int) < (↑m : Int)) (by (simp only [inRange_i64, true_and]; omega)) (aw_ifne (f i) (g i) (fun h4 => aw_reg0 (aw_ret (blk_ret (seq_ret (round_ret (blk_ret (seq_ret (end_b (false) ?_)))))))) (fun h5 => aw_skip (blk_normal (seq_normal (aw_end (True ∧ inRange IntKind.i64 ((↑i : Int) + (1 : Int))) (by (simp only [inRange_i64, true_and]; omega)) (round_t 1 ((∀ (i : Nat), i < n → True ∧ True) ∧ (∀ (i : Nat), i < m → True ∧ True) ∧ (∀ (i : Nat), i < n → True ∧ True) ∧ (∀ (i : Nat), i < m → True ∧ True) ∧ True) (True) (by (simp)) (by (exact True.intro)) ?_))))))))) (fun h6 => aw_exits (round_exit (blk_exit (seq_normal (aw_reg0 (aw_ret (end_b (true) ?_)))))))))
      · exact (sameB_f (i := i) (by omega) (by assumption)).symm
      · exact round_v ⟨i + 1, by omega, fun j hj => by
          rcases Nat.lt_or_ge j i with q | q
          · exact hall j q
          · obtain rfl : j = i := by omega
            assumption⟩ (by show n - (i + 1) < n - i; omega)
      · exact (sameB_t hnm fun j hj => hall j (by omega)).symm

def R25 : List D → Option (Option Prop × D)
  | [d0, d1] => match intsO d0, intsO d1 with
    | some (q1, n, f), some (q2, m, p) => some (some (q1 ∧ q2 ∧ n ≤ 1000000), bD (sameB n f m p))
    | _, _ => none
  | _ => none
noncomputable def T25 := orCl (aloC 25 R25) T13r
theorem T25_ok (K : Cust) : ClOK K PG T25 := tab_cons cf_25 (fun ds p d h hp => by
    unfold R25 at h
    split at h
    · split at h
      · rename_i e0 e1
        cases h
        obtain ⟨h1, h2, h3⟩ := hp _ rfl
        exact ⟨_, less_cons (intsO_less e0 h1) (less_cons (intsO_less e1 h2) (Less.refl _)), by simp [freeL, freeD, rowI_free], by simp [freeD], same_alone _ _ _ _ h3⟩
      · cases h
    · cases h) (T13r_ok K)
theorem ck_ok {h : Hall} {n : Nat} {c : Nat → Camp} {m : Nat} {p : Nat → Int} (e : obErr h n c m p = 0) : okN (keepB h n c m p) n = n ∧ okN (keepB h n c m p) h.n = h.n ∧ costB h n c m p = sumN (fun i => costR (planR c p i)) n ∧ m = n ∧ h.m = h.n ∧ n ≤ 1000 := by
  have q := obErr_ok e
  have q2 := keepB_cost (h := h) (n := n) (c := c) (m := m) (p := p)
  rw [costB, q]
  rw [q] at q2
  exact ⟨rfl, rfl, rfl, (keepB_keepC q).1, (okB_runs (p := p) (keepB_ok q).1).1, q2.1⟩
end Go.Ev
end
