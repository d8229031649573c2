import Derived.Test.YtmekepomgofiaaaR18
import Derived.Test.YtmekepomgofiaaaR17
set_option linter.all false
section
open Go Go.Ev Go.RowKit
namespace Go.Ev
set_option maxRecDepth 100000
set_option maxHeartbeats 2000000
set_option linter.all false
def fillI (b e v : Int) (c : Nat → Int) (j : Nat) : Int := if b ≤ (j : Int) ∧ (j : Int) < e then v else c j
theorem fill_set {b t v : Int} {c : Nat → Int} (h0 : 0 ≤ t) (hb : b ≤ t) : (fun j => D.val (.int .i64 (fillI b (t + 1) v c j))) = updF (fun j => D.val (.int .i64 (fillI b t v c j))) t.toNat [D.val (.int .i64 v)] := by
  funext j
  show _ = (match Nat.beq j t.toNat with | true => _ | false => _)
  cases h : Nat.beq j t.toNat with
  | true =>
    have e := Nat.eq_of_beq_eq_true h
    subst e
    simp only [fillI]
    congr 2
    rw [if_pos (by omega)]
  | false =>
    have e := Nat.ne_of_beq_eq_false h
    simp only [fillI]
    congr 2
    by_cases hj : b ≤ (j : Int) ∧ (j : Int) < t
    · rw [if_pos hj, if_pos (by omega)]
    · rw [if_neg hj, if_neg (by omega)]
theorem fill_0 {b v : Int} {c : Nat → Int} : (fun j => D.val (.int .i64 (c j))) = fun j => D.val (.int .i64 (fillI b b v c j)) := by
  funext j
  simp only [fillI]
  rw [if_neg (by omega)]
def enW (x : Nat → Run) : Nat → Nat → Int
  | 0, _ => 0
  | i + 1, j => fillI (x i).first ((x i).first + (x i).c.ho) (x i).c.en (enW x i) j

theorem keepB_prep {h : Hall} {n : Nat} {c : Nat → Camp} {m : Nat} {p : Nat → Int} (e : keepB h n c m p = true) : ∀ i, i < n → 0 ≤ p i ∧ 1 ≤ (c i).ho ∧ (c i).ho ≤ 24 ∧ p i + (c i).ho ≤ h.n ∧ 0 ≤ p i - (c i).pr ∧ 0 ≤ (c i).pr := by
  obtain ⟨v1, v2, v3, v4, v5⟩ := okB_runs (p := p) (keepB_ok e).1
  have hl := timeB_late (breB_time (keepB_ok e).2)
  intro i hi
  have q1 : campB h.n (c i) = true := v5 i hi
  have q2 := late_n (hl i hi)
  simp only [campB, decide_eq_true_eq] at q1
  omega

theorem use_plan (h : Hall) (n : Nat) (c : Nat → Camp) (m : Nat) (p : Nat → Int) (hn : h.n ≤ 100000 ∧ h.m ≤ 100000 ∧ n ≤ 100000 ∧ m ≤ 100000) : Alone PG 23 [.agg (hallD h), rowC n c, rowI m p] (.tup [rowI (okN (keepB h n c m p) h.n) (enW (planR c p) n), rowI (okN (keepB h n c m p) h.n) (prepI (planR c p) n), i6 (obErr h n c m p)]) :=
  Alone.ofF (cl := T21) hm0 T21_ok cf_23 fun K w => by
    refine aw_reg0 (aw_reg (True ∧ ((∀ (i : Nat), i < h.n → [i6 (h.st i)] = [i6 (h.st i)]) ∧ ∀ (i : Nat), i < h.m → [i6 (h.en i)] = [i6 (h.en i)]) ∧ (∀ (i : Nat), i < n → campD (c i) = campD (c i)) ∧ (∀ (i : Nat), i < m → [i6 (p i)] = [i6 (p i)]) ∧ n ≤ (100000 : Nat) ∧ m ≤ (100000 : Nat) ∧ h.n ≤ (100000 : Nat) ∧ h.m ≤ (100000 : Nat)) (by (simp <;> omega)) (aw_assoc (aw_reg0 (aw_ifsne (obErr h n c m p) ((0 : Int)) (fun h1 => aw_assoc (aw_reg0 (aw_rets (end_f (D.tup [D.val (Value.slice none (0 : Nat) (0 : Nat)), D.val (Value.slice none (0 : Nat) (0 : Nat)), D.val (Value.int IntKind.i64 (obErr h n c m p))]) ?_)))) (fun h2 => aw_skips (aw_reg (True ∧ (0 : Int) ≤ (↑h.n : Int) ∧ (↑h.n : Int) ≤ (↑h.n : Int) ∧ (↑h.n : Int) ≤ (1048576 : Int) ∧ (8 : Nat) * h.n ≤ (16777216 : Nat)) (by (simp <;> omega)) (aw_assoc (aw_reg0 (?_)))))))))
    · have e := obErr_bad h1
      exact frz_tup (frzL_cons (frz_bad (by exact e)) (frzL_cons (frz_bad (by exact e)) (frzL_cons (frz_i rfl) frzL_nil)))
    · have e := obErr_ok h2
      have hk := keepB_prep e
      have en : okN (keepB h n c m p) n = n := by rw [e]; rfl
      refine aw_loopV (ι := {i : Nat // i ≤ n}) hm0 (T21_ok K) (fun z => [(29, i6 z.1)]) (fun z => [(3, .arr h.n fun j => .val (.int .i64 (enW (planR c p) z.1 j)))]) (fun z => n - z.1) ⟨0, Nat.zero_le n⟩ (fun z => ?_)
      obtain ⟨i, hi⟩ := z
      refine aw_reg0 (aw_ifsd ((↑i : Int) < (↑(okN (keepB h n c m p) n) : Int)) (fun h3 => aw_skips (aw_blocks (aw_reg (True ∧ (0 : Int) ≤ (↑i : Int) ∧ (↑i : Int) < (↑(okN (keepB h n c m p) n) : Int)) (by (simp only [inRange_i64, true_and]; omega)) (aw_reg0 (?_))))) (fun h4 => aw_exits (round_exit (blk_exit (seq_normal (aw_reg (True ∧ ((∀ (i : Nat), i < h.n → [i6 (h.st i)] = [i6 (h.st i)]) ∧ ∀ (i : Nat), i < h.m → [i6 (h.en i)] = [i6 (h.en i)]) ∧ (∀ (i : Nat), i < okN (keepB h n c m p) n → runD (planR c p i) = runD (planR c p i)) ∧ prepC h.n (okN (keepB h n c m p) n) (planR c p) ∧ okN (keepB h n c m p) n ≤ (1000000 : Nat) ∧ h.n ≤ (1000000 : Nat)) ?_ (aw_ret (end_f (D.tup [D.sl (3 : Nat) (0 : Nat) h.n (1 : Nat) none, D.row (1 : Nat) h.n fun (i : Nat) => [i6 (prepI (planR c p) (okN (keepB h n c m p) n) i)], D.val (Value.int IntKind.i64 (0 : Int))]) ?_))))))))
      · have hin : i < n := by omega
        have q := hk i hin
        refine aw_loopE (ι := {k : Int // 0 ≤ k ∧ k ≤ (c i).ho}) hm0 (T21_ok K) (fun z => [(36, i6 z.1)]) (fun z => [(3, .arr h.n fun j => .val (.int .i64 (fillI (p i) (p i + z.1) (c i).en (enW (planR c p) i) j)))]) (fun z => ((c i).ho - z.1).toNat) ⟨0, by omega, by omega⟩ (fun z => ?_) (by
          show _ = lst _ _ [(3, .arr h.n fun j => D.val (.int .i64 (fillI (p i) (p i + 0) (c i).en (enW (planR c p) i) j)))] _
          rw [Int.add_zero, ← fill_0]
          kernel_rfl)
        obtain ⟨k, hk1, hk2⟩ := z
        have r1 : (planR c p i).c.ho = (c i).ho := rfl
        have r2 : (planR c p i).first = p i := rfl
        refine aw_reg0 (aw_ifsd (k < (planR c p i).c.ho) (fun h4 => aw_skips (aw_blocks (aw_reg0 (aw_end (((True ∧ inRange IntKind.i64 ((planR c p i).first + k)) ∧ (0 : Int) ≤ (planR c p i).first + k ∧ (planR c p i).first + k < (↑h.n : Int)) ∧ Int.toNat ((planR c p i).first + k) + (1 : Nat) ≤ h.n) (by (simp only [inRange_i64, true_and]; omega)) (blk_normal (seq_normal (aw_end (True ∧ inRange IntKind.i64 (k + (1 : Int))) (by (simp only [inRange_i64, true_and]; omega)) (?_)))))))) (fun h5 => aw_exits (round_exit (blk_exit (blk_normal (seq_normal (aw_end (True ∧ inRange IntKind.i64 ((↑i : Int) + (1 : Int))) (by (simp only [inRange_i64, true_and]; omega)) (round_t 4 ((True ∧ True ∧ (∀ (i : Nat), i < h.n → True ∧ True) ∧ (∀ (i : Nat), i < h.m → True ∧ True) ∧ True) ∧ (∀ (i : Nat), i < n → True ∧ True ∧ True ∧ True ∧ True ∧ True ∧ True ∧ True) ∧ (∀ (i : Nat), i < m → True ∧ True) ∧ (∀ (i : Nat), i < okN (keepB h n c m p) n → True ∧ True ∧ True ∧ True ∧ True ∧ True ∧ True ∧ True ∧ True) ∧ ((∀ (i : Nat), i < okN (keepB h n c m p) n → True ∧ True ∧ True ∧ True ∧ True ∧ True ∧ True ∧ True ∧ True) ∧ True ∧ True) ∧ (True ∧ True ∧ (∀ (i : Nat), i < h.n → True ∧ True) ∧ (∀ (i : Nat), i < h.m → True ∧ True) ∧ True) ∧ (∀ (i : Nat), i < n → True ∧ True ∧ True ∧ True ∧ True ∧ True ∧ True ∧ True) ∧ (∀ (i : Nat), i < m → True ∧ True) ∧ ((∀ (i : Nat), i < okN (keepB h n c m p) n → True ∧ True ∧ True ∧ True ∧ True ∧ True ∧ True ∧ True ∧ True) ∧ True ∧ True) ∧ (∀ (i : Nat), i < okN (keepB h n c m p) n → True ∧ True ∧ True ∧ True ∧ True ∧ True ∧ True ∧ True ∧ True) ∧ (∀ (i : Nat), i < h.n → True ∧ True) ∧ (∀ (i : Nat), i < okN (keepB h n c m p) n → True ∧ True ∧ True ∧ True ∧ True ∧ True ∧ True ∧ True ∧ True) ∧ True) (((∀ (i : Nat), i < h.n → True ∧ True) ∧ (∀ (i : Nat), i < h.m → True ∧ True) ∧ True) ∧ (∀ (j : Nat), j < h.n → True) ∧ True) (by (simp)) (by (simp)) ?_))))))))
        · refine round_v ⟨k + 1, by omega, by omega⟩ (by show ((c i).ho - (k + 1)).toNat < ((c i).ho - k).toNat; omega) ?_
          show _ = lst _ _ [(3, .arr h.n fun j => D.val (.int .i64 (fillI (p i) (p i + (k + 1)) (c i).en (enW (planR c p) i) j)))] _
          rw [show p i + (k + 1) = p i + k + 1 by omega, fill_set (by omega) (by omega)]
          kernel_rfl
        · obtain rfl : k = (c i).ho := by omega
          exact round_v ⟨i + 1, by omega⟩ (by show n - (i + 1) < n - i; omega)
      · refine ⟨trivial, ⟨fun _ _ => rfl, fun _ _ => rfl⟩, fun _ _ => rfl, fun i hi => ?_, by rw [en]; omega, by omega⟩
        rw [en] at hi
        have q := hk i hi
        refine ⟨keepB_small e i hi, ?_⟩
        show 0 ≤ p i - (c i).pr ∧ p i ≤ h.n
        omega
      · have hin : i = n := by rw [en] at *; omega
        rw [e] at *
        have eo : obErr h n c m p = 0 := h2
        subst hin
        exact frz_tup (frzL_cons (frz_ints (m := h.n) (f := fun j => D.val (.int .i64 (enW (planR c p) i j))) (by kernel_rfl) (Nat.le_refl _) (fun j _ => rfl)) (frzL_cons (frz_free (rowI_free _ _)) (frzL_cons (frz_i eo.symm) frzL_nil)))

end Go.Ev
end
section
open Go Go.Ev Go.RowKit
namespace Go.Ev
set_option maxRecDepth 100000
set_option maxHeartbeats 2000000
set_option linter.all false
def cmp3 (a b : Int) : Int := bif decide (a < b) then -1 else bif decide (a > b) then 1 else 0
theorem isnan (x : Int) : Alone PG 94 [i6 x] (bD false) :=
  Alone.ofW (cl := T21) (raw := false) hm0 T21_ok cf_94 fun K w => by
    refine aw_reg0 (aw_reg0 (aw_ret (end_b (x != x) ?_)))
    all_goals first
      | rfl
      | (rename_i q; exact absurd rfl q)
      | simp_all

def R94 : List D → Option (Option Prop × D)
  | [d0] => match inO d0 with
    | some x => some (none, bD false)
    | _ => none
  | _ => none
noncomputable def T94 := orCl (aloC 94 R94) T21
theorem T94_ok (K : Cust) : ClOK K PG T94 := tab_cons cf_94 (fun ds p d h hp => by
    unfold R94 at h
    split at h
    · split at h
      · rename_i e0
        obtain rfl := inO_eq e0
        cases h
        exact ⟨_, Less.refl _, by simp [freeL, freeD, campD_free, runD_free], by simp [freeD, freeL], isnan _⟩
      · cases h
    · cases h) (T21_ok K)
theorem cmp_alone (a b : Int) : Alone PG 64 [i6 a, i6 b] (i6 (cmp3 a b)) :=
  Alone.ofW (cl := T94) (raw := false) hm0 T94_ok cf_64 fun K w => by
    refine aw_reg0 (aw_reg0 (aw_reg0 (aw_assoc (aw_reg0 (aw_no (aw_skips (aw_assoc (aw_reg0 (aw_no (aw_skips (aw_assoc (aw_reg0 (aw_ifsd (a < b) (fun h1 => aw_assoc (aw_reg0 (aw_rets (end_i ((-1 : Int)) ?_)))) (fun h2 => aw_skips (aw_assoc (aw_reg0 (aw_ifsd (a > b) (fun h3 => aw_assoc (aw_reg0 (aw_rets (end_i ((1 : Int)) ?_)))) (fun h4 => aw_skips (aw_reg0 (aw_ret (end_i ((0 : Int)) ?_)))))))))))))))))))))
    all_goals (unfold cmp3; first | (rw [decide_eq_true (p := a < b) (by omega)]; rfl) | (rw [decide_eq_false (p := a < b) (by omega), decide_eq_true (p := a > b) (by omega)]; rfl) | (rw [decide_eq_false (p := a < b) (by omega), decide_eq_false (p := a > b) (by omega)]; rfl))

def R64 : List D → Option (Option Prop × D)
  | [d0, d1] => match inO d0, inO d1 with
    | some a, some b => some (none, i6 (cmp3 a b))
    | _, _ => none
  | _ => none
noncomputable def T64 := orCl (aloC 64 R64) T94
theorem T64_ok (K : Cust) : ClOK K PG T64 := tab_cons cf_64 (fun ds p d h hp => by
    unfold R64 at h
    split at h
    · split at h
      · rename_i e0 e1
        obtain rfl := inO_eq e0
        obtain rfl := inO_eq e1
        cases h
        exact ⟨_, Less.refl _, by simp [freeL, freeD], by simp [freeD], cmp_alone _ _⟩
      · cases h
    · cases h) (T94_ok K)
def keyI (x : Nat → Run) (v : Int) : Int := (x v.toNat).first - (x v.toNat).c.pr
theorem order_alone (n : Nat) (x : Nat → Run) (i j : Nat) (hi : i < n) (hj : j < n) (h : ∀ i, i < n → smallR (x i)) : Alone PG 63 [i6 i, i6 j, .ref [rowR n x] 0] (i6 (cmp3 (keyI x i) (keyI x j))) :=
  Alone.ofW (cl := T64) (raw := false) hm0 T64_ok cf_63 fun K w => by
    refine aw_reg0 (aw_reg ((((True ∧ (0 : Int) ≤ (↑i : Int) ∧ (↑i : Int) < (↑n : Int)) ∧ inRange IntKind.i64 ((x i).first - (x i).c.pr)) ∧ (0 : Int) ≤ (↑j : Int) ∧ (↑j : Int) < (↑n : Int)) ∧ inRange IntKind.i64 ((x j).first - (x j).c.pr)) (by (have q1 := h i hi; have q2 := h j hj; unfold smallR at q1 q2; simp only [inRange_i64, true_and]; omega)) (aw_ret (end_i (cmp3 ((x i).first - (x i).c.pr) ((x j).first - (x j).c.pr)) ?_)))
    rfl

theorem order_int (n : Nat) (x : Nat → Run) (a b : Int) (ha : 0 ≤ a ∧ a < n) (hb : 0 ≤ b ∧ b < n) (h : ∀ i, i < n → smallR (x i)) : Alone PG 63 [i6 a, i6 b, .ref [rowR n x] 0] (i6 (cmp3 (keyI x a) (keyI x b))) := by
  have := order_alone n x a.toNat b.toNat (by omega) (by omega) h
  rwa [Int.toNat_of_nonneg ha.1, Int.toNat_of_nonneg hb.1] at this
def R63 : List D → Option (Option Prop × D)
  | [d0, d1, d2] => match inO d0, inO d1, runsR d2 with
    | some a, some b, some (q, n, x) => some (some (q ∧ (0 ≤ a ∧ a < n) ∧ (0 ≤ b ∧ b < n) ∧ ∀ i, i < n → smallR (x i)), i6 (cmp3 (keyI x a) (keyI x b)))
    | _, _, _ => none
  | _ => none
noncomputable def T63 := orCl (aloC 63 R63) T64
theorem T63_ok (K : Cust) : ClOK K PG T63 := tab_cons cf_63 (fun ds p d h hp => by
    unfold R63 at h
    split at h
    · split at h
      · rename_i e0 e1 e2
        obtain rfl := inO_eq e0
        obtain rfl := inO_eq e1
        cases h
        obtain ⟨h1, h2, h3, h4⟩ := hp _ rfl
        exact ⟨_, less_cons (LessD.refl _) (less_cons (LessD.refl _) (less_cons (runsR_less e2 h1) (Less.refl _))), by simp [freeL, freeD, rowR_free], by simp [freeD], order_int _ _ _ _ h2 h3 h4⟩
      · cases h
    · cases h) (T64_ok K)
def shiftA (s : Nat → Int) (i j t : Nat) : Int := if t < j then s t else if t = j then s i else if t ≤ i then s (t - 1) else s t
theorem shift_0 {s : Nat → Int} {i : Nat} : s = shiftA s i i := by
  funext t
  unfold shiftA
  split
  · rfl
  · split
    · rename_i h; rw [h]
    · rw [if_neg (by omega)]
theorem shift_set {s : Nat → Int} {i j : Nat} (h : j + 1 ≤ i) : (fun t => D.val (.int .i64 (shiftA s i j t))) = updF (updF (fun t => D.val (.int .i64 (shiftA s i (j + 1) t))) (j + 1) [D.val (.int .i64 (s j))]) j [D.val (.int .i64 (s i))] := by
  funext t
  show _ = (match Nat.beq t j with | true => _ | false => (match Nat.beq t (j + 1) with | true => _ | false => _))
  cases h1 : Nat.beq t j with
  | true =>
    have e := Nat.eq_of_beq_eq_true h1
    simp only [shiftA]
    congr 2
    repeat' split
    all_goals first
      | rfl
      | (exfalso; omega)
  | false =>
    have n1 := Nat.ne_of_beq_eq_false h1
    cases h2 : Nat.beq t (j + 1) with
    | true =>
      have e := Nat.eq_of_beq_eq_true h2
      simp only [shiftA]
      congr 2
      repeat' split
      all_goals first
        | rfl
        | (exfalso; omega)
        | (congr 1; omega)
    | false =>
      have n2 := Nat.ne_of_beq_eq_false h2
      simp only [shiftA]
      congr 2
      repeat' split
      all_goals first
        | rfl
        | (exfalso; omega)
        | (congr 1; omega)
theorem shift_at {s : Nat → Int} {i j : Nat} : shiftA s i j j = s i := by
  unfold shiftA
  rw [if_neg (by omega), if_pos rfl]
theorem shift_lt {s : Nat → Int} {i j t : Nat} (h : t < j) : shiftA s i j t = s t := by
  unfold shiftA
  rw [if_pos h]
theorem shift_setI {s : Nat → Int} {i j : Nat} (h0 : 0 < j) (h : j ≤ i) : (fun t => D.val (.int .i64 (shiftA s i (j - 1) t))) = updF (updF (fun t => D.val (.int .i64 (shiftA s i j t))) j [D.val (.int .i64 (shiftA s i j ((j : Int) - 1).toNat))]) ((j : Int) - 1).toNat [D.val (.int .i64 (shiftA s i j j))] := by
  obtain ⟨k, rfl⟩ : ∃ k, j = k + 1 := ⟨j - 1, by omega⟩
  have e : ((k + 1 : Nat) : Int) - 1 = (k : Int) := by omega
  rw [e, Int.toNat_natCast, shift_at, shift_lt (by omega)]
  exact shift_set h
def insGo (key : Int → Int) (s : Nat → Int) (v : Int) : Nat → Nat
  | 0 => 0
  | j + 1 => bif decide (key v < key (s j)) then insGo key s v j else j + 1
theorem insGo_at {key : Int → Int} {s : Nat → Int} {v : Int} {j : Nat} (h2 : j = 0 ∨ ¬ key v < key (s (j - 1))) : ∀ i, j ≤ i → (∀ t, j ≤ t → t < i → key v < key (s t)) → insGo key s v i = j
  | 0, h, _ => by simp only [insGo]; omega
  | i + 1, h, ha => by
    by_cases q : j = i + 1
    · have : ¬ key v < key (s i) := by
        rcases h2 with h2 | h2
        · omega
        · rw [q] at h2; exact h2
      simp only [insGo, decide_eq_false this, cond_false, q]
    · have := ha i (by omega) (by omega)
      simp only [insGo, decide_eq_true this, cond_true]
      exact insGo_at h2 i (by omega) fun t a b => ha t a (by omega)
def sortI (key : Int → Int) (c : Nat → Int) : Nat → Nat → Int
  | 0 => c
  | i + 1 => shiftA (sortI key c i) i (insGo key (sortI key c i) (sortI key c i i) i)
theorem sort_1 {key : Int → Int} {c : Nat → Int} : c = sortI key c 1 := by
  show c = shiftA c 0 0
  exact shift_0
theorem insGo_le {key : Int → Int} {s : Nat → Int} {v : Int} : ∀ i, insGo key s v i ≤ i
  | 0 => by simp [insGo]
  | i + 1 => by
    have := insGo_le (key := key) (s := s) (v := v) i
    simp only [insGo]
    cases decide (key v < key (s i)) <;> simp <;> omega
theorem shift_all {P : Int → Prop} {s : Nat → Int} {n i j : Nat} (hi : i < n) (hj : j ≤ i) (h : ∀ t, t < n → P (s t)) : ∀ t, t < n → P (shiftA s i j t) := by
  intro t ht
  unfold shiftA
  split
  · exact h t ht
  · split
    · exact h i hi
    · split
      · exact h (t - 1) (by omega)
      · exact h t ht
theorem sort_all {P : Int → Prop} {key : Int → Int} {c : Nat → Int} {n : Nat} (h : ∀ t, t < n → P (c t)) : ∀ i, i ≤ n → ∀ t, t < n → P (sortI key c i t)
  | 0, _ => h
  | i + 1, hi => shift_all (by omega) (insGo_le i) (sort_all h i (by omega))
theorem cmp3_neg {a b : Int} : cmp3 a b < 0 ↔ a < b := by
  unfold cmp3
  by_cases h : a < b
  · simp [h]
  · by_cases h2 : a > b
    · simp [h, h2]
    · simp [h, h2]

theorem ins_alone (N : Nat) (x : Nat → Run) (n : Nat) (c : Nat → Int) (hn : n ≤ 1000000 ∧ N ≤ 1000000) (hx : ∀ i, i < N → smallR (x i)) (hc : ∀ t, t < n → 0 ≤ c t ∧ c t < N) :
    AloneB PG 108 [.sl 1 0 n 1 none, i6 0, i6 n, .fn 63 [] [.ref [rowR N x] 0]] (n * 1) (arrI c) (.tup []) (arrI (sortI (keyI x) c n)) :=
  AloneB.ofW (cl := T63) hm0 T63_ok cf_108 fun K w b B => by
    refine aw_reg (True ∧ inRange IntKind.i64 ((0 : Int) + (1 : Int))) (by (simp only [inRange_i64, true_and]; omega)) (?_)
    refine aw_loopE (ι := {i : Nat // 1 ≤ i ∧ i ≤ max 1 n}) hm0 (T63_ok K) (fun z => [(8, i6 z.1)]) (fun z => [(1, .arr (n * 1) fun j => .val (arrI (sortI (keyI x) c z.1) j))]) (fun z => max 1 n - z.1) ⟨1, Nat.le_refl _, Nat.le_max_left ..⟩ (fun z => ?_) (by
      show _ = lst _ _ [(1, .arr (n * 1) fun j => D.val (.int .i64 (sortI (keyI x) c 1 j)))] _
      rw [← sort_1]
      kernel_rfl)
    obtain ⟨i, hi1, hi2⟩ := z
    refine aw_assoc (aw_reg0 (aw_ifsd ((↑i : Int) < (↑n : Int)) (fun h1 => aw_skips (aw_blocks (aw_reg0 (?_)))) (fun h2 => aw_exits (round_exit (blk_exit (end_w (fun (j : Nat) => D.val (arrI (sortI (keyI x) c i) j)) ?_))))))
    · have hin : i < n := by omega
      have hs := sort_all (P := fun v => 0 ≤ v ∧ v < N) (key := keyI x) hc i (by omega)
      generalize hS : sortI (keyI x) c i = S at *
      refine aw_loopE (ι := {j : Nat // j ≤ i ∧ ∀ t, j ≤ t → t < i → keyI x (S i) < keyI x (S t)}) hm0 (T63_ok K) (fun z => [(9, i6 z.1)]) (fun z => [(1, .arr (n * 1) fun t => .val (arrI (shiftA S i z.1) t))]) (fun z => z.1) ⟨i, Nat.le_refl _, fun t a b => by omega⟩ (fun z => ?_) (by
        show _ = lst _ _ [(1, .arr (n * 1) fun t => D.val (.int .i64 (shiftA S i i t)))] _
        rw [← shift_0]
        kernel_rfl)
      obtain ⟨j, hj, hkey⟩ := z
      have hsh := shift_all (P := fun v => 0 ≤ v ∧ v < N) (j := j) hin hj hs
      refine aw_assoc (aw_opens (awr_testd 4 (21 : Nat) (True) trivial ((↑j : Int) > (0 : Int)) (fun h2 => awr_end ((((((True ∧ (0 : Int) ≤ (↑j : Int) ∧ (↑j : Int) < (↑n : Int)) ∧ j < n * (1 : Nat)) ∧ inRange IntKind.i64 ((↑j : Int) - (1 : Int))) ∧ (0 : Int) ≤ (↑j : Int) - (1 : Int) ∧ (↑j : Int) - (1 : Int) < (↑n : Int)) ∧ Int.toNat ((↑j : Int) - (1 : Int)) < n * (1 : Nat)) ∧ (∀ (i : Nat), i < N → runD (x i) = runD (x i)) ∧ ((0 : Int) ≤ shiftA S i j j ∧ shiftA S i j j < (↑N : Int)) ∧ ((0 : Int) ≤ shiftA S i j (Int.toNat ((↑j : Int) - (1 : Int))) ∧ shiftA S i j (Int.toNat ((↑j : Int) - (1 : Int))) < (↑N : Int)) ∧ ∀ (i : Nat), i < N → smallR (x i)) ?_ (aw_ifsd (cmp3 (keyI x (shiftA S i j j)) (keyI x (shiftA S i j (Int.toNat ((↑j : Int) - (1 : Int))))) < (0 : Int)) (fun h3 => aw_skips (aw_blocks (aw_end ((((((((((True ∧ inRange IntKind.i64 ((↑j : Int) - (1 : Int))) ∧ inRange IntKind.i64 ((↑j : Int) - (1 : Int))) ∧ (0 : Int) ≤ (↑j : Int) - (1 : Int) ∧ (↑j : Int) - (1 : Int) < (↑n : Int)) ∧ Int.toNat ((↑j : Int) - (1 : Int)) < n * (1 : Nat)) ∧ (0 : Int) ≤ (↑j : Int) ∧ (↑j : Int) < (↑n : Int)) ∧ j < n * (1 : Nat)) ∧ (0 : Int) ≤ (↑j : Int) ∧ (↑j : Int) < (↑n : Int)) ∧ j + (1 : Nat) ≤ n * (1 : Nat)) ∧ (0 : Int) ≤ (↑j : Int) - (1 : Int) ∧ (↑j : Int) - (1 : Int) < (↑n : Int)) ∧ Int.toNat ((↑j : Int) - (1 : Int)) + (1 : Nat) ≤ n * (1 : Nat)) (by (simp only [inRange_i64, true_and]; omega)) (blk_normal (seq_normal (aw_end (True ∧ inRange IntKind.i64 ((↑j : Int) - (1 : Int))) (by (simp only [inRange_i64, true_and]; omega)) (round_t 2 ((True ∧ ((∀ (i : Nat), i < N → True ∧ True ∧ True ∧ True ∧ True ∧ True ∧ True ∧ True ∧ True) ∧ True) ∧ True) ∧ True) ((∀ (j_1 : Nat), j_1 < n * (1 : Nat) → needD (2 : Nat) (updF (updF (fun (t : Nat) => D.val (arrI (shiftA S i j) t)) j [D.val (arrI (shiftA S i j) (Int.toNat ((↑j : Int) - (1 : Int))))]) (Int.toNat ((↑j : Int) - (1 : Int))) [D.val (arrI (shiftA S i j) j)] j_1)) ∧ True) (by (simp)) ?_ ?_))))))) (fun h4 => aw_exits (round_exit (blk_exit (blk_normal (seq_normal (aw_end (True ∧ inRange IntKind.i64 ((↑i : Int) + (1 : Int))) (by (simp only [inRange_i64, true_and]; omega)) (round_t 2 ((True ∧ ((∀ (i : Nat), i < N → True ∧ True ∧ True ∧ True ∧ True ∧ True ∧ True ∧ True ∧ True) ∧ True) ∧ True) ∧ True) ((∀ (j : Nat), j < n * (1 : Nat) → True) ∧ True) (by (simp)) (by (simp)) ?_))))))))) (fun h5 => awr_end0 (aw_no (aw_exits (round_exit (blk_exit (blk_normal (seq_normal (aw_end (True ∧ inRange IntKind.i64 ((↑i : Int) + (1 : Int))) (by (simp only [inRange_i64, true_and]; omega)) (round_t 2 ((True ∧ ((∀ (i : Nat), i < N → True ∧ True ∧ True ∧ True ∧ True ∧ True ∧ True ∧ True ∧ True) ∧ True) ∧ True) ∧ True) ((∀ (j : Nat), j < n * (1 : Nat) → True) ∧ True) (by (simp)) (by (simp)) ?_)))))))))))
      · have q1 := hsh j (by omega)
        have q2 := hsh ((j : Int) - 1).toNat (by omega)
        simp only [inRange_i64, true_and, implies_true]
        exact ⟨by omega, q1, q2, hx⟩
      · exact ⟨fun t _ => need_updF _ (by simp [needD]) (need_updF _ (by simp [needD]) (by simp [needD])), trivial⟩
      · have hj0 : 0 < j := by omega
        have h3' : keyI x (S i) < keyI x (S (j - 1)) := by
          have q := cmp3_neg.1 h3
          rw [shift_at, shift_lt (by omega)] at q
          have e : ((j : Int) - 1).toNat = j - 1 := by omega
          rw [e] at q
          exact q
        refine round_v ⟨j - 1, by omega, fun t a b => ?_⟩ (by show j - 1 < j; omega) ?_
        · by_cases q : t = j - 1
          · rw [q]; exact h3'
          · exact hkey t (by omega) b
        · show _ = lst _ [(9, i6 ((j - 1 : Nat) : Int))] [(1, .arr (n * 1) fun t => D.val (.int .i64 (shiftA S i (j - 1) t)))] _
          rw [show ((j - 1 : Nat) : Int) = (j : Int) - 1 by omega, shift_setI hj0 hj]
          kernel_rfl
      · have hfin : sortI (keyI x) c (i + 1) = shiftA S i j := by
          have h4' : ¬ keyI x (S i) < keyI x (S (j - 1)) := fun q => h4 (by
            have e : ((j : Int) - 1).toNat = j - 1 := by omega
            rw [cmp3_neg, shift_at, shift_lt (by omega), e]
            exact q)
          show shiftA (sortI (keyI x) c i) i (insGo (keyI x) (sortI (keyI x) c i) (sortI (keyI x) c i i) i) = _
          rw [hS, insGo_at (.inr h4') i hj hkey]
        refine round_v ⟨i + 1, by omega, by omega⟩ (by show max 1 n - (i + 1) < max 1 n - i; omega) ?_
        show _ = lst _ _ [(1, .arr (n * 1) fun t => D.val (.int .i64 (sortI (keyI x) c (i + 1) t)))] _
        rw [hfin]
        kernel_rfl
      · have hfin : sortI (keyI x) c (i + 1) = shiftA S i j := by
          show shiftA (sortI (keyI x) c i) i (insGo (keyI x) (sortI (keyI x) c i) (sortI (keyI x) c i i) i) = _
          rw [hS, insGo_at (.inl (by omega)) i hj hkey]
        refine round_v ⟨i + 1, by omega, by omega⟩ (by show max 1 n - (i + 1) < max 1 n - i; omega) ?_
        show _ = lst _ _ [(1, .arr (n * 1) fun t => D.val (.int .i64 (sortI (keyI x) c (i + 1) t)))] _
        rw [hfin]
        kernel_rfl
    · have : sortI (keyI x) c i = sortI (keyI x) c n := by
        rcases Nat.eq_zero_or_pos n with q | q
        · have : i = 1 := by omega
          rw [this, q, ← sort_1]
          rfl
        · have : i = n := by omega
          rw [this]
      exact fun j _ => by rw [this]

end Go.Ev
end
section
namespace Go.Ev
/-! ### Loops whose rounds need a block more than was there before (a slice that is nil at first, and then grows) -/
section
variable {K : Cust} {P : Program} {w0 : World} {ρ0 : List Own} {hp0 : List Blk} {cl : FuncId → List D → List Blk → Nat → Option Out} {s : St} {Q : Ex → St → Prop}
noncomputable def grown (n : Nat) (s : St) : St := ⟨s.p, s.sl, s.hp ++ deads n, s.base, s.wr⟩
theorem Wk.grow (n : Nat) : Wk K w0 ρ0 hp0 s (grown n s) := fun _ _ _ h => ⟨_, h.grow n⟩
theorem aw_loopG {ι : Type} (n : Nat) (hm : P.follows .mixedOrders = true) (hcl : ClOK K P cl) {b r : ACode} {j : Nat} (car : ι → List (Nat × D)) (bl : ι → List (Nat × Blk)) (μ : ι → Nat) (i : ι)
    (round : ∀ i, AW cl (LoopA K P w0 ρ0 hp0) b (lst b (car i) (bl i) (grown n s)) (RoundP K w0 ρ0 hp0 (fun i => lst b (car i) (bl i) (grown n s)) μ i (blkP j (seqP cl (LoopA K P w0 ρ0 hp0) r Q))))
    (he : fgt (lessL (csL (car i)) (dstC b)) (grown n s) = lst b (car i) (bl i) (grown n s) := by kernel_rfl) : AW cl (LoopA K P w0 ρ0 hp0) (.seq (.block j (.loop b)) r) s Q :=
  aw_loopW hm hcl (fun i => lst b (car i) (bl i) (grown n s)) μ i round ((Wk.grow n).trans (he ▸ Wk.fgt _ _))
end
end Go.Ev
end
section
namespace Go.Ev
section
variable {K : Cust} {P : Program} {w0 : World} {ρ0 : List Own} {hp0 : List Blk} {s s0 : St} {Q : Ex → St → Prop}
/-- at the end of a round a block is told anew -/
theorem round_rb {ι : Type} {st : ι → St} {μ : ι → Nat} {i : ι} (id : Nat) (xp x' : Blk) (hx : ∀ (K : Cust) (w : World) (M : World) (ρ : List Own) (o : Own), RepB K w M ρ o xp → RepB K w M ρ o x')
    (h : RoundP K w0 ρ0 hp0 st μ i Q .normal (reb id x' s)) (ep : getG s.hp id = some xp := by kernel_rfl) (hb : Nat.ble s.base id = true := by kernel_rfl) : RoundP K w0 ρ0 hp0 st μ i Q .normal s := by
  rw [getG_eq] at ep
  have epd : s.hp.getD id .dead = xp := by rw [List.getD_eq_getElem?_getD, ep]; rfl
  exact round_wk (Wk.reblk (id := id) (x' := x') (Nat.le_of_ble_eq_true hb) fun w M ρ o hr => hx K w M ρ o (epd ▸ hr)) h
theorem cells_arr {cs : List D} {n : Nat} {f : Nat → D} (hn : cs.length = n) (h : ∀ j, j < n → getK cs j = f j) : ∀ (K : Cust) (w : World) (M : World) (ρ : List Own) (o : Own), RepB K w M ρ o (.cells cs) → RepB K w M ρ o (.arr n f) := fun K w M ρ o hr => by
  have e : cs = tabL n f := tabL_ext hn fun j hj => by
    rw [← h j hj, getK_eq, List.getD_eq_getElem?_getD, List.getElem?_eq_getElem (by omega)]
    rfl
  subst e
  exact RepB_flat.1 hr
theorem arr_arr {m n : Nat} {f g : Nat → D} (hn : m = n) (h : ∀ j, j < n → f j = g j) : ∀ (K : Cust) (w : World) (M : World) (ρ : List Own) (o : Own), RepB K w M ρ o (.arr m f) → RepB K w M ρ o (.arr n g) := by
  subst hn
  exact blk_congr h
end
end Go.Ev
end
section
namespace Go.Ev
section
variable {K : Cust} {P : Program} {w w' : World} {ρ : List Own} {hp : List Blk} {nid : Nat}
theorem see_subB {id0 b0 n0 : Nat} (ho0 : ρ[id0]? = some (Own.live b0 n0)) : Sub (mask K w ρ) (mask K w [.fresh, .live b0 n0]) := fun c cs ty fr h => by
  rw [mask_some] at *
  refine ⟨?_, h.2⟩
  rintro (hh | ⟨i, k, hi⟩)
  · exact h.1 (.inl hh)
  · match i, hi with
    | 0, hi => simp at hi
    | 1, hi =>
      simp at hi
      obtain ⟨rfl, rfl⟩ := hi
      exact h.1 (.inr ⟨id0, n0, ho0⟩)
    | i + 2, hi => simp at hi
theorem see_ownB {b b0 n0 : Nat} {cs : Array Value} {ty : TypeId} {fr : Nat × Nat} (h : w.heap[b]? = some (Obj.cells cs ty fr)) (hb : ¬ K.hid b) (hne : b ≠ b0) : (mask K w [.fresh, .live b0 n0]).heap[b]? = some (Obj.cells cs ty fr) := by
  rw [mask_some]
  refine ⟨?_, h⟩
  rintro (hh | ⟨i, k, hi⟩)
  · exact hb hh
  · match i, hi with
    | 0, hi => simp at hi
    | 1, hi => simp at hi; exact hne hi.1.symm
    | i + 2, hi => simp at hi
theorem own_blockB {id id0 : Nat} {x : Blk} (hk : OK K w ρ hp) (hg : getG (hp.set id0 .dead) id = some x) (hx : x ≠ .dead) : ∃ b n, own ρ id = .live b n ∧ RepB K w (mask K w ρ) ρ (.live b n) x ∧ id ≠ id0 := by
  rw [getG_eq, List.getElem?_set] at hg
  split at hg
  · split at hg
    · exact absurd (Option.some.inj hg).symm hx
    · cases hg
  · rename_i hne
    obtain ⟨b, n, h1, h2⟩ := own_block hk (by rw [getG_eq]; exact hg) hx
    exact ⟨b, n, h1, h2, fun e => hne e.symm⟩
theorem seeB_ok {id0 b0 n0 : Nat} (ho0 : ρ[id0]? = some (Own.live b0 n0)) (hk : OK K w ρ hp) : ∀ (n : Nat) (d d' : D) (v : Value) (p : Option Prop), Rep K (mask K w ρ) ρ d v → seeS (hp.set id0 .dead) n d = some (p, d') → holdsO p → Rep K (mask K w [.fresh, .live b0 n0]) [.fresh, .live b0 n0] d' v
  | 0, d, d', v, p, h, hs, _ => by simp [seeS] at hs
  | n + 1, d, d', v, p, h, hs, hq => by
    have ih := seeB_ok ho0 hk n
    have ihL : ∀ {ds ds' : List D} {vs : List Value} {p : Option Prop}, mapO (seeS (hp.set id0 .dead) n) ds = some (p, ds') → holdsO p → RepL K (mask K w ρ) ρ ds vs → RepL K (mask K w [.fresh, .live b0 n0]) [.fresh, .live b0 n0] ds' vs := fun {ds ds' vs p} hm hp hl => by
      obtain ⟨g1, g2⟩ := mapO_get hm hp
      refine repL_of (by rw [← g1]; exact repL_length hl) fun i e hi => ?_
      obtain ⟨d, q, q1, q2, q3⟩ := g2 i e hi
      obtain ⟨u, q4, q5⟩ := repL_get hl q1
      exact ⟨u, q4, ih d e u q q5 q2 q3⟩
    have ihB : ∀ {id b m : Nat} {cs cs' : List D} {p : Option Prop}, own ρ id = .live b m → id ≠ id0 → RepB K w (mask K w ρ) ρ (.live b m) (.cells cs) → mapO (seeS (hp.set id0 .dead) n) cs = some (p, cs') → holdsO p → Reads K (mask K w [.fresh, .live b0 n0]) (mask K w [.fresh, .live b0 n0]) [.fresh, .live b0 n0] cs' b 0 := fun {id b m cs cs' p} ho hne hB hm hp => by
      obtain ⟨vs, ty, q1, q2, q3⟩ := hB
      have hcell := see_ownB (b0 := b0) (n0 := n0) q1 (hk.apart id b m (own_live ho)) (fun (e : b = b0) => hne (hk.inj id id0 b m n0 (own_live ho) (by rw [e]; exact ho0)))
      obtain ⟨g1, g2⟩ := mapO_get hm hp
      intro j e hj
      obtain ⟨d, q, k1, k2, k3⟩ := g2 j e hj
      obtain ⟨x, k4, k5⟩ := q3 j d k1
      exact ⟨x, by rw [cell_of hcell, Nat.zero_add]; exact k4, ih d e x q k5 k2 k3⟩
    cases d with
    | any => simp only [seeS] at hs; cases hs; trivial
    | val x => simp only [seeS] at hs; cases hs; simpa only [Rep] using h
    | cust t q => simp only [seeS] at hs; cases hs; simp only [Rep] at *; exact K.mono _ _ _ _ _ (see_subB ho0) h
    | emp z => simp only [seeS] at hs; cases hs; simpa only [Rep] using h
    | map id => simp [seeS] at hs
    | row k len f =>
      simp only [seeS] at hs
      cases hs
      have hf := hq _ rfl
      simp only [Rep] at *
      exact h.imp id fun ⟨b, o, c, h1, h2, h3⟩ => ⟨b, o, c, h1, h2, fun i hi => RepC.free (K := K) (K' := K) (see_subB ho0) (fun t q v hc => K.mono _ _ _ _ _ (see_subB ho0) hc) (f i) b _ (hf i hi) (h3 i hi)⟩
    | ref cs off =>
      simp only [seeS] at hs
      split at hs
      · rename_i p' cs' hm
        cases hs
        obtain ⟨g1, g2⟩ := mapO_get hm hq
        simp only [Rep] at *
        obtain ⟨b, o, h1, h2⟩ := h
        refine ⟨b, o, h1, reads_C fun j e hj => ?_⟩
        obtain ⟨d, q, k1, k2, k3⟩ := g2 j e hj
        obtain ⟨x, k4, k5⟩ := repC_reads (w := mask K w ρ) (fun _ _ _ _ h => h) h2 j d k1
        exact ⟨x, (see_subB ho0).cell k4, ih d e x q k5 k2 k3⟩
      · cases hs
    | sl id off len k cap =>
      simp only [seeS] at hs
      split at hs
      · rename_i m f hg
        cases hs
        obtain ⟨hle, hf⟩ := hq _ rfl
        obtain ⟨b, N, ho, hB, hne⟩ := own_blockB hk hg (by intro e; cases e)
        simp only [Rep, ho] at h ⊢
        obtain ⟨c, rfl, hlc, _⟩ := h
        obtain ⟨vs, ty, q1, q2, q3, q4⟩ := hB
        have hcell := see_ownB (b0 := b0) (n0 := n0) q1 (hk.apart id b N (own_live ho)) (fun (e : b = b0) => hne (hk.inj id id0 b N n0 (own_live ho) (by rw [e]; exact ho0)))
        refine .inr ⟨b, off, c, rfl, hlc, fun i hi => reads_C fun j e hj => ?_⟩
        rw [addmul] at hj
        obtain ⟨hjk, rfl⟩ := tabF_at hj
        have hb : off + i * k + j < m := by
          have : (i + 1) * k ≤ len * k := Nat.mul_le_mul_right k hi
          rw [Nat.add_mul, Nat.one_mul] at this
          omega
        obtain ⟨x, p1, p2⟩ := q4 _ hb
        exact ⟨x, by rw [cell_of hcell]; exact p1, Rep.free (K := K) (K' := K) (see_subB ho0) (fun t q v hc => K.mono _ _ _ _ _ (see_subB ho0) hc) _ x (hf _ hb) p2⟩
      · rename_i cs hg
        split at hs
        · rename_i hle
          split at hs
          · rename_i p' cs' hm
            cases hs
            obtain ⟨b, N, ho, hB, hne⟩ := own_blockB hk hg (by intro e; cases e)
            have hrd := ihB ho hne hB hm hq
            simp only [Rep, ho] at h ⊢
            obtain ⟨c, rfl, hlc, _⟩ := h
            refine .inr ⟨b, off, c, rfl, hlc, fun i hi => reads_C fun j e hj => ?_⟩
            unfold cutC at hj
            rw [takeG_eq, dropG_eq, addmul, List.getElem?_take] at hj
            split at hj
            · rw [List.getElem?_drop] at hj
              have := hrd _ e hj
              rw [Nat.zero_add] at this
              exact this
            · cases hj
          · cases hs
        · cases hs
      · cases hs
    | ptr id off =>
      simp only [seeS] at hs
      split at hs
      · rename_i cs hg
        split at hs
        · rename_i p' cs' hm
          cases hs
          obtain ⟨b, N, ho, hB, hne⟩ := own_blockB hk hg (by intro e; cases e)
          have hrd := ihB ho hne hB hm hq
          simp only [Rep, ho] at h ⊢
          exact ⟨b, 0, by rw [Nat.zero_add]; exact h, reads_C hrd⟩
        · cases hs
      · cases hs
    | agg ds =>
      simp only [seeS] at hs
      split at hs
      · rename_i p' ds' hm
        cases hs
        simp only [Rep] at *
        obtain ⟨vs, rfl, h2⟩ := h
        exact ⟨vs, rfl, ihL hm hq h2⟩
      · cases hs
    | tup ds =>
      simp only [seeS] at hs
      split at hs
      · rename_i p' ds' hm
        cases hs
        simp only [Rep] at *
        obtain ⟨vs, rfl, h2⟩ := h
        exact ⟨vs, rfl, ihL hm hq h2⟩
      · cases hs
    | fn f a b =>
      simp only [seeS] at hs
      split at hs
      · rename_i p1 a' ha
        split at hs
        · rename_i p2 b' hb
          cases hs
          obtain ⟨k1, k2⟩ := holdsO_and hq
          simp only [Rep] at *
          obtain ⟨x, y, rfl, h1, h2⟩ := h
          exact ⟨x, y, rfl, ihL ha k1 h1, ihL hb k2 h2⟩
        · cases hs
      · cases hs
    | iface t d =>
      simp only [seeS] at hs
      split at hs
      · rename_i p' d' hd
        cases hs
        simp only [Rep] at *
        obtain ⟨x, rfl, h2⟩ := h
        exact ⟨x, rfl, ih d d' x _ h2 hd hq⟩
      · cases hs
end
end Go.Ev
end
section
namespace Go.Ev
section
variable {K : Cust} {P : Program} {w w' : World} {ρ : List Own} {hp : List Blk} {nid id b n m : Nat} {g g' : Nat → Value}
theorem OK.oneK (hk : OK K w ρ hp) (ho : ρ[id]? = some (Own.live b n)) (hb : hp[id]? = some (.arr m fun j => .val (g j))) : OK K w [.fresh, .live b n] [.dead, .arr m fun j => .val (g j)] := by
  refine ⟨rfl, fun i c k hi => ?_, fun i j c k l h1 h2 => ?_, fun i x hx => ?_, hk.hid, fun i c k hi hh => ?_⟩
  · match i, hi with
    | 0, hi => simp at hi
    | 1, hi => simp at hi; obtain ⟨rfl, rfl⟩ := hi; exact hk.lt id b n ho
    | i + 2, hi => simp at hi
  · match i, j, h1, h2 with
    | 0, _, h1, _ => simp at h1
    | _, 0, _, h2 => simp at h2
    | 1, 1, _, _ => rfl
    | i + 2, _, h1, _ => simp at h1
    | _, j + 2, _, h2 => simp at h2
  · match i, hx with
    | 0, hx => simp at hx; subst hx; trivial
    | 1, hx =>
      simp at hx
      subst hx
      have := hk.blk id _ hb
      rw [own_some ho] at this
      exact arr_cust (K := K) (K' := K) this
    | i + 2, hx => simp at hx
  · match i, hi with
    | 0, hi => simp at hi
    | 1, hi =>
      simp at hi
      obtain ⟨rfl, rfl⟩ := hi
      exact hk.apart id b n ho hh
    | i + 2, hi => simp at hi
theorem Res.oneK {d : D} {v : Value} {p : Option Prop} (hk : OK K w ρ hp) (ho : ρ[id]? = some (Own.live b n)) (hb : hp[id]? = some (.arr m fun j => .val (g j))) (hd : isPl d = true)
    (h : Res (K) w [.fresh, .live b n] [.dead, .arr m fun j => .val (g j)] 0 ⟨none, d, [(1, .arr m fun j => .val (g' j))], []⟩ v w') : Res K w ρ hp nid ⟨p, d, [(id, .arr m fun j => .val (g' j))], []⟩ v w' := by
  obtain ⟨ρ1, h1, h2⟩ := h
  have hkeep : ∀ c : Nat, c < w.heap.size → c ≠ b → w'.heap[c]? = w.heap[c]? := fun c hc hne => h2.keep c hc fun i k hi => by
    match i, hi with
    | 0, hi => simp at hi
    | 1, hi => simp at hi; exact absurd hi.1.symm hne
    | i + 2, hi => simp at hi
  have hok := h2.ok _ (Le.refl _) (hk.oneK ho hb)
  have hb1 : RepB (K) w' (mask (K) w' ρ1) ρ1 (own ρ1 1) (.arr m fun j => .val (g' j)) := hok.blk 1 _ (by simp [app])
  have hlive : own ρ1 1 = .live b n := by
    have hle : ole (.live b n) (own ρ1 1) := by simpa [own] using h2.le 1
    rcases hle with e | e
    · exact e
    · rw [e] at hb1
      exact hb1.elim
  rw [hlive] at hb1
  have hsub : Sub (mask K w ρ) (mask K w' ρ) := fun c cs ty fr hc => by
    rw [mask_some] at *
    refine ⟨hc.1, ?_⟩
    rw [hkeep c (lt_of_cells hc.2) (fun e => hc.1 (e ▸ .inr ⟨id, n, ho⟩))]
    exact hc.2
  have hidl := (List.getElem?_eq_some_iff.1 hb).1
  refine ⟨ρ, isPl_cust hd h1, h2.size, fun c hc hcond => hkeep c hc fun e => ?_, fun c hc => .inl hc, rfl, OwnLe.refl ρ, fun hp2 hle hk2 => ?_, fun i q1 q2 => ⟨fun y hy => ?_, rfl⟩, fun i h _ => h, h2.env⟩
  · subst e
    have := hcond id n ho
    rw [hb] at this
    cases this
  · rw [List.append_nil]
    refine ⟨by simp [app, hk2.len], fun i c k hi => Nat.lt_of_lt_of_le (hk2.lt i c k hi) h2.size, hk2.inj, fun i y hy => ?_, fun c hc => Nat.lt_of_lt_of_le (hk2.hid c hc) h2.size, hk2.apart⟩
    simp only [app, List.foldl_cons, List.foldl_nil, List.getElem?_set] at hy
    split at hy
    · rename_i e
      subst e
      have : y = .arr m fun j => .val (g' j) := by
        split at hy
        · exact (Option.some.inj hy).symm
        · cases hy
      rw [this, own_some ho]
      exact arr_cust (K := K) (K' := K) hb1
    · rename_i e
      refine (hk2.blk i y hy).mono hsub (OwnLe.refl ρ) fun c k hc => hkeep c (hk2.lt i c k (own_live hc)) ?_
      intro e2
      subst e2
      exact e (hk2.inj _ _ _ _ _ ho (own_live hc))
  · rw [List.mem_singleton] at hy
    subst hy
    rintro rfl
    rw [hb] at q1
    cases q1
/-- a table of one function that changes the array which is its first argument; the other arguments are seen as nobody's -/
noncomputable def chgS (f0 : FuncId) (r : Nat → Nat → (Nat → Value) → List D → Option (Option Prop × D × (Nat → Value))) (f : FuncId) (ds : List D) (hp : List Blk) (_ : Nat) : Option Out := match Nat.beq f f0 with
  | true => match ds with
    | .sl id 0 len k none :: ds => match getG hp id with
      | some (.arr m fn) => match mapO (seeS (hp.set id .dead) 6) ds with
        | some (q, ds) => match r len k (fun j => match fn j with | .val v => v | _ => undef) ds with
          | some (p, d, g') => match isPl d with
            | true => some ⟨andO (some (∀ j, j < m → ∃ v, fn j = .val v)) (andO (some (len * k = m)) (andO q p)), d, [(id, .arr m fun j => .val (g' j))], []⟩
            | false => none
          | none => none
        | none => none
      | _ => none
    | _ => none
  | false => none
theorem chgS_ok {f0 : FuncId} {r : Nat → Nat → (Nat → Value) → List D → Option (Option Prop × D × (Nat → Value))} (henter : ∀ args w, (callFunc f0 args).run P w = .ok (.enter f0 args) w)
    (h : ∀ len k g ds p d g', r len k g ds = some (p, d, g') → holdsO p → ∃ ds', Less ds ds' ∧ AloneB P f0 (.sl 1 0 len k none :: ds') (len * k) g d g') : ClOK K P (chgS f0 r) := by
  intro f ds hp nid out ho hc
  unfold chgS at ho
  split at ho
  · rename_i hfg
    obtain rfl := Nat.eq_of_beq_eq_true hfg
    split at ho
    · rename_i id len k ds0
      split at ho
      · rename_i m fn hg
        split at ho
        rotate_left
        · cases ho
        rename_i q dsee hsee
        split at ho
        · rename_i p d g2 hr
          split at ho
          · rename_i hpl
            obtain rfl := (Option.some.inj ho).symm
            obtain ⟨k1, k2⟩ := holdsO_and hc
            obtain ⟨k3, k45⟩ := holdsO_and k2
            obtain ⟨k5, k4⟩ := holdsO_and k45
            have k1 := k1 _ rfl
            obtain rfl := k3 _ rfl
            refine ⟨henter, fun w ρ args hk hrep hn => ?_⟩
            obtain ⟨ds', hl, hA⟩ := h len k _ dsee p d g2 hr k4
            obtain ⟨b, n, hob, hB⟩ := own_block hk hg (by intro e; cases e)
            have hol := own_live hob
            simp only [RepL] at hrep
            obtain ⟨x, xs, rfl, h1, h2⟩ := hrep
            -- the array is one of plain values
            have hB' : RepB K w (mask K w ρ) ρ (.live b n) (.arr (len * k) fun j => .val (match fn j with | .val v => v | _ => undef)) := by
              obtain ⟨vs, ty, q1, q2, q3, q4⟩ := hB
              refine ⟨vs, ty, q1, q2, q3, fun j hj => ?_⟩
              obtain ⟨y, p1, p2⟩ := q4 j hj
              obtain ⟨v, hv⟩ := k1 j hj
              refine ⟨y, p1, ?_⟩
              rw [hv] at p2
              simp only [Rep] at p2 ⊢
              rw [hv]
              exact p2
            have hidl : id < hp.length := by
              rw [getG_eq] at hg
              exact (List.getElem?_eq_some_iff.1 hg).1
            -- the caller's heap, with the array told so
            have hkk : OK K w ρ (hp.set id (.arr (len * k) fun j => .val (match fn j with | .val v => v | _ => undef))) := by
              refine ⟨by simp [hk.len], hk.lt, hk.inj, fun i y hy => ?_, hk.hid, hk.apart⟩
              rw [List.getElem?_set] at hy
              split at hy
              · rename_i e
                subst e
                try simp only [hidl, if_true] at hy
                cases hy
                rw [hob]
                exact hB'
              · exact hk.blk i y hy
            have hb' : (hp.set id (.arr (len * k) fun j => D.val (match fn j with | .val v => v | _ => undef)))[id]? = some (.arr (len * k) fun j => .val (match fn j with | .val v => v | _ => undef)) := by
              rw [List.getElem?_set, if_pos rfl, if_pos hidl]
            obtain ⟨m1, m2⟩ := mapO_get hsee k5
            have hseen : RepL K (mask K w [.fresh, .live b n]) [.fresh, .live b n] dsee xs := repL_of (by rw [← m1]; exact repL_length h2) fun i e he => by
              obtain ⟨d0, q0, e1, e2, e3⟩ := m2 i e he
              obtain ⟨u, hu, hru⟩ := repL_get h2 e1
              exact ⟨u, hu, seeB_ok hol hk 6 d0 e u q0 hru e2 e3⟩
            have hargs : RepL (K) (mask (K) w [.fresh, .live b n]) [.fresh, .live b n] (.sl 1 0 len k none :: ds') (x :: xs) := by
              simp only [RepL]
              refine ⟨x, xs, rfl, ?_, hl K _ _ _ hseen⟩
              simp only [Rep, hob] at h1
              have : own [Own.fresh, .live b n] 1 = .live b n := rfl
              simp only [Rep, this]
              exact h1
            refine (hA (K) w b n (x :: xs) (hkk.oneK hol hb') hargs).mono fun e w' hx => ?_
            obtain ⟨v, rfl, hres⟩ := hx
            have hR := Res.oneK (p := andO (some (∀ j, j < len * k → ∃ v, fn j = .val v)) (andO (some (len * k = len * k)) (andO q p))) (nid := nid) hkk hol hb' hpl hres
            obtain ⟨ρ2, r1, r2⟩ := hR
            refine ⟨v, rfl, ρ2, r1, r2.size, fun c hcc hcond => r2.keep c hcc fun i k hi => ?_, r2.new, r2.len, r2.le, fun hp2 hle hk2 => ?_, fun i q1 q2 => ?_, r2.fr, r2.env⟩
            · have := hcond i k hi
              rw [List.getElem?_set]
              split
              · rename_i e
                subst e
                rw [getG_eq] at hg
                rw [hg] at this
                cases this
              · exact this
            · have hlen2 := hle.1
              have hk3 : OK K w ρ (hp2.set id (.arr (len * k) fun j => .val (match fn j with | .val v => v | _ => undef))) := by
                refine ⟨by simp [hk2.len], hk2.lt, hk2.inj, fun i y hy => ?_, hk2.hid, hk2.apart⟩
                rw [List.getElem?_set] at hy
                split at hy
                · rename_i e
                  subst e
                  have hid2 : id < hp2.length := by omega
                  try simp only [hid2, if_true] at hy
                  cases hy
                  rw [hob]
                  exact hB'
                · exact hk2.blk i y hy
              have := r2.ok _ ⟨by simp [hlen2], fun i => by
                rw [List.getElem?_set, List.getElem?_set, hlen2]
                split
                · exact .inl rfl
                · exact hle.2 i⟩ hk3
              simpa [app] using this
            · have hne : id ≠ i := by
                rintro rfl
                rw [getG_eq] at hg
                rw [hg] at q1
                cases q1
              refine r2.hid i ?_ q2
              rw [List.getElem?_set, if_neg hne]
              exact q1
          · cases ho
        · cases ho
      · cases ho
    · cases ho
  · cases ho
end
end Go.Ev
end
section
open Go Go.Ev Go.RowKit
namespace Go.Ev
set_option maxRecDepth 100000
set_option maxHeartbeats 2000000
set_option linter.all false
def R108 (len k : Nat) (c : Nat → Value) : List D → Option (Option Prop × D × (Nat → Value))
  | [d1, d2, .fn 63 [] [d3]] => match inO d1, inO d2, runsR d3 with
    | some a, some b, some (q, N, x) => match Nat.beq k 1 with
      | true => some (some (a = 0 ∧ (∀ j, j < len → c j = .int .i64 (valI (c j))) ∧ q ∧ b = len ∧ (len ≤ 1000000 ∧ N ≤ 1000000) ∧ (∀ i, i < N → smallR (x i)) ∧ (∀ t, t < len → 0 ≤ valI (c t) ∧ valI (c t) < N)), .tup [], arrI (sortI (keyI x) (fun j => valI (c j)) len))
      | false => none
    | _, _, _ => none
  | _ => none
noncomputable def T108 := orCl (chgC 108 R108) T63
theorem T108_ok (K : Cust) : ClOK K PG T108 := ClOK.or (chgC_ok (ent cf_108) fun len k c ds p d g' h hp => by
    unfold R108 at h
    split at h
    · split at h
      · rename_i e0 e1 e2
        split at h
        · rename_i hk
          obtain rfl := Nat.eq_of_beq_eq_true hk
          obtain rfl := inO_eq e0
          obtain rfl := inO_eq e1
          cases h
          obtain ⟨h0, h1, h2, h3, h4, h5, h6⟩ := hp _ rfl
          subst h0
          subst h3
          exact ⟨_, less_cons (LessD.refl _) (less_cons (LessD.refl _) (less_cons (less_fn (Less.refl _) (less_cons (runsR_less e2 h2) (Less.refl _))) (Less.refl _))), by simp [freeL, freeD, rowR_free], AloneB.congr (fun j hj => h1 j (by omega)) (ins_alone _ _ len _ h4 h5 h6)⟩
        · cases h
      · cases h
    · cases h) (T63_ok K)
theorem stable_alone (N : Nat) (x : Nat → Run) (n : Nat) (c : Nat → Int) (hn : n ≤ 19 ∧ N ≤ 1000000) (hx : ∀ i, i < N → smallR (x i)) (hc : ∀ t, t < n → 0 ≤ c t ∧ c t < N) :
    AloneB PG 93 [.sl 1 0 n 1 none, i6 n, .fn 63 [] [.ref [rowR N x] 0]] (n * 1) (arrI c) (.tup []) (arrI (sortI (keyI x) c n)) :=
  AloneB.ofW (cl := T108) hm0 T108_ok cf_93 fun K w b B => by
    refine aw_reg0 (aw_reg0 (aw_unroll 1 hm0 (T108_ok K) (unr_step (aw_assoc (aw_reg0 (aw_ifsd ((20 : Int) ≤ (↑n : Int)) (fun h1 => aw_skips (aw_block (aw_reg (True ∧ (∀ (j : Nat), j < n * (1 : Nat) → ∃ (v : Value), D.val (arrI c j) = D.val v) ∧ n * (1 : Nat) = n * (1 : Nat) ∧ (0 : Int) = (0 : Int) ∧ (∀ (j : Nat), j < n → arrI c j = Value.int IntKind.i64 (valI (arrI c j))) ∧ (∀ (i : Nat), i < N → runD (x i) = runD (x i)) ∧ (20 : Int) = (↑n : Int) ∧ (n ≤ (1000000 : Nat) ∧ N ≤ (1000000 : Nat)) ∧ (∀ (i : Nat), i < N → smallR (x i)) ∧ ∀ (t : Nat), t < n → (0 : Int) ≤ valI (arrI c t) ∧ valI (arrI c t) < (↑N : Int)) (by (simp only [inRange_i64, true_and]; omega)) (aw_reg0 (aw_end (True ∧ inRange IntKind.i64 ((20 : Int) + (20 : Int))) (by (simp only [inRange_i64, true_and]; omega)) (blk_normal (?_))))))) (fun h2 => aw_exits (unr_exit (blk_exit (seq_normal (aw_reg (True ∧ (∀ (j : Nat), j < n * (1 : Nat) → ∃ (v : Value), D.val (arrI c j) = D.val v) ∧ n * (1 : Nat) = n * (1 : Nat) ∧ (0 : Int) = (0 : Int) ∧ (∀ (j : Nat), j < n → arrI c j = Value.int IntKind.i64 (valI (arrI c j))) ∧ (∀ (i : Nat), i < N → runD (x i) = runD (x i)) ∧ (↑n : Int) = (↑n : Int) ∧ (n ≤ (1000000 : Nat) ∧ N ≤ (1000000 : Nat)) ∧ (∀ (i : Nat), i < N → smallR (x i)) ∧ ∀ (t : Nat), t < n → (0 : Int) ≤ valI (arrI c t) ∧ valI (arrI c t) < (↑N : Int)) (by ((try simp only [inRange_i64] at *); (try simp only [implies_true, and_self, true_and, and_true]); (repeat' (with_reducible apply And.intro)) <;> first | exact True.intro | exact fun _ _ => rfl | exact fun _ _ => ⟨rfl, rfl⟩ | omega | assumption | (intros; simp [freeL, freeD]; done))) (?_))))))))))))
    · exfalso; omega
    · refine aw_loopE (ι := Unit) hm0 (T108_ok K) (fun _ => [(6, i6 20)]) (fun _ => [(1, .arr (n * 1) fun j => .val (arrI (sortI (keyI x) c n) j))]) (fun _ => 0) () (fun _ => ?_)
      refine aw_assoc (aw_reg0 (aw_ifsd ((20 : Int) < (↑n : Int)) (fun h3 => aw_skips (aw_block (aw_reg (True ∧ inRange IntKind.i64 ((2 : Int) * (20 : Int))) (by (simp only [inRange_i64, true_and]; omega)) (?_)))) (fun h4 => aw_exits (round_exit (blk_exit (end_w (fun (j : Nat) => D.val (arrI (sortI (keyI x) c n) j)) ?_))))))
      all_goals first
        | exact fun j _ => rfl
        | (exfalso; omega)

def R93 (len k : Nat) (c : Nat → Value) : List D → Option (Option Prop × D × (Nat → Value))
  | [d1, .fn 63 [] [d2]] => match inO d1, runsR d2 with
    | some b, some (q, N, x) => match Nat.beq k 1 with
      | true => some (some ((∀ j, j < len → c j = .int .i64 (valI (c j))) ∧ q ∧ b = len ∧ (len ≤ 19 ∧ N ≤ 1000000) ∧ (∀ i, i < N → smallR (x i)) ∧ (∀ t, t < len → 0 ≤ valI (c t) ∧ valI (c t) < N)), .tup [], arrI (sortI (keyI x) (fun j => valI (c j)) len))
      | false => none
    | _, _ => none
  | _ => none
noncomputable def T93 := orCl (chgC 93 R93) T108
theorem T93_ok (K : Cust) : ClOK K PG T93 := ClOK.or (chgC_ok (ent cf_93) fun len k c ds p d g' h hp => by
    unfold R93 at h
    split at h
    · split at h
      · rename_i e0 e1
        split at h
        · rename_i hk
          obtain rfl := Nat.eq_of_beq_eq_true hk
          obtain rfl := inO_eq e0
          cases h
          obtain ⟨h1, h2, h3, h4, h5, h6⟩ := hp _ rfl
          subst h3
          exact ⟨_, less_cons (LessD.refl _) (less_cons (less_fn (Less.refl _) (less_cons (runsR_less e1 h2) (Less.refl _))) (Less.refl _)), by simp [freeL, freeD, rowR_free], AloneB.congr (fun j hj => h1 j (by omega)) (stable_alone _ _ len _ h4 h5 h6)⟩
        · cases h
      · cases h
    · cases h) (T108_ok K)
theorem sort_alone (N : Nat) (x : Nat → Run) (n : Nat) (c : Nat → Int) (hn : n ≤ 19 ∧ N ≤ 1000000) (hx : ∀ i, i < N → smallR (x i)) (hc : ∀ t, t < n → 0 ≤ c t ∧ c t < N) :
    AloneB PG 62 [.sl 1 0 n 1 none, .fn 63 [] [.ref [rowR N x] 0]] (n * 1) (arrI c) (.tup []) (arrI (sortI (keyI x) c n)) :=
  AloneB.ofW (cl := T93) hm0 T93_ok cf_62 fun K w b B => by
    refine aw_end (True ∧ (∀ (j : Nat), j < n * (1 : Nat) → ∃ (v : Value), D.val (arrI c j) = D.val v) ∧ n * (1 : Nat) = n * (1 : Nat) ∧ (∀ (j : Nat), j < n → arrI c j = Value.int IntKind.i64 (valI (arrI c j))) ∧ (∀ (i : Nat), i < N → runD (x i) = runD (x i)) ∧ (↑n : Int) = (↑n : Int) ∧ (n ≤ (19 : Nat) ∧ N ≤ (1000000 : Nat)) ∧ (∀ (i : Nat), i < N → smallR (x i)) ∧ ∀ (t : Nat), t < n → (0 : Int) ≤ valI (arrI c t) ∧ valI (arrI c t) < (↑N : Int)) (by ((try simp only [inRange_i64] at *); (try simp only [implies_true, and_self, true_and, and_true]); (repeat' (with_reducible apply And.intro)) <;> first | exact True.intro | exact fun _ _ => rfl | exact fun _ _ => ⟨rfl, rfl⟩ | omega | assumption | (intros; simp [freeL, freeD]; done))) (end_w (fun (j : Nat) => D.val (arrI (sortI (keyI x) (fun (j : Nat) => valI (arrI c j)) n) j)) ?_)
    all_goals exact fun j _ => rfl

def R62 (len k : Nat) (c : Nat → Value) : List D → Option (Option Prop × D × (Nat → Value))
  | [.fn 63 [] [d1]] => match runsR d1 with
    | some (q, N, x) => match Nat.beq k 1 with
      | true => some (some ((∀ j, j < len → c j = .int .i64 (valI (c j))) ∧ q ∧ (len ≤ 19 ∧ N ≤ 1000000) ∧ (∀ i, i < N → smallR (x i)) ∧ (∀ t, t < len → 0 ≤ valI (c t) ∧ valI (c t) < N)), .tup [], arrI (sortI (keyI x) (fun j => valI (c j)) len))
      | false => none
    | _ => none
  | _ => none
noncomputable def T62 := orCl (chgS 62 R62) T93
theorem T62_ok (K : Cust) : ClOK K PG T62 := ClOK.or (chgS_ok (ent cf_62) fun len k c ds p d g' h hp => by
    unfold R62 at h
    split at h
    · split at h
      · rename_i e0
        split at h
        · rename_i hk
          obtain rfl := Nat.eq_of_beq_eq_true hk
          cases h
          obtain ⟨h1, h2, h4, h5, h6⟩ := hp _ rfl
          exact ⟨_, less_cons (less_fn (Less.refl _) (less_cons (runsR_less e0 h2) (Less.refl _))) (Less.refl _), AloneB.congr (fun j hj => h1 j (by omega)) (sort_alone _ _ len _ h4 h5 h6)⟩
        · cases h
      · cases h
    · cases h) (T93_ok K)
end Go.Ev
end
