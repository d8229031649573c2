import Derived.Test.YtmekepomgofiaaaF18
set_option linter.all false
section
open Go Go.Ev Go.RowKit
namespace Go.Ev
set_option linter.all false
def runsP (c : Camp) (t hour : Int) : Bool := decide (t ≤ hour ∧ hour - t < c.ho)
def prepsP (c : Camp) (t hour : Int) : Bool := decide (hour < t ∧ t - hour ≤ c.pr)
def cntN (p : Nat → Bool) : Nat → Int
  | 0 => 0
  | n + 1 => cntN p n + (bif p n then 1 else 0)
theorem cntN_bound (p : Nat → Bool) : ∀ n, 0 ≤ cntN p n ∧ cntN p n ≤ n
  | 0 => by simp [cntN]
  | n + 1 => by
    have := cntN_bound p n
    simp only [cntN]
    cases p n <;> simp <;> omega
/-- what the reference counts is what the program counts -/
theorem prep_count (c : Nat → Camp) (p : Nat → Int) (j : Nat) : ∀ n, prepI (planR c p) n j = cntN (fun i => prepsP (c i) (p i) j) n
  | 0 => rfl
  | n + 1 => by
    have ih := prep_count c p j n
    show (if (p n - (c n).pr ≤ (j : Int) ∧ (j : Int) < p n) then prepI (planR c p) n j + 1 else prepI (planR c p) n j) = cntN (fun i => prepsP (c i) (p i) j) n + (bif prepsP (c n) (p n) j then 1 else 0)
    rw [ih]
    by_cases hh : p n - (c n).pr ≤ (j : Int) ∧ (j : Int) < p n
    · have e : prepsP (c n) (p n) j = true := by simp only [prepsP, decide_eq_true_eq]; omega
      rw [if_pos hh, e]
      rfl
    · have e : prepsP (c n) (p n) j = false := by simp only [prepsP, decide_eq_false_iff_not]; omega
      rw [if_neg hh, e]
      simp
def nearP (h : Hall) (c : Nat → Camp) (p : Nat → Int) (i k : Nat) (t : Nat) : Bool :=
  (decide (p i ≤ (t : Int) ∧ (t : Int) - p i < (c i).ho + (bif decide ((c i).cu = (c k).cu) then 0 else h.cl)) && runsP (c k) (p k) t) ||
  (runsP (c i) (p i) t && decide (p k ≤ (t : Int) ∧ (t : Int) - p k < (c k).ho + (bif decide ((c i).cu = (c k).cu) then 0 else h.cl)))
def nearB (h : Hall) (c : Nat → Camp) (p : Nat → Int) (i k : Nat) : Bool := anyI (nearP h c p i k) h.n
theorem nearP_ne {h : Hall} {c : Nat → Camp} {p : Nat → Int} {i k t : Nat} (hcu : ¬ (c i).cu = (c k).cu) : nearP h c p i k t = true ↔ ((p i ≤ (t : Int) ∧ (t : Int) - p i < (c i).ho + h.cl) ∧ (p k ≤ (t : Int) ∧ (t : Int) - p k < (c k).ho)) ∨ ((p i ≤ (t : Int) ∧ (t : Int) - p i < (c i).ho) ∧ (p k ≤ (t : Int) ∧ (t : Int) - p k < (c k).ho + h.cl)) := by
  have : decide ((c i).cu = (c k).cu) = false := decide_eq_false hcu
  unfold nearP
  rw [this]
  simp only [runsP, cond_false, Bool.or_eq_true, Bool.and_eq_true, decide_eq_true_eq]
theorem nearP_eq {h : Hall} {c : Nat → Camp} {p : Nat → Int} {i k t : Nat} (hcu : (c i).cu = (c k).cu) : nearP h c p i k t = true ↔ (p i ≤ (t : Int) ∧ (t : Int) - p i < (c i).ho) ∧ (p k ≤ (t : Int) ∧ (t : Int) - p k < (c k).ho) := by
  have : decide ((c i).cu = (c k).cu) = true := decide_eq_true hcu
  unfold nearP
  rw [this]
  simp only [runsP, cond_true, Bool.or_eq_true, Bool.and_eq_true, decide_eq_true_eq]
  omega
/-- two runs are near just if they clash -/
theorem near_clash {h : Hall} {c : Nat → Camp} {p : Nat → Int} {i k : Nat} (hc : 0 ≤ h.cl) (hi : 0 ≤ p i ∧ 1 ≤ (c i).ho ∧ p i + (c i).ho ≤ h.n) (hk : 0 ≤ p k ∧ 1 ≤ (c k).ho ∧ p k + (c k).ho ≤ h.n) : nearB h c p i k = clashB h (planR c p i) (planR c p k) := by
  have key : ∀ g : Int, 0 ≤ g → ((∃ t : Nat, t < h.n ∧ ((p i ≤ (t : Int) ∧ (t : Int) - p i < (c i).ho + g) ∧ (p k ≤ (t : Int) ∧ (t : Int) - p k < (c k).ho) ∨ (p i ≤ (t : Int) ∧ (t : Int) - p i < (c i).ho) ∧ (p k ≤ (t : Int) ∧ (t : Int) - p k < (c k).ho + g))) ↔ (p i < p k + (c k).ho + g ∧ p k < p i + (c i).ho + g)) := by
    intro g hg
    constructor
    · rintro ⟨t, ht, hp⟩
      omega
    · rintro ⟨h1, h2⟩
      by_cases hle : p i ≤ p k
      · exact ⟨(p k).toNat, by omega, .inl (by omega)⟩
      · exact ⟨(p i).toNat, by omega, .inr (by omega)⟩
  rw [Bool.eq_iff_iff]
  unfold nearB clashB
  simp only [anyI_iff, nearP, runsP, planR, Bool.or_eq_true, Bool.and_eq_true, decide_eq_true_eq]
  by_cases hcu : (c i).cu = (c k).cu
  · simpa [hcu] using key 0 (by omega)
  · simpa [hcu] using key h.cl hc
theorem hourB_at {rule : Int} {pp : Run → Int → Bool} {n : Nat} {x : Nat → Run} {i : Nat} {t : Int} (hi : i < n) (h1 : (x i).first ≤ t) (h2 : t - (x i).first < (x i).c.ho) (hp : pp (x i) t = true)
    (hb : ∀ s : Int, (x i).first ≤ s → s < t → pp (x i) s = false) (ha : ∀ j, j < i → ∀ s : Int, (x j).first ≤ s → s - (x j).first < (x j).c.ho → pp (x j) s = false) : hourB rule pp n x = ⟨rule, i, 0, t⟩ := by
  have e := fst2_at (p := fun i k => pp (x i) ((x i).first + k)) (m := fun i => (x i).c.ho.toNat) (n := n) (i := i) (k := (t - (x i).first).toNat) hi (by omega) (by
      have : (x i).first + ((t - (x i).first).toNat : Int) = t := by omega
      rw [this]; exact hp) (fun j hj => hb _ (by omega) (by omega)) (fun j hj l hl => ha j hj _ (by omega) (by omega))
  unfold hourB
  rw [e]
  simp only [Bre.mk.injEq, true_and]
  omega
theorem hourB_none {rule : Int} {pp : Run → Int → Bool} {n : Nat} {x : Nat → Run} (ha : ∀ j, j < n → ∀ s : Int, (x j).first ≤ s → s - (x j).first < (x j).c.ho → pp (x j) s = false) : hourB rule pp n x = bre0 := by
  have e := fst2_none (p := fun i k => pp (x i) ((x i).first + k)) (m := fun i => (x i).c.ho.toNat) (n := n) (fun j hj l hl => ha j hj _ (by omega) (by omega))
  unfold hourB
  rw [e]
theorem timeB_at {n : Nat} {x : Nat → Run} {i : Nat} (hi : i < n) (hp : lateB (x i) = true) (hb : ∀ j, j < i → lateB (x j) = false) : timeB n x = ⟨1, i, 0, 0⟩ := by
  have e := findI_at (p := fun i => lateB (x i)) hi hp hb
  unfold timeB
  rw [e, decide_eq_true (by omega)]
  rfl
theorem timeB_none {n : Nat} {x : Nat → Run} (hb : ∀ j, j < n → lateB (x j) = false) : timeB n x = bre0 := by
  have e := findI_none (p := fun i => lateB (x i)) hb
  unfold timeB
  rw [e]
  rfl
theorem tunB_at {h : Hall} {n : Nat} {x : Nat → Run} {i k : Nat} (hi : i < k) (hk : k < n) (hp : clashB h (x i) (x k) = true) (hb : ∀ l, i < l → l < k → clashB h (x i) (x l) = false) (ha : ∀ j, j < i → ∀ l, j < l → l < n → clashB h (x j) (x l) = false) : tunB h n x = ⟨4, i, k, 0⟩ := by
  have e := fst2_at (p := tunP h x) (m := fun _ => n) (n := n) (i := i) (k := k) (by omega) hk (by simp [tunP, hi, hp]) (fun j hj => by
      by_cases h : i < j
      · simp [tunP, hb j h hj]
      · simp [tunP, h]) (fun j hj l hl => by
      by_cases h : j < l
      · simp [tunP, ha j hj l h hl]
      · simp [tunP, h])
  unfold tunB
  rw [e]
theorem tunB_none {h : Hall} {n : Nat} {x : Nat → Run} (ha : ∀ j, j < n → ∀ l, j < l → l < n → clashB h (x j) (x l) = false) : tunB h n x = bre0 := by
  have e := fst2_none (p := tunP h x) (m := fun _ => n) (n := n) (fun j hj l hl => by
      by_cases h : j < l
      · simp [tunP, ha j hj l h hl]
      · simp [tunP, h])
  unfold tunB
  rw [e]
theorem roomB_at {h : Hall} {n : Nat} {x : Nat → Run} {t : Nat} (ht : t < h.n) (hp : prepI x n t > h.ro) (hb : ∀ j, j < t → prepI x n j ≤ h.ro) : roomB h n x = ⟨5, 0, 0, t⟩ := by
  have e := findI_at (p := fun i => decide (prepI x n i > h.ro)) ht (decide_eq_true hp) (fun j hj => decide_eq_false (by have := hb j hj; omega))
  unfold roomB
  rw [e, decide_eq_true (by omega)]
  rfl
theorem roomB_none {h : Hall} {n : Nat} {x : Nat → Run} (hb : ∀ j, j < h.n → prepI x n j ≤ h.ro) : roomB h n x = bre0 := by
  have e := findI_none (p := fun i => decide (prepI x n i > h.ro)) (n := h.n) (fun j hj => decide_eq_false (by have := hb j hj; omega))
  unfold roomB
  rw [e]
  rfl
theorem breB_1 {h : Hall} {n : Nat} {x : Nat → Run} {b : Bre} (e : timeB n x = b) (hb : b.rule ≠ 0) : breB h n x = b := by
  unfold breB
  rw [e, if_pos hb]
theorem breB_2 {h : Hall} {n : Nat} {x : Nat → Run} {b : Bre} (e1 : timeB n x = bre0) (e : hourB 2 (staffP h) n x = b) (hb : b.rule ≠ 0) : breB h n x = b := by
  unfold breB
  rw [e1, e, if_neg (by simp [bre0]), if_pos hb]
theorem breB_3 {h : Hall} {n : Nat} {x : Nat → Run} {b : Bre} (e1 : timeB n x = bre0) (e2 : hourB 2 (staffP h) n x = bre0) (e : hourB 3 (weakP h) n x = b) (hb : b.rule ≠ 0) : breB h n x = b := by
  unfold breB
  rw [e1, e2, e, if_neg (by simp [bre0]), if_neg (by simp [bre0]), if_pos hb]
theorem breB_4 {h : Hall} {n : Nat} {x : Nat → Run} {b : Bre} (e1 : timeB n x = bre0) (e2 : hourB 2 (staffP h) n x = bre0) (e3 : hourB 3 (weakP h) n x = bre0) (e : tunB h n x = b) (hb : b.rule ≠ 0) : breB h n x = b := by
  unfold breB
  rw [e1, e2, e3, e, if_neg (by simp [bre0]), if_neg (by simp [bre0]), if_neg (by simp [bre0]), if_pos hb]
theorem breB_5 {h : Hall} {n : Nat} {x : Nat → Run} {b : Bre} (e1 : timeB n x = bre0) (e2 : hourB 2 (staffP h) n x = bre0) (e3 : hourB 3 (weakP h) n x = bre0) (e4 : tunB h n x = bre0) (e : roomB h n x = b) (hb : b.rule ≠ 0 ∨ b = bre0) : breB h n x = b := by
  unfold breB
  rw [e1, e2, e3, e4, e, if_neg (by simp [bre0]), if_neg (by simp [bre0]), if_neg (by simp [bre0]), if_neg (by simp [bre0])]
  rcases hb with hb | hb
  · rw [if_pos hb]
  · subst hb
    split <;> rfl
end Go.Ev
end
section
open Go Go.Ev Go.RowKit
namespace Go.Ev
set_option maxRecDepth 100000
set_option maxHeartbeats 2000000
set_option linter.all false
theorem runsP_alone (c : Camp) (t u : Int) (ht : -1000000 ≤ t ∧ t ≤ 1000000) (hu : -1000000 ≤ u ∧ u ≤ 1000000) : Alone PG 68 [.agg (campD c), i6 t, i6 u] (bD (runsP c t u)) :=
  Alone.ofW (cl := T20) (raw := false) hm0 T20_ok cf_68 fun K w => by
    refine aw_reg0 (aw_opens (awr_testd 4 (10 : Nat) (True) trivial (u ≥ t) (fun h1 => awr_end (True ∧ inRange IntKind.i64 (u - t)) (by (simp only [inRange_i64, true_and]; omega)) (aw_ret (end_b (decide (u - t < c.ho)) ?_))) (fun h2 => awr_end0 (aw_ret (end_b (false) ?_)))))
    all_goals (simp_all [runsP]; try omega)

def R68 : List D → Option (Option Prop × D)
  | [d0, d1, d2] => match campO d0, inO d1, inO d2 with
    | some c, some t, some u => some (some ((-1000000 ≤ t ∧ t ≤ 1000000) ∧ (-1000000 ≤ u ∧ u ≤ 1000000)), bD (runsP c t u))
    | _, _, _ => none
  | _ => none
noncomputable def T68 := orCl (aloC 68 R68) T20
theorem T68_ok (K : Cust) : ClOK K PG T68 := tab_cons cf_68 (fun ds p d h hp => by
    unfold R68 at h
    split at h
    · split at h
      · rename_i e0 e1 e2
        obtain rfl := campO_eq e0
        obtain rfl := inO_eq e1
        obtain rfl := inO_eq e2
        cases h
        obtain ⟨h1, h2⟩ := hp _ rfl
        exact ⟨_, Less.refl _, by simp [freeL, freeD, campD_free], by simp [freeD], runsP_alone _ _ _ h1 h2⟩
      · cases h
    · cases h) (T20_ok K)
theorem prepsP_alone (c : Camp) (t u : Int) (ht : -1000000 ≤ t ∧ t ≤ 1000000) (hu : -1000000 ≤ u ∧ u ≤ 1000000) : Alone PG 70 [.agg (campD c), i6 t, i6 u] (bD (prepsP c t u)) :=
  Alone.ofW (cl := T68) (raw := false) hm0 T68_ok cf_70 fun K w => by
    refine aw_reg0 (aw_opens (awr_testd 4 (10 : Nat) (True) trivial (u < t) (fun h1 => awr_end (True ∧ inRange IntKind.i64 (t - u)) (by (simp only [inRange_i64, true_and]; omega)) (aw_ret (end_b (decide (t - u ≤ c.pr)) ?_))) (fun h2 => awr_end0 (aw_ret (end_b (false) ?_)))))
    all_goals (simp_all [prepsP]; try omega)

def R70 : List D → Option (Option Prop × D)
  | [d0, d1, d2] => match campO d0, inO d1, inO d2 with
    | some c, some t, some u => some (some ((-1000000 ≤ t ∧ t ≤ 1000000) ∧ (-1000000 ≤ u ∧ u ≤ 1000000)), bD (prepsP c t u))
    | _, _, _ => none
  | _ => none
noncomputable def T70 := orCl (aloC 70 R70) T68
theorem T70_ok (K : Cust) : ClOK K PG T70 := tab_cons cf_70 (fun ds p d h hp => by
    unfold R70 at h
    split at h
    · split at h
      · rename_i e0 e1 e2
        obtain rfl := campO_eq e0
        obtain rfl := inO_eq e1
        obtain rfl := inO_eq e2
        cases h
        obtain ⟨h1, h2⟩ := hp _ rfl
        exact ⟨_, Less.refl _, by simp [freeL, freeD, campD_free], by simp [freeD], prepsP_alone _ _ _ h1 h2⟩
      · cases h
    · cases h) (T68_ok K)
def smallP (n : Nat) (p : Nat → Int) : Prop := ∀ i, i < n → -1000000 ≤ p i ∧ p i ≤ 1000000
theorem count_ref (n : Nat) (c : Nat → Camp) (m : Nat) (p : Nat → Int) (u : Int) (hm : m = n) (hp : smallP n p) (hu : -1000000 ≤ u ∧ u ≤ 1000000) (hn : n ≤ 100000) : Alone PG 31 [rowC n c, rowI m p, i6 u] (i6 (cntN (fun i => prepsP (c i) (p i) u) n)) :=
  Alone.ofW (cl := T70) (raw := false) hm0 T70_ok cf_31 fun K w => by
    refine aw_reg0 (aw_reg0 (aw_assoc (aw_reg0 (?_))))
    refine aw_loopV (ι := {z : Nat × Int // z.1 ≤ n ∧ z.2 = cntN (fun i => prepsP (c i) (p i) u) z.1}) hm0 (T70_ok K) (fun z => [(8, i6 z.1.1), (7, i6 z.1.2)]) (fun _ => []) (fun z => n - z.1.1) ⟨(0, 0), Nat.zero_le n, rfl⟩ (fun z => ?_)
    obtain ⟨⟨i, v⟩, hi, hv⟩ := z
    simp only at hi hv
    have hb := cntN_bound (fun i => prepsP (c i) (p i) u) i
    refine aw_assoc (aw_reg0 (aw_ifsd ((↑i : Int) < (↑n : Int)) (fun h1 => aw_skips (aw_blocks (aw_reg (((True ∧ (0 : Int) ≤ (↑i : Int) ∧ (↑i : Int) < (↑n : Int)) ∧ (0 : Int) ≤ (↑i : Int) ∧ (↑i : Int) < (↑m : Int)) ∧ ((-1000000 : Int) ≤ p i ∧ p i ≤ (1000000 : Int)) ∧ (-1000000 : Int) ≤ u ∧ u ≤ (1000000 : Int)) (by (have := hp i (by omega); simp only [inRange_i64, true_and]; omega)) (aw_if (prepsP (c i) (p i) u) (fun h2 => aw_end (True ∧ inRange IntKind.i64 (v + (1 : Int))) (by (have := hp i (by omega); simp only [inRange_i64, true_and]; omega)) (blk_normal (seq_normal (aw_end (True ∧ inRange IntKind.i64 ((↑i : Int) + (1 : Int))) (by (have := hp i (by omega); simp only [inRange_i64, true_and]; omega)) (round_t 1 ((∀ (i : Nat), i < n → True ∧ True ∧ True ∧ True ∧ True ∧ True ∧ True ∧ True) ∧ (∀ (i : Nat), i < m → True ∧ True) ∧ True) (True) (by (simp)) (by trivial) ?_))))) (fun h3 => aw_skip (blk_normal (seq_normal (aw_end (True ∧ inRange IntKind.i64 ((↑i : Int) + (1 : Int))) (by (have := hp i (by omega); simp only [inRange_i64, true_and]; omega)) (round_t 1 ((∀ (i : Nat), i < n → True ∧ True ∧ True ∧ True ∧ True ∧ True ∧ True ∧ True) ∧ (∀ (i : Nat), i < m → True ∧ True) ∧ True) (True) (by (simp)) (by trivial) ?_))))))))) (fun h4 => aw_exits (round_exit (blk_exit (seq_normal (aw_reg0 (aw_ret (end_i (v) ?_)))))))))
    · exact round_v ⟨(i + 1, v + 1), by show i + 1 ≤ n; omega, by simp [cntN, hv, h2]⟩ (by show n - (i + 1) < n - i; omega)
    · exact round_v ⟨(i + 1, v), by show i + 1 ≤ n; omega, by simp [cntN, hv, h3]⟩ (by show n - (i + 1) < n - i; omega)
    · have : i = n := by omega
      subst this
      exact hv

def R31 : List D → Option (Option Prop × D)
  | [d0, d1, d2] => match campsO d0, intsO d1, inO d2 with
    | some (q1, n, c), some (q2, m, p), some u => some (some (q1 ∧ q2 ∧ m = n ∧ smallP n p ∧ (-1000000 ≤ u ∧ u ≤ 1000000) ∧ n ≤ 100000), i6 (cntN (fun i => prepsP (c i) (p i) u) n))
    | _, _, _ => none
  | _ => none
noncomputable def T31 := orCl (aloC 31 R31) T70
theorem T31_ok (K : Cust) : ClOK K PG T31 := tab_cons cf_31 (fun ds p d h hp => by
    unfold R31 at h
    split at h
    · split at h
      · rename_i e0 e1 e2
        obtain rfl := inO_eq e2
        cases h
        obtain ⟨h1, h2, h3, h4, h5, h6⟩ := hp _ rfl
        exact ⟨_, less_cons (campsO_less e0 h1) (less_cons (intsO_less e1 h2) (Less.refl _)), by simp [freeL, freeD, rowC_free, rowI_free], by simp [freeD], count_ref _ _ _ _ _ h3 h4 h5 h6⟩
      · cases h
    · cases h) (T70_ok K)
theorem near_alone (h : Hall) (n : Nat) (c : Nat → Camp) (m : Nat) (p : Nat → Int) (i k : Nat) (hm : m = n) (hp : smallP n p) (hn : n ≤ 100000) (hi : i < n) (hk : k < n) (hc : ∀ j, j < n → campB h.n (c j) = true) (hh : h.n ≤ 96 ∧ 0 ≤ h.cl ∧ h.cl ≤ 6) : Alone PG 69 [.agg (hallD h), rowC n c, rowI m p, i6 i, i6 k] (bD (nearB h c p i k)) :=
  Alone.ofW (cl := T31) (raw := false) hm0 T31_ok cf_69 fun K w => by
    have hci : 0 ≤ (c i).ho ∧ (c i).ho ≤ 24 := by have := hc i hi; simp only [campB, decide_eq_true_eq] at this; omega
    have hck : 0 ≤ (c k).ho ∧ (c k).ho ≤ 24 := by have := hc k hk; simp only [campB, decide_eq_true_eq] at this; omega
    refine aw_reg0 (aw_reg ((True ∧ (0 : Int) ≤ (↑i : Int) ∧ (↑i : Int) < (↑n : Int)) ∧ (0 : Int) ≤ (↑k : Int) ∧ (↑k : Int) < (↑n : Int)) (by (simp only [inRange_i64, true_and]; omega)) (aw_assoc (aw_reg0 (aw_ifsne ((c i).cu) ((c k).cu) (fun h1 => aw_assoc (aw_reg (True ∧ inRange IntKind.i64 ((c i).ho + h.cl)) (by (simp only [inRange_i64, true_and]; omega)) (aw_reg (True ∧ inRange IntKind.i64 ((c k).ho + h.cl)) (by (simp only [inRange_i64, true_and]; omega)) (aw_assoc (aw_reg0 (?_)))))) (fun h2 => aw_skips (aw_assoc (aw_reg0 (?_))))))))
    · have hcu : ¬ (c i).cu = (c k).cu := by omega
      refine aw_loopV (ι := {t : Nat // t ≤ h.n ∧ ∀ j, j < t → nearP h c p i k j = false}) hm0 (T31_ok K) (fun z => [(13, i6 z.1)]) (fun _ => []) (fun z => h.n - z.1) ⟨0, Nat.zero_le _, fun j hj => by omega⟩ (fun z => ?_)
      obtain ⟨t, ht, hall⟩ := z
      have hpi := hp i hi
      have hpk := hp k hk
      refine aw_assoc (aw_reg0 (aw_ifsd ((↑t : Int) < (↑h.n : Int)) (fun h2 => aw_skips (aw_blocks (aw_opens (awr_testq 8 (53 : Nat) ((True ∧ (0 : Int) ≤ (↑i : Int) ∧ (↑i : Int) < (↑m : Int)) ∧ ((-1000000 : Int) ≤ p i ∧ p i ≤ (1000000 : Int)) ∧ (-1000000 : Int) ≤ (↑t : Int) ∧ (↑t : Int) ≤ (1000000 : Int)) (by (simp only [inRange_i64, true_and]; omega)) (runsP { cu := (c i).cu, pr := (c i).pr, ho := (c i).ho + h.cl, en := (c i).en, ea := (c i).ea, la := (c i).la, we := (c i).we } (p i) (↑t : Int)) (fun h3 => awr_testq 12 (65 : Nat) (((True ∧ (0 : Int) ≤ (↑k : Int) ∧ (↑k : Int) < (↑n : Int)) ∧ (0 : Int) ≤ (↑k : Int) ∧ (↑k : Int) < (↑m : Int)) ∧ ((-1000000 : Int) ≤ p k ∧ p k ≤ (1000000 : Int)) ∧ (-1000000 : Int) ≤ (↑t : Int) ∧ (↑t : Int) ≤ (1000000 : Int)) (by (simp only [inRange_i64, true_and]; omega)) (runsP (c k) (p k) (↑t : Int)) (fun h4 => awr_end0 (aw_yesE (aw_reg0 (aw_ret (blk_ret (seq_ret (round_ret (blk_ret (seq_ret (end_b (true) ?_)))))))))) (fun h5 => awr_testq 11 (76 : Nat) (((True ∧ (0 : Int) ≤ (↑i : Int) ∧ (↑i : Int) < (↑n : Int)) ∧ (0 : Int) ≤ (↑i : Int) ∧ (↑i : Int) < (↑m : Int)) ∧ ((-1000000 : Int) ≤ p i ∧ p i ≤ (1000000 : Int)) ∧ (-1000000 : Int) ≤ (↑t : Int) ∧ (↑t : Int) ≤ (1000000 : Int)) (by (simp only [inRange_i64, true_and]; omega)) (runsP (c i) (p i) (↑t : Int)) (fun h6 => awr_end ((True ∧ (0 : Int) ≤ (↑k : Int) ∧ (↑k : Int) < (↑m : Int)) ∧ ((-1000000 : Int) ≤ p k ∧ p k ≤ (1000000 : Int)) ∧ (-1000000 : Int) ≤ (↑t : Int) ∧ (↑t : Int) ≤ (1000000 : Int)) (by (simp only [inRange_i64, true_and]; omega)) (aw_if (runsP { cu := (c k).cu, pr := (c k).pr, ho := (c k).ho + h.cl, en := (c k).en, ea := (c k).ea, la := (c k).la, we := (c k).we } (p k) (↑t : Int)) (fun h7 => aw_reg0 (aw_ret (blk_ret (seq_ret (round_ret (blk_ret (seq_ret (end_b (true) ?_)))))))) (fun h8 => aw_skip (blk_normal (seq_normal (aw_end (True ∧ inRange IntKind.i64 ((↑t : Int) + (1 : Int))) (by (simp only [inRange_i64, true_and]; omega)) (round_t 10 ((True ∧ True ∧ (∀ (i : Nat), i < h.n → True ∧ True) ∧ (∀ (i : Nat), i < h.m → True ∧ True) ∧ True) ∧ (∀ (i : Nat), i < n → True ∧ True ∧ True ∧ True ∧ True ∧ True ∧ True ∧ True) ∧ (∀ (i : Nat), i < m → True ∧ True) ∧ (∀ (i : Nat), i < n → True ∧ True ∧ True ∧ True ∧ True ∧ True ∧ True ∧ True) ∧ (True ∧ True ∧ True ∧ True ∧ True ∧ True ∧ True ∧ True) ∧ (True ∧ True ∧ True ∧ True ∧ True ∧ True ∧ True ∧ True) ∧ (∀ (i : Nat), i < n → True ∧ True ∧ True ∧ True ∧ True ∧ True ∧ True ∧ True) ∧ (True ∧ True ∧ True ∧ True ∧ True ∧ True ∧ True ∧ True) ∧ (True ∧ True ∧ True ∧ True ∧ True ∧ True ∧ True ∧ True) ∧ True) (((∀ (i : Nat), i < h.n → True ∧ True) ∧ (∀ (i : Nat), i < h.m → True ∧ True) ∧ True) ∧ True ∧ True ∧ True) (by (simp)) (by (simp)) ?_))))))) (fun h9 => awr_end0 (aw_noE (aw_skip (blk_normal (seq_normal (aw_end (True ∧ inRange IntKind.i64 ((↑t : Int) + (1 : Int))) (by (simp only [inRange_i64, true_and]; omega)) (round_t 10 ((True ∧ True ∧ (∀ (i : Nat), i < h.n → True ∧ True) ∧ (∀ (i : Nat), i < h.m → True ∧ True) ∧ True) ∧ (∀ (i : Nat), i < n → True ∧ True ∧ True ∧ True ∧ True ∧ True ∧ True ∧ True) ∧ (∀ (i : Nat), i < m → True ∧ True) ∧ (∀ (i : Nat), i < n → True ∧ True ∧ True ∧ True ∧ True ∧ True ∧ True ∧ True) ∧ (True ∧ True ∧ True ∧ True ∧ True ∧ True ∧ True ∧ True) ∧ (True ∧ True ∧ True ∧ True ∧ True ∧ True ∧ True ∧ True) ∧ (∀ (i : Nat), i < n → True ∧ True ∧ True ∧ True ∧ True ∧ True ∧ True ∧ True) ∧ (True ∧ True ∧ True ∧ True ∧ True ∧ True ∧ True ∧ True) ∧ (True ∧ True ∧ True ∧ True ∧ True ∧ True ∧ True ∧ True) ∧ True) (((∀ (i : Nat), i < h.n → True ∧ True) ∧ (∀ (i : Nat), i < h.m → True ∧ True) ∧ True) ∧ True ∧ True ∧ True) (by (simp)) (by (simp)) ?_))))))))) (fun h10 => awr_testq 23 (76 : Nat) (((True ∧ (0 : Int) ≤ (↑i : Int) ∧ (↑i : Int) < (↑n : Int)) ∧ (0 : Int) ≤ (↑i : Int) ∧ (↑i : Int) < (↑m : Int)) ∧ ((-1000000 : Int) ≤ p i ∧ p i ≤ (1000000 : Int)) ∧ (-1000000 : Int) ≤ (↑t : Int) ∧ (↑t : Int) ≤ (1000000 : Int)) (by (simp only [inRange_i64, true_and]; omega)) (runsP (c i) (p i) (↑t : Int)) (fun h11 => awr_end ((True ∧ (0 : Int) ≤ (↑k : Int) ∧ (↑k : Int) < (↑m : Int)) ∧ ((-1000000 : Int) ≤ p k ∧ p k ≤ (1000000 : Int)) ∧ (-1000000 : Int) ≤ (↑t : Int) ∧ (↑t : Int) ≤ (1000000 : Int)) (by (simp only [inRange_i64, true_and]; omega)) (aw_if (runsP { cu := (c k).cu, pr := (c k).pr, ho := (c k).ho + h.cl, en := (c k).en, ea := (c k).ea, la := (c k).la, we := (c k).we } (p k) (↑t : Int)) (fun h12 => aw_reg0 (aw_ret (blk_ret (seq_ret (round_ret (blk_ret (seq_ret (end_b (true) ?_)))))))) (fun h13 => aw_skip (blk_normal (seq_normal (aw_end (True ∧ inRange IntKind.i64 ((↑t : Int) + (1 : Int))) (by (simp only [inRange_i64, true_and]; omega)) (round_t 10 ((True ∧ True ∧ (∀ (i : Nat), i < h.n → True ∧ True) ∧ (∀ (i : Nat), i < h.m → True ∧ True) ∧ True) ∧ (∀ (i : Nat), i < n → True ∧ True ∧ True ∧ True ∧ True ∧ True ∧ True ∧ True) ∧ (∀ (i : Nat), i < m → True ∧ True) ∧ (∀ (i : Nat), i < n → True ∧ True ∧ True ∧ True ∧ True ∧ True ∧ True ∧ True) ∧ (True ∧ True ∧ True ∧ True ∧ True ∧ True ∧ True ∧ True) ∧ (True ∧ True ∧ True ∧ True ∧ True ∧ True ∧ True ∧ True) ∧ (∀ (i : Nat), i < n → True ∧ True ∧ True ∧ True ∧ True ∧ True ∧ True ∧ True) ∧ (True ∧ True ∧ True ∧ True ∧ True ∧ True ∧ True ∧ True) ∧ (True ∧ True ∧ True ∧ True ∧ True ∧ True ∧ True ∧ True) ∧ True) (((∀ (i : Nat), i < h.n → True ∧ True) ∧ (∀ (i : Nat), i < h.m → True ∧ True) ∧ True) ∧ True ∧ True ∧ True) (by (simp)) (by (simp)) ?_))))))) (fun h14 => awr_end0 (aw_noE (aw_skip (blk_normal (seq_normal (aw_end (True ∧ inRange IntKind.i64 ((↑t : Int) + (1 : Int))) (by (simp only [inRange_i64, true_and]; omega)) (round_t 10 ((True ∧ True ∧ (∀ (i : Nat), i < h.n → True ∧ True) ∧ (∀ (i : Nat), i < h.m → True ∧ True) ∧ True) ∧ (∀ (i : Nat), i < n → True ∧ True ∧ True ∧ True ∧ True ∧ True ∧ True ∧ True) ∧ (∀ (i : Nat), i < m → True ∧ True) ∧ (∀ (i : Nat), i < n → True ∧ True ∧ True ∧ True ∧ True ∧ True ∧ True ∧ True) ∧ (True ∧ True ∧ True ∧ True ∧ True ∧ True ∧ True ∧ True) ∧ (True ∧ True ∧ True ∧ True ∧ True ∧ True ∧ True ∧ True) ∧ (∀ (i : Nat), i < n → True ∧ True ∧ True ∧ True ∧ True ∧ True ∧ True ∧ True) ∧ (True ∧ True ∧ True ∧ True ∧ True ∧ True ∧ True ∧ True) ∧ (True ∧ True ∧ True ∧ True ∧ True ∧ True ∧ True ∧ True) ∧ True) (((∀ (i : Nat), i < h.n → True ∧ True) ∧ (∀ (i : Nat), i < h.m → True ∧ True) ∧ True) ∧ True ∧ True ∧ True) (by (simp)) (by (simp)) ?_)))))))))))) (fun h15 => aw_exits (round_exit (blk_exit (seq_normal (aw_reg0 (aw_ret (end_b (false) ?_)))))))))
      all_goals try simp only [runsP, decide_eq_true_eq, decide_eq_false_iff_not] at *
      all_goals first
        | exact (anyI_iff.2 ⟨t, by omega, by rw [nearP_ne hcu]; omega⟩ : anyI (nearP h c p i k) h.n = true).symm
        | exact (anyI_false.2 fun j hj => hall j (by omega)).symm
        | exact round_v ⟨t + 1, by omega, fun j hj => by
            rcases Nat.lt_or_ge j t with h | h
            · exact hall j h
            · have : j = t := by omega
              subst this
              rw [Bool.eq_false_iff, ne_eq, nearP_ne hcu]; omega⟩ (by show h.n - (t + 1) < h.n - t; omega)
    · have hcu : (c i).cu = (c k).cu := by omega
      refine aw_loopV (ι := {t : Nat // t ≤ h.n ∧ ∀ j, j < t → nearP h c p i k j = false}) hm0 (T31_ok K) (fun z => [(13, i6 z.1)]) (fun _ => []) (fun z => h.n - z.1) ⟨0, Nat.zero_le _, fun j hj => by omega⟩ (fun z => ?_)
      obtain ⟨t, ht, hall⟩ := z
      have hpi := hp i hi
      have hpk := hp k hk
      refine aw_assoc (aw_reg0 (aw_ifsd ((↑t : Int) < (↑h.n : Int)) (fun h3 => aw_skips (aw_blocks (aw_opens (awr_testq 8 (53 : Nat) ((True ∧ (0 : Int) ≤ (↑i : Int) ∧ (↑i : Int) < (↑m : Int)) ∧ ((-1000000 : Int) ≤ p i ∧ p i ≤ (1000000 : Int)) ∧ (-1000000 : Int) ≤ (↑t : Int) ∧ (↑t : Int) ≤ (1000000 : Int)) (by (simp only [inRange_i64, true_and]; omega)) (runsP (c i) (p i) (↑t : Int)) (fun h4 => awr_testq 12 (65 : Nat) (((True ∧ (0 : Int) ≤ (↑k : Int) ∧ (↑k : Int) < (↑n : Int)) ∧ (0 : Int) ≤ (↑k : Int) ∧ (↑k : Int) < (↑m : Int)) ∧ ((-1000000 : Int) ≤ p k ∧ p k ≤ (1000000 : Int)) ∧ (-1000000 : Int) ≤ (↑t : Int) ∧ (↑t : Int) ≤ (1000000 : Int)) (by (simp only [inRange_i64, true_and]; omega)) (runsP (c k) (p k) (↑t : Int)) (fun h5 => awr_end0 (aw_yesE (aw_reg0 (aw_ret (blk_ret (seq_ret (round_ret (blk_ret (seq_ret (end_b (true) ?_)))))))))) (fun h6 => awr_testq 11 (76 : Nat) (((True ∧ (0 : Int) ≤ (↑i : Int) ∧ (↑i : Int) < (↑n : Int)) ∧ (0 : Int) ≤ (↑i : Int) ∧ (↑i : Int) < (↑m : Int)) ∧ ((-1000000 : Int) ≤ p i ∧ p i ≤ (1000000 : Int)) ∧ (-1000000 : Int) ≤ (↑t : Int) ∧ (↑t : Int) ≤ (1000000 : Int)) (by (simp only [inRange_i64, true_and]; omega)) (runsP (c i) (p i) (↑t : Int)) (fun h7 => awr_end ((True ∧ (0 : Int) ≤ (↑k : Int) ∧ (↑k : Int) < (↑m : Int)) ∧ ((-1000000 : Int) ≤ p k ∧ p k ≤ (1000000 : Int)) ∧ (-1000000 : Int) ≤ (↑t : Int) ∧ (↑t : Int) ≤ (1000000 : Int)) (by (simp only [inRange_i64, true_and]; omega)) (aw_if (runsP (c k) (p k) (↑t : Int)) (fun h8 => aw_reg0 (aw_ret (blk_ret (seq_ret (round_ret (blk_ret (seq_ret (end_b (true) ?_)))))))) (fun h9 => aw_skip (blk_normal (seq_normal (aw_end (True ∧ inRange IntKind.i64 ((↑t : Int) + (1 : Int))) (by (simp only [inRange_i64, true_and]; omega)) (round_t 10 ((True ∧ True ∧ (∀ (i : Nat), i < h.n → True ∧ True) ∧ (∀ (i : Nat), i < h.m → True ∧ True) ∧ True) ∧ (∀ (i : Nat), i < n → True ∧ True ∧ True ∧ True ∧ True ∧ True ∧ True ∧ True) ∧ (∀ (i : Nat), i < m → True ∧ True) ∧ (∀ (i : Nat), i < n → True ∧ True ∧ True ∧ True ∧ True ∧ True ∧ True ∧ True) ∧ (True ∧ True ∧ True ∧ True ∧ True ∧ True ∧ True ∧ True) ∧ (True ∧ True ∧ True ∧ True ∧ True ∧ True ∧ True ∧ True) ∧ (∀ (i : Nat), i < n → True ∧ True ∧ True ∧ True ∧ True ∧ True ∧ True ∧ True) ∧ (True ∧ True ∧ True ∧ True ∧ True ∧ True ∧ True ∧ True) ∧ (True ∧ True ∧ True ∧ True ∧ True ∧ True ∧ True ∧ True) ∧ True) (((∀ (i : Nat), i < h.n → True ∧ True) ∧ (∀ (i : Nat), i < h.m → True ∧ True) ∧ True) ∧ True ∧ True ∧ True) (by (simp)) (by (simp)) ?_))))))) (fun h10 => awr_end0 (aw_noE (aw_skip (blk_normal (seq_normal (aw_end (True ∧ inRange IntKind.i64 ((↑t : Int) + (1 : Int))) (by (simp only [inRange_i64, true_and]; omega)) (round_t 10 ((True ∧ True ∧ (∀ (i : Nat), i < h.n → True ∧ True) ∧ (∀ (i : Nat), i < h.m → True ∧ True) ∧ True) ∧ (∀ (i : Nat), i < n → True ∧ True ∧ True ∧ True ∧ True ∧ True ∧ True ∧ True) ∧ (∀ (i : Nat), i < m → True ∧ True) ∧ (∀ (i : Nat), i < n → True ∧ True ∧ True ∧ True ∧ True ∧ True ∧ True ∧ True) ∧ (True ∧ True ∧ True ∧ True ∧ True ∧ True ∧ True ∧ True) ∧ (True ∧ True ∧ True ∧ True ∧ True ∧ True ∧ True ∧ True) ∧ (∀ (i : Nat), i < n → True ∧ True ∧ True ∧ True ∧ True ∧ True ∧ True ∧ True) ∧ (True ∧ True ∧ True ∧ True ∧ True ∧ True ∧ True ∧ True) ∧ (True ∧ True ∧ True ∧ True ∧ True ∧ True ∧ True ∧ True) ∧ True) (((∀ (i : Nat), i < h.n → True ∧ True) ∧ (∀ (i : Nat), i < h.m → True ∧ True) ∧ True) ∧ True ∧ True ∧ True) (by (simp)) (by (simp)) ?_))))))))) (fun h11 => awr_testq 23 (76 : Nat) (((True ∧ (0 : Int) ≤ (↑i : Int) ∧ (↑i : Int) < (↑n : Int)) ∧ (0 : Int) ≤ (↑i : Int) ∧ (↑i : Int) < (↑m : Int)) ∧ ((-1000000 : Int) ≤ p i ∧ p i ≤ (1000000 : Int)) ∧ (-1000000 : Int) ≤ (↑t : Int) ∧ (↑t : Int) ≤ (1000000 : Int)) (by (simp only [inRange_i64, true_and]; omega)) (runsP (c i) (p i) (↑t : Int)) (fun h12 => awr_end ((True ∧ (0 : Int) ≤ (↑k : Int) ∧ (↑k : Int) < (↑m : Int)) ∧ ((-1000000 : Int) ≤ p k ∧ p k ≤ (1000000 : Int)) ∧ (-1000000 : Int) ≤ (↑t : Int) ∧ (↑t : Int) ≤ (1000000 : Int)) (by (simp only [inRange_i64, true_and]; omega)) (aw_if (runsP (c k) (p k) (↑t : Int)) (fun h13 => aw_reg0 (aw_ret (blk_ret (seq_ret (round_ret (blk_ret (seq_ret (end_b (true) ?_)))))))) (fun h14 => aw_skip (blk_normal (seq_normal (aw_end (True ∧ inRange IntKind.i64 ((↑t : Int) + (1 : Int))) (by (simp only [inRange_i64, true_and]; omega)) (round_t 10 ((True ∧ True ∧ (∀ (i : Nat), i < h.n → True ∧ True) ∧ (∀ (i : Nat), i < h.m → True ∧ True) ∧ True) ∧ (∀ (i : Nat), i < n → True ∧ True ∧ True ∧ True ∧ True ∧ True ∧ True ∧ True) ∧ (∀ (i : Nat), i < m → True ∧ True) ∧ (∀ (i : Nat), i < n → True ∧ True ∧ True ∧ True ∧ True ∧ True ∧ True ∧ True) ∧ (True ∧ True ∧ True ∧ True ∧ True ∧ True ∧ True ∧ True) ∧ (True ∧ True ∧ True ∧ True ∧ True ∧ True ∧ True ∧ True) ∧ (∀ (i : Nat), i < n → True ∧ True ∧ True ∧ True ∧ True ∧ True ∧ True ∧ True) ∧ (True ∧ True ∧ True ∧ True ∧ True ∧ True ∧ True ∧ True) ∧ (True ∧ True ∧ True ∧ True ∧ True ∧ True ∧ True ∧ True) ∧ True) (((∀ (i : Nat), i < h.n → True ∧ True) ∧ (∀ (i : Nat), i < h.m → True ∧ True) ∧ True) ∧ True ∧ True ∧ True) (by (simp)) (by (simp)) ?_))))))) (fun h15 => awr_end0 (aw_noE (aw_skip (blk_normal (seq_normal (aw_end (True ∧ inRange IntKind.i64 ((↑t : Int) + (1 : Int))) (by (simp only [inRange_i64, true_and]; omega)) (round_t 10 ((True ∧ True ∧ (∀ (i : Nat), i < h.n → True ∧ True) ∧ (∀ (i : Nat), i < h.m → True ∧ True) ∧ True) ∧ (∀ (i : Nat), i < n → True ∧ True ∧ True ∧ True ∧ True ∧ True ∧ True ∧ True) ∧ (∀ (i : Nat), i < m → True ∧ True) ∧ (∀ (i : Nat), i < n → True ∧ True ∧ True ∧ True ∧ True ∧ True ∧ True ∧ True) ∧ (True ∧ True ∧ True ∧ True ∧ True ∧ True ∧ True ∧ True) ∧ (True ∧ True ∧ True ∧ True ∧ True ∧ True ∧ True ∧ True) ∧ (∀ (i : Nat), i < n → True ∧ True ∧ True ∧ True ∧ True ∧ True ∧ True ∧ True) ∧ (True ∧ True ∧ True ∧ True ∧ True ∧ True ∧ True ∧ True) ∧ (True ∧ True ∧ True ∧ True ∧ True ∧ True ∧ True ∧ True) ∧ True) (((∀ (i : Nat), i < h.n → True ∧ True) ∧ (∀ (i : Nat), i < h.m → True ∧ True) ∧ True) ∧ True ∧ True ∧ True) (by (simp)) (by (simp)) ?_)))))))))))) (fun h16 => aw_exits (round_exit (blk_exit (seq_normal (aw_reg0 (aw_ret (end_b (false) ?_)))))))))
      all_goals try simp only [runsP, decide_eq_true_eq, decide_eq_false_iff_not] at *
      all_goals first
        | exact (anyI_iff.2 ⟨t, by omega, by rw [nearP_eq hcu]; omega⟩ : anyI (nearP h c p i k) h.n = true).symm
        | exact (anyI_false.2 fun j hj => hall j (by omega)).symm
        | exact round_v ⟨t + 1, by omega, fun j hj => by
            rcases Nat.lt_or_ge j t with h | h
            · exact hall j h
            · have : j = t := by omega
              subst this
              rw [Bool.eq_false_iff, ne_eq, nearP_eq hcu]; omega⟩ (by show h.n - (t + 1) < h.n - t; omega)

def R69 : List D → Option (Option Prop × D)
  | [d0, d1, d2, d3, d4] => match hallO d0, campsO d1, intsO d2, inO d3, inO d4 with
    | some (q0, h), some (q1, n, c), some (q2, m, p), some i, some k => some (some (q0 ∧ q1 ∧ q2 ∧ (0 ≤ i ∧ 0 ≤ k) ∧ m = n ∧ smallP n p ∧ n ≤ 100000 ∧ i.toNat < n ∧ k.toNat < n ∧ (∀ j, j < n → campB h.n (c j) = true) ∧ (h.n ≤ 96 ∧ 0 ≤ h.cl ∧ h.cl ≤ 6)), bD (nearB h c p i.toNat k.toNat))
    | _, _, _, _, _ => none
  | _ => none
noncomputable def T69 := orCl (aloC 69 R69) T31
theorem T69_ok (K : Cust) : ClOK K PG T69 := tab_cons cf_69 (fun ds p d h hp => by
    unfold R69 at h
    split at h
    · split at h
      · rename_i e0 e1 e2 e3 e4
        obtain rfl := inO_eq e3
        obtain rfl := inO_eq e4
        cases h
        obtain ⟨h1, h2, h3, ⟨hi, hk⟩, h4, h5, h6, h7, h8, h9, h10⟩ := hp _ rfl
        have := near_alone _ _ _ _ _ _ _ h4 h5 h6 h7 h8 h9 h10
        rw [Int.toNat_of_nonneg hi, Int.toNat_of_nonneg hk] at this
        exact ⟨_, less_cons (hallO_less e0 h1) (less_cons (campsO_less e1 h2) (less_cons (intsO_less e2 h3) (Less.refl _))), by simp [freeL, freeD, rowC_free, rowI_free, hallD_free], by simp [freeD], this⟩
      · cases h
    · cases h) (T31_ok K)
end Go.Ev
end
section
open Go Go.Ev Go.RowKit
namespace Go.Ev
set_option maxRecDepth 100000
set_option maxHeartbeats 2000000
set_option linter.all false
theorem staffP_t {h : Hall} {c : Nat → Camp} {p : Nat → Int} {i t : Nat} (e : h.st t = 0) : staffP h (planR c p i) t = true := by simp [staffP, e]
theorem staffP_f {h : Hall} {c : Nat → Camp} {p : Nat → Int} {i t : Nat} (e : ¬ h.st t = 0) : staffP h (planR c p i) t = false := by simp [staffP, e]
theorem weakP_t {h : Hall} {c : Nat → Camp} {p : Nat → Int} {i t : Nat} (e : h.en t < (c i).en) : weakP h (planR c p i) t = true := decide_eq_true e
theorem weakP_f {h : Hall} {c : Nat → Camp} {p : Nat → Int} {i t : Nat} (e : ¬ h.en t < (c i).en) : weakP h (planR c p i) t = false := decide_eq_false e
theorem late_t {c : Nat → Camp} {p : Nat → Int} {i : Nat} (h : p i < (c i).ea + (c i).pr ∨ p i > (c i).la - (c i).ho) : lateB (planR c p i) = true := decide_eq_true h
theorem late_f {c : Nat → Camp} {p : Nat → Int} {i : Nat} (h : ¬ (p i < (c i).ea + (c i).pr ∨ p i > (c i).la - (c i).ho)) : lateB (planR c p i) = false := decide_eq_false h
theorem late_n {c : Nat → Camp} {p : Nat → Int} {i : Nat} (h : lateB (planR c p i) = false) : (c i).ea + (c i).pr ≤ p i ∧ p i ≤ (c i).la - (c i).ho := by
  have : ¬ (p i < (c i).ea + (c i).pr ∨ p i > (c i).la - (c i).ho) := of_decide_eq_false h
  omega
theorem bre_ret {h : Hall} {n : Nat} {x : Nat → Run} {b : Bre} (e : breB h n x = b) : D.agg (breD b) = D.agg (breD (breB h n x)) := by rw [e]
theorem breach_ref (h : Hall) (n : Nat) (c : Nat → Camp) (m : Nat) (p : Nat → Int) (hm : m = n) (hv : runsC h n (planR c p)) : Alone PG 27 [.agg (hallD h), rowC n c, rowI m p] (.agg (breD (breB h n (planR c p)))) :=
  Alone.ofW (cl := T69) (raw := false) hm0 T69_ok cf_27 fun K w => by
    obtain ⟨v1, v2, v3, v4, v5⟩ := hv
    have v5' : ∀ i, i < n → campB h.n (c i) = true := v5
    refine aw_reg0 (aw_assoc (aw_reg0 (?_)))
    refine aw_loopV (ι := {i : Nat // i ≤ n ∧ ∀ j, j < i → lateB (planR c p j) = false}) hm0 (T69_ok K) (fun z => [(7, i6 z.1)]) (fun _ => []) (fun z => n - z.1) ⟨0, Nat.zero_le _, fun j hj => by omega⟩ (fun z => ?_)
    obtain ⟨i, hi, hall⟩ := z
    refine aw_assoc (aw_reg0 (aw_ifsd ((↑i : Int) < (↑n : Int)) (fun h1 => aw_skips (aw_blocks (aw_reg (((((((True ∧ (0 : Int) ≤ (↑i : Int) ∧ (↑i : Int) < (↑m : Int)) ∧ (0 : Int) ≤ (↑i : Int) ∧ (↑i : Int) < (↑n : Int)) ∧ (0 : Int) ≤ (↑i : Int) ∧ (↑i : Int) < (↑n : Int)) ∧ inRange IntKind.i64 ((c i).ea + (c i).pr)) ∧ (0 : Int) ≤ (↑i : Int) ∧ (↑i : Int) < (↑n : Int)) ∧ (0 : Int) ≤ (↑i : Int) ∧ (↑i : Int) < (↑n : Int)) ∧ inRange IntKind.i64 ((c i).la - (c i).ho)) (by (have := v5' i (by omega); simp only [campB, decide_eq_true_eq] at this; simp only [inRange_i64, true_and]; omega)) (aw_ifn ((c i).ea + (c i).pr ≤ p i ∧ p i ≤ (c i).la - (c i).ho) (fun h2 => aw_reg0 (aw_ret (blk_ret (seq_ret (round_ret (blk_ret (seq_ret (end_d (D.agg [D.val (Value.int IntKind.u8 (1 : Int)), D.val (Value.int IntKind.i64 (↑i : Int)), D.val (Value.int IntKind.i64 (0 : Int)), D.val (Value.int IntKind.i64 (0 : Int))]) ?_)))))))) (fun h3 => aw_skip (blk_normal (seq_normal (aw_end (True ∧ inRange IntKind.i64 ((↑i : Int) + (1 : Int))) (by (have := v5' i (by omega); simp only [campB, decide_eq_true_eq] at this; simp only [inRange_i64, true_and]; omega)) (round_t 3 ((True ∧ True ∧ (∀ (i : Nat), i < h.n → True ∧ True) ∧ (∀ (i : Nat), i < h.m → True ∧ True) ∧ True) ∧ (∀ (i : Nat), i < n → True ∧ True ∧ True ∧ True ∧ True ∧ True ∧ True ∧ True) ∧ (∀ (i : Nat), i < m → True ∧ True) ∧ True) (((∀ (i : Nat), i < h.n → True ∧ True) ∧ (∀ (i : Nat), i < h.m → True ∧ True) ∧ True) ∧ True ∧ True) (by (simp)) (by (simp)) ?_))))))))) (fun h4 => aw_exits (round_exit (blk_exit (seq_normal (aw_assoc (aw_reg0 (?_)))))))))
    · exact bre_ret (breB_1 (timeB_at (by omega) (late_t (by omega)) hall) (by simp))
    · exact round_v ⟨i + 1, by omega, fun j hj => by
        rcases Nat.lt_or_ge j i with h | h
        · exact hall j h
        · have : j = i := by omega
          subst this
          exact late_f (by omega)⟩ (by show n - (i + 1) < n - i; omega)
    · have hin : i = n := by omega
      rw [hin] at hall
      have e1 : timeB n (planR c p) = bre0 := timeB_none hall
      have hpl : ∀ j, j < n → 0 ≤ p j - (c j).pr ∧ 0 ≤ (c j).pr ∧ (c j).pr ≤ 24 ∧ p j + (c j).ho ≤ h.n ∧ 1 ≤ (c j).ho ∧ (c j).ho ≤ 24 := fun j hj => by
        have q1 := v5' j hj
        have q2 := late_n (hall j hj)
        simp only [campB, decide_eq_true_eq] at q1
        omega
      have hsm : smallP n p := fun j hj => by have := hpl j hj; omega
      refine aw_loopV (ι := {i : Nat // i ≤ n ∧ ∀ j, j < i → ∀ s : Int, p j ≤ s → s - p j < (c j).ho → staffP h (planR c p j) s = false}) hm0 (T69_ok K) (fun z => [(8, i6 z.1)]) (fun _ => []) (fun z => n - z.1) ⟨0, Nat.zero_le _, fun j hj => by omega⟩ (fun z => ?_)
      obtain ⟨i, hi, hall⟩ := z
      refine aw_assoc (aw_reg0 (aw_ifsd ((↑i : Int) < (↑n : Int)) (fun h5 => aw_skips (aw_blocks (aw_reg0 (?_)))) (fun h6 => aw_exits (round_exit (blk_exit (seq_normal (aw_assoc (aw_reg0 (?_)))))))))
      · have hin : i < n := by omega
        have hpi := hpl i hin
        refine aw_loopE (ι := {t : Nat // t ≤ h.n ∧ ∀ s : Int, p i ≤ s → s < t → s - p i < (c i).ho → staffP h (planR c p i) s = false}) hm0 (T69_ok K) (fun z => [(9, i6 z.1)]) (fun _ => []) (fun z => h.n - z.1) ⟨0, Nat.zero_le _, fun s h1 h2 => by omega⟩ (fun z => ?_)
        obtain ⟨t, ht, hin2⟩ := z
        refine aw_assoc (aw_reg0 (aw_ifsd ((↑t : Int) < (↑h.n : Int)) (fun h6 => aw_skips (aw_blocks (aw_opens (awr_testq 11 (74 : Nat) (((True ∧ (0 : Int) ≤ (↑i : Int) ∧ (↑i : Int) < (↑n : Int)) ∧ (0 : Int) ≤ (↑i : Int) ∧ (↑i : Int) < (↑m : Int)) ∧ ((-1000000 : Int) ≤ p i ∧ p i ≤ (1000000 : Int)) ∧ (-1000000 : Int) ≤ (↑t : Int) ∧ (↑t : Int) ≤ (1000000 : Int)) (by (simp only [true_and]; omega)) (runsP (c i) (p i) (↑t : Int)) (fun h7 => awr_end (True ∧ (0 : Int) ≤ (↑t : Int) ∧ (↑t : Int) < (↑h.n : Int)) (by (simp only [true_and]; omega)) (aw_ife (h.st t) ((0 : Int)) (fun h8 => aw_reg0 (aw_ret (blk_ret (seq_ret (round_ret (blk_ret (blk_ret (seq_ret (round_ret (blk_ret (seq_ret (end_d (D.agg [D.val (Value.int IntKind.u8 (2 : Int)), D.val (Value.int IntKind.i64 (↑i : Int)), D.val (Value.int IntKind.i64 (0 : Int)), D.val (Value.int IntKind.i64 (↑t : Int))]) ?_)))))))))))) (fun h9 => aw_skip (blk_normal (seq_normal (aw_end (True ∧ inRange IntKind.i64 ((↑t : Int) + (1 : Int))) (by (simp only [inRange_i64, true_and]; omega)) (round_t 3 ((True ∧ True ∧ (∀ (i : Nat), i < h.n → True ∧ True) ∧ (∀ (i : Nat), i < h.m → True ∧ True) ∧ True) ∧ (∀ (i : Nat), i < n → True ∧ True ∧ True ∧ True ∧ True ∧ True ∧ True ∧ True) ∧ (∀ (i : Nat), i < m → True ∧ True) ∧ (∀ (i : Nat), i < n → True ∧ True ∧ True ∧ True ∧ True ∧ True ∧ True ∧ True) ∧ (∀ (i : Nat), i < n → True ∧ True ∧ True ∧ True ∧ True ∧ True ∧ True ∧ True) ∧ True) (((∀ (i : Nat), i < h.n → True ∧ True) ∧ (∀ (i : Nat), i < h.m → True ∧ True) ∧ True) ∧ True ∧ True) (by (simp)) (by (simp)) ?_))))))) (fun h10 => awr_end0 (aw_noE (aw_skip (blk_normal (seq_normal (aw_end (True ∧ inRange IntKind.i64 ((↑t : Int) + (1 : Int))) (by (simp only [inRange_i64, true_and]; omega)) (round_t 3 ((True ∧ True ∧ (∀ (i : Nat), i < h.n → True ∧ True) ∧ (∀ (i : Nat), i < h.m → True ∧ True) ∧ True) ∧ (∀ (i : Nat), i < n → True ∧ True ∧ True ∧ True ∧ True ∧ True ∧ True ∧ True) ∧ (∀ (i : Nat), i < m → True ∧ True) ∧ (∀ (i : Nat), i < n → True ∧ True ∧ True ∧ True ∧ True ∧ True ∧ True ∧ True) ∧ (∀ (i : Nat), i < n → True ∧ True ∧ True ∧ True ∧ True ∧ True ∧ True ∧ True) ∧ True) (((∀ (i : Nat), i < h.n → True ∧ True) ∧ (∀ (i : Nat), i < h.m → True ∧ True) ∧ True) ∧ True ∧ True) (by (simp)) (by (simp)) ?_))))))))))) (fun h11 => aw_exits (round_exit (blk_exit (blk_normal (seq_normal (aw_end (True ∧ inRange IntKind.i64 ((↑i : Int) + (1 : Int))) (by (simp only [inRange_i64, true_and]; omega)) (?_)))))))))
        all_goals try simp only [runsP, decide_eq_true_eq, decide_eq_false_iff_not] at *
        all_goals first
          | exact bre_ret (breB_2 e1 (hourB_at hin (by show p i ≤ _; omega) (by show _ - p i < (c i).ho; omega) (staffP_t (by omega)) (fun s a b => hin2 s a b (by omega)) hall) (by simp))
          | exact round_v ⟨t + 1, by omega, fun s a b d => by
              by_cases hs : s < t
              · exact hin2 s a hs d
              · obtain rfl : s = (t : Int) := by omega
                first
                  | (exfalso; omega)
                  | exact staffP_f (by omega)⟩ (by show h.n - (t + 1) < h.n - t; omega)
          | exact round_v ⟨i + 1, by omega, fun j hj s a b => by
              rcases Nat.lt_or_ge j i with q | q
              · exact hall j q s a b
              · obtain rfl : j = i := by omega
                exact hin2 s a (by omega) b⟩ (by show n - (i + 1) < n - i; omega)
      · have hin : i = n := by omega
        rw [hin] at hall
        have e2 : hourB 2 (staffP h) n (planR c p) = bre0 := hourB_none hall
        refine aw_loopV (ι := {i : Nat // i ≤ n ∧ ∀ j, j < i → ∀ s : Int, p j ≤ s → s - p j < (c j).ho → weakP h (planR c p j) s = false}) hm0 (T69_ok K) (fun z => [(10, i6 z.1)]) (fun _ => []) (fun z => n - z.1) ⟨0, Nat.zero_le _, fun j hj => by omega⟩ (fun z => ?_)
        obtain ⟨i, hi, hall⟩ := z
        refine aw_assoc (aw_reg0 (aw_ifsd ((↑i : Int) < (↑n : Int)) (fun h7 => aw_skips (aw_blocks (aw_reg0 (?_)))) (fun h8 => aw_exits (round_exit (blk_exit (seq_normal (aw_assoc (aw_reg0 (?_)))))))))
        · have hin : i < n := by omega
          have hpi := hpl i hin
          refine aw_loopE (ι := {t : Nat // t ≤ h.n ∧ ∀ s : Int, p i ≤ s → s < t → s - p i < (c i).ho → weakP h (planR c p i) s = false}) hm0 (T69_ok K) (fun z => [(11, i6 z.1)]) (fun _ => []) (fun z => h.n - z.1) ⟨0, Nat.zero_le _, fun s h1 h2 => by omega⟩ (fun z => ?_)
          obtain ⟨t, ht, hin2⟩ := z
          refine aw_assoc (aw_reg0 (aw_ifsd ((↑t : Int) < (↑h.n : Int)) (fun h8 => aw_skips (aw_blocks (aw_opens (awr_testq 11 (108 : Nat) (((True ∧ (0 : Int) ≤ (↑i : Int) ∧ (↑i : Int) < (↑n : Int)) ∧ (0 : Int) ≤ (↑i : Int) ∧ (↑i : Int) < (↑m : Int)) ∧ ((-1000000 : Int) ≤ p i ∧ p i ≤ (1000000 : Int)) ∧ (-1000000 : Int) ≤ (↑t : Int) ∧ (↑t : Int) ≤ (1000000 : Int)) (by (simp only [true_and]; omega)) (runsP (c i) (p i) (↑t : Int)) (fun h9 => awr_end ((True ∧ (0 : Int) ≤ (↑t : Int) ∧ (↑t : Int) < (↑h.m : Int)) ∧ (0 : Int) ≤ (↑i : Int) ∧ (↑i : Int) < (↑n : Int)) (by (simp only [true_and]; omega)) (aw_ifd (h.en t < (c i).en) (fun h10 => aw_reg0 (aw_ret (blk_ret (seq_ret (round_ret (blk_ret (blk_ret (seq_ret (round_ret (blk_ret (seq_ret (end_d (D.agg [D.val (Value.int IntKind.u8 (3 : Int)), D.val (Value.int IntKind.i64 (↑i : Int)), D.val (Value.int IntKind.i64 (0 : Int)), D.val (Value.int IntKind.i64 (↑t : Int))]) ?_)))))))))))) (fun h11 => aw_skip (blk_normal (seq_normal (aw_end (True ∧ inRange IntKind.i64 ((↑t : Int) + (1 : Int))) (by (simp only [inRange_i64, true_and]; omega)) (round_t 3 ((True ∧ True ∧ (∀ (i : Nat), i < h.n → True ∧ True) ∧ (∀ (i : Nat), i < h.m → True ∧ True) ∧ True) ∧ (∀ (i : Nat), i < n → True ∧ True ∧ True ∧ True ∧ True ∧ True ∧ True ∧ True) ∧ (∀ (i : Nat), i < m → True ∧ True) ∧ (∀ (i : Nat), i < n → True ∧ True ∧ True ∧ True ∧ True ∧ True ∧ True ∧ True) ∧ (∀ (i : Nat), i < n → True ∧ True ∧ True ∧ True ∧ True ∧ True ∧ True ∧ True) ∧ (∀ (i : Nat), i < n → True ∧ True ∧ True ∧ True ∧ True ∧ True ∧ True ∧ True) ∧ True) (((∀ (i : Nat), i < h.n → True ∧ True) ∧ (∀ (i : Nat), i < h.m → True ∧ True) ∧ True) ∧ True ∧ True) (by (simp)) (by (simp)) ?_))))))) (fun h12 => awr_end0 (aw_noE (aw_skip (blk_normal (seq_normal (aw_end (True ∧ inRange IntKind.i64 ((↑t : Int) + (1 : Int))) (by (simp only [inRange_i64, true_and]; omega)) (round_t 3 ((True ∧ True ∧ (∀ (i : Nat), i < h.n → True ∧ True) ∧ (∀ (i : Nat), i < h.m → True ∧ True) ∧ True) ∧ (∀ (i : Nat), i < n → True ∧ True ∧ True ∧ True ∧ True ∧ True ∧ True ∧ True) ∧ (∀ (i : Nat), i < m → True ∧ True) ∧ (∀ (i : Nat), i < n → True ∧ True ∧ True ∧ True ∧ True ∧ True ∧ True ∧ True) ∧ (∀ (i : Nat), i < n → True ∧ True ∧ True ∧ True ∧ True ∧ True ∧ True ∧ True) ∧ (∀ (i : Nat), i < n → True ∧ True ∧ True ∧ True ∧ True ∧ True ∧ True ∧ True) ∧ True) (((∀ (i : Nat), i < h.n → True ∧ True) ∧ (∀ (i : Nat), i < h.m → True ∧ True) ∧ True) ∧ True ∧ True) (by (simp)) (by (simp)) ?_))))))))))) (fun h13 => aw_exits (round_exit (blk_exit (blk_normal (seq_normal (aw_end (True ∧ inRange IntKind.i64 ((↑i : Int) + (1 : Int))) (by (simp only [inRange_i64, true_and]; omega)) (?_)))))))))
          all_goals try simp only [runsP, decide_eq_true_eq, decide_eq_false_iff_not] at *
          all_goals first
            | exact bre_ret (breB_3 e1 e2 (hourB_at hin (by show p i ≤ _; omega) (by show _ - p i < (c i).ho; omega) (weakP_t (by omega)) (fun s a b => hin2 s a b (by omega)) hall) (by simp))
            | exact round_v ⟨t + 1, by omega, fun s a b d => by
                by_cases hs : s < t
                · exact hin2 s a hs d
                · obtain rfl : s = (t : Int) := by omega
                  first
                    | (exfalso; omega)
                    | exact weakP_f (by omega)⟩ (by show h.n - (t + 1) < h.n - t; omega)
            | exact round_v ⟨i + 1, by omega, fun j hj s a b => by
                rcases Nat.lt_or_ge j i with q | q
                · exact hall j q s a b
                · obtain rfl : j = i := by omega
                  exact hin2 s a (by omega) b⟩ (by show n - (i + 1) < n - i; omega)
        · have hin : i = n := by omega
          rw [hin] at hall
          have e3 : hourB 3 (weakP h) n (planR c p) = bre0 := hourB_none hall
          refine aw_loopV (ι := {i : Nat // i ≤ n ∧ ∀ j, j < i → ∀ l, j < l → l < n → clashB h (planR c p j) (planR c p l) = false}) hm0 (T69_ok K) (fun z => [(12, i6 z.1)]) (fun _ => []) (fun z => n - z.1) ⟨0, Nat.zero_le _, fun j hj => by omega⟩ (fun z => ?_)
          obtain ⟨i, hi, hall⟩ := z
          refine aw_assoc (aw_reg0 (aw_ifsd ((↑i : Int) < (↑n : Int)) (fun h9 => aw_skips (aw_blocks (aw_reg (True ∧ inRange IntKind.i64 ((↑i : Int) + (1 : Int))) (by (simp only [inRange_i64, true_and]; omega)) (?_)))) (fun h10 => aw_exits (round_exit (blk_exit (seq_normal (aw_assoc (aw_reg0 (?_)))))))))
          · have hin : i < n := by omega
            have hpi := hpl i hin
            refine aw_loopE (ι := {k : Nat // i < k ∧ k ≤ n ∧ ∀ l, i < l → l < k → clashB h (planR c p i) (planR c p l) = false}) hm0 (T69_ok K) (fun z => [(13, i6 z.1)]) (fun _ => []) (fun z => n - z.1) ⟨i + 1, by omega, by omega, fun l h1 h2 => by omega⟩ (fun z => ?_)
            obtain ⟨k, hik, hk, hin2⟩ := z
            refine aw_assoc (aw_reg0 (aw_ifsd ((↑k : Int) < (↑n : Int)) (fun h10 => aw_skips (aw_blocks (aw_reg (True ∧ ((∀ (i : Nat), i < h.n → [i6 (h.st i)] = [i6 (h.st i)]) ∧ ∀ (i : Nat), i < h.m → [i6 (h.en i)] = [i6 (h.en i)]) ∧ (∀ (i : Nat), i < n → campD (c i) = campD (c i)) ∧ (∀ (i : Nat), i < m → [i6 (p i)] = [i6 (p i)]) ∧ ((0 : Int) ≤ (↑i : Int) ∧ (0 : Int) ≤ (↑k : Int)) ∧ m = n ∧ smallP n p ∧ n ≤ (100000 : Nat) ∧ i < n ∧ k < n ∧ (∀ (j : Nat), j < n → campB h.n (c j) = true) ∧ h.n ≤ (96 : Nat) ∧ (0 : Int) ≤ h.cl ∧ h.cl ≤ (6 : Int)) (by ((try simp only [inRange_i64] at *); (try simp only [implies_true, and_self, true_and, and_true]); (repeat' (with_reducible apply And.intro)) <;> first | exact True.intro | exact fun _ _ => rfl | exact fun _ _ => ⟨rfl, rfl⟩ | omega | assumption | (intros; simp [freeL, freeD]; done))) (aw_if (nearB h c p i k) (fun h11 => aw_reg0 (aw_ret (blk_ret (seq_ret (round_ret (blk_ret (blk_ret (seq_ret (round_ret (blk_ret (seq_ret (end_d (D.agg [D.val (Value.int IntKind.u8 (4 : Int)), D.val (Value.int IntKind.i64 (↑i : Int)), D.val (Value.int IntKind.i64 (↑k : Int)), D.val (Value.int IntKind.i64 (0 : Int))]) ?_)))))))))))) (fun h12 => aw_skip (blk_normal (seq_normal (aw_end (True ∧ inRange IntKind.i64 ((↑k : Int) + (1 : Int))) (by (simp only [inRange_i64, true_and]; omega)) (round_t 3 ((True ∧ True ∧ (∀ (i : Nat), i < h.n → True ∧ True) ∧ (∀ (i : Nat), i < h.m → True ∧ True) ∧ True) ∧ (∀ (i : Nat), i < n → True ∧ True ∧ True ∧ True ∧ True ∧ True ∧ True ∧ True) ∧ (∀ (i : Nat), i < m → True ∧ True) ∧ (∀ (i : Nat), i < n → True ∧ True ∧ True ∧ True ∧ True ∧ True ∧ True ∧ True) ∧ (∀ (i : Nat), i < n → True ∧ True ∧ True ∧ True ∧ True ∧ True ∧ True ∧ True) ∧ (∀ (i : Nat), i < n → True ∧ True ∧ True ∧ True ∧ True ∧ True ∧ True ∧ True) ∧ (∀ (i : Nat), i < n → True ∧ True ∧ True ∧ True ∧ True ∧ True ∧ True ∧ True) ∧ True) (((∀ (i : Nat), i < h.n → True ∧ True) ∧ (∀ (i : Nat), i < h.m → True ∧ True) ∧ True) ∧ True ∧ True) (by (simp)) (by (simp)) ?_))))))))) (fun h13 => aw_exits (round_exit (blk_exit (blk_normal (seq_normal (aw_end (True ∧ inRange IntKind.i64 ((↑i : Int) + (1 : Int))) (by (simp only [inRange_i64, true_and]; omega)) (?_)))))))))
            all_goals try have hpk := hpl k (by omega)
            all_goals try have hnc := near_clash (h := h) (c := c) (p := p) (i := i) (k := k) (by omega) (by omega) (by omega)
            all_goals first
              | exact bre_ret (breB_4 e1 e2 e3 (tunB_at hik (by omega) (by rw [← hnc]; assumption) hin2 hall) (by simp))
              | exact round_v ⟨k + 1, by omega, by omega, fun l a b => by
                  by_cases hs : l < k
                  · exact hin2 l a hs
                  · obtain rfl : l = k := by omega
                    rw [← hnc]; assumption⟩ (by show n - (k + 1) < n - k; omega)
              | exact round_v ⟨i + 1, by omega, fun j hj l a b => by
                  rcases Nat.lt_or_ge j i with q | q
                  · exact hall j q l a b
                  · obtain rfl : j = i := by omega
                    exact hin2 l a (by omega)⟩ (by show n - (i + 1) < n - i; omega)
          · have hin : i = n := by omega
            rw [hin] at hall
            have e4 : tunB h n (planR c p) = bre0 := tunB_none hall
            refine aw_loopV (ι := {t : Nat // t ≤ h.n ∧ ∀ j, j < t → prepI (planR c p) n j ≤ h.ro}) hm0 (T69_ok K) (fun z => [(14, i6 z.1)]) (fun _ => []) (fun z => h.n - z.1) ⟨0, Nat.zero_le _, fun j hj => by omega⟩ (fun z => ?_)
            obtain ⟨t, ht, hall⟩ := z
            have hpc := prep_count c p t n
            refine aw_assoc (aw_reg0 (aw_ifsd ((↑t : Int) < (↑h.n : Int)) (fun h11 => aw_skips (aw_blocks (aw_reg (True ∧ (∀ (i : Nat), i < n → campD (c i) = campD (c i)) ∧ (∀ (i : Nat), i < m → [i6 (p i)] = [i6 (p i)]) ∧ m = n ∧ smallP n p ∧ ((-1000000 : Int) ≤ (↑t : Int) ∧ (↑t : Int) ≤ (1000000 : Int)) ∧ n ≤ (100000 : Nat)) (by ((try simp only [inRange_i64] at *); (try simp only [implies_true, and_self, true_and, and_true]); (repeat' (with_reducible apply And.intro)) <;> first | exact True.intro | exact fun _ _ => rfl | exact fun _ _ => ⟨rfl, rfl⟩ | omega | assumption | (intros; simp [freeL, freeD]; done))) (aw_ifd (cntN (fun (i : Nat) => prepsP (c i) (p i) (↑t : Int)) n > h.ro) (fun h12 => aw_reg0 (aw_ret (blk_ret (seq_ret (round_ret (blk_ret (seq_ret (end_d (D.agg [D.val (Value.int IntKind.u8 (5 : Int)), D.val (Value.int IntKind.i64 (0 : Int)), D.val (Value.int IntKind.i64 (0 : Int)), D.val (Value.int IntKind.i64 (↑t : Int))]) ?_)))))))) (fun h13 => aw_skip (blk_normal (seq_normal (aw_end (True ∧ inRange IntKind.i64 ((↑t : Int) + (1 : Int))) (by (simp only [inRange_i64, true_and]; omega)) (round_t 3 ((True ∧ True ∧ (∀ (i : Nat), i < h.n → True ∧ True) ∧ (∀ (i : Nat), i < h.m → True ∧ True) ∧ True) ∧ (∀ (i : Nat), i < n → True ∧ True ∧ True ∧ True ∧ True ∧ True ∧ True ∧ True) ∧ (∀ (i : Nat), i < m → True ∧ True) ∧ (∀ (i : Nat), i < n → True ∧ True ∧ True ∧ True ∧ True ∧ True ∧ True ∧ True) ∧ (∀ (i : Nat), i < n → True ∧ True ∧ True ∧ True ∧ True ∧ True ∧ True ∧ True) ∧ (∀ (i : Nat), i < n → True ∧ True ∧ True ∧ True ∧ True ∧ True ∧ True ∧ True) ∧ (∀ (i : Nat), i < n → True ∧ True ∧ True ∧ True ∧ True ∧ True ∧ True ∧ True) ∧ True) (((∀ (i : Nat), i < h.n → True ∧ True) ∧ (∀ (i : Nat), i < h.m → True ∧ True) ∧ True) ∧ True ∧ True) (by (simp)) (by (simp)) ?_))))))))) (fun h14 => aw_exits (round_exit (blk_exit (seq_normal (aw_reg0 (aw_ret (end_d (D.agg [D.val (Value.int IntKind.u8 (0 : Int)), D.val (Value.int IntKind.i64 (0 : Int)), D.val (Value.int IntKind.i64 (0 : Int)), D.val (Value.int IntKind.i64 (0 : Int))]) ?_)))))))))
            all_goals first
              | exact bre_ret (breB_5 e1 e2 e3 e4 (roomB_at (t := t) (by omega) (by rw [hpc]; omega) hall) (.inl (by simp)))
              | exact round_v ⟨t + 1, by omega, fun j hj => by
                  rcases Nat.lt_or_ge j t with q | q
                  · exact hall j q
                  · obtain rfl : j = t := by omega
                    rw [hpc]; omega⟩ (by show h.n - (t + 1) < h.n - t; omega)
              | exact bre_ret (breB_5 e1 e2 e3 e4 (roomB_none fun j hj => hall j (by omega)) (.inr rfl))

end Go.Ev
end
