import Derived.Test.YtmekepomgofiaaaCS17
import Derived.Test.YtmekepomgofiaaaCS12
set_option linter.all false
section
open Go Go.Ev Go.RowKit
namespace Go.Ev
set_option maxRecDepth 100000
set_option linter.all false
def refI : D → Option Int
  | .ref [.val (.int .i64 x)] 0 => some x
  | _ => none
theorem refI_eq {d : D} {b : Int} (h : refI d = some b) : d = .ref [i6 b] 0 := by
  unfold refI at h
  split at h
  · cases h; rfl
  · cases h
def ownP (cu t : Int) (r : Run) : Bool := decide (r.c.cu = cu) && decide (r.first ≤ t ∧ t ≤ r.first + r.c.ho - 1)
def preP (cu t : Int) (r : Run) : Bool := decide (r.c.cu = cu) && decide (r.first - r.c.pr ≤ t ∧ t ≤ r.first - 1)
def cloP (h : Hall) (cu t : Int) (r : Run) : Bool := !decide (r.c.cu = cu) && decide (r.first - h.cl ≤ t ∧ t ≤ r.first + r.c.ho + h.cl - 1)
def clOK (h : Hall) : Prop := -1000000 ≤ h.cl ∧ h.cl ≤ 1000000

theorem ownP_alone (cu t : Int) (r : Run) (hr : smallR r) : Alone PG 100 [.agg (runD r), .ref [i6 cu] 0, .ref [i6 t] 0] (bD (ownP cu t r)) :=
  Alone.ofW (cl := T59) (raw := false) hm0 T59_ok cf_100 fun K w => by
    refine aw_reg0 (aw_opens (awr_teste 6 (10 : Nat) (True) trivial (r.c.cu) (cu) (fun h1 => awr_end ((True ∧ inRange IntKind.i64 (r.first + r.c.ho)) ∧ inRange IntKind.i64 (r.first + r.c.ho - (1 : Int))) (by ((try unfold clOK at hc); unfold smallR at hr; simp only [inRange_i64, true_and]; omega)) (aw_ret (end_b (decide (r.first ≤ t ∧ t ≤ r.first + r.c.ho - (1 : Int))) ?_))) (fun h2 => awr_end0 (aw_ret (end_b (false) ?_)))))
    all_goals (simp_all [ownP]; try omega)

def R100 : List D → Option (Option Prop × D)
  | [d0, d1, d2] => match runO d0, refI d1, refI d2 with
    | some r, some cu, some t => some (some (smallR r), bD (ownP cu t r))
    | _, _, _ => none
  | _ => none
noncomputable def T100 := orCl (aloC 100 R100) T59
theorem T100_ok (K : Cust) : ClOK K PG T100 := tab_cons cf_100 (fun ds p d h hp => by
    unfold R100 at h
    split at h
    · split at h
      · rename_i e0 e1 e2
        obtain rfl := runO_eq e0
        obtain rfl := refI_eq e1
        obtain rfl := refI_eq e2
        cases h
        have h3 := hp _ rfl
        exact ⟨_, less_cons (LessD.refl _) (less_cons (LessD.refl _) (less_cons (LessD.refl _) (Less.refl _))), by simp [freeL, freeD, runD_free, hallD_free], by simp [freeD], ownP_alone _ _ _ h3⟩
      · cases h
    · cases h) (T59_ok K)
theorem ix100 (cu t : Int) (n : Nat) (x : Nat → Run) (hr : ∀ i, i < n → smallR (x i)) (hn : n ≤ 1000000) : Alone PG 104 [rowR n x, .fn 100 [] [.ref [i6 cu] 0, .ref [i6 t] 0]] (i6 (findI (fun i => ownP cu t (x i)) n)) :=
  Alone.ofW (cl := T100) (raw := false) hm0 T100_ok cf_104 fun K w => by
    refine aw_reg0 (aw_assoc (aw_reg0 (?_)))
    refine aw_loopV (ι := {i : Nat // i ≤ n ∧ ∀ j, j < i → (ownP cu t (x j)) = false}) hm0 (T100_ok K) (fun z => [(8, i6 z.1)]) (fun _ => []) (fun z => n - z.1) ⟨0, Nat.zero_le n, fun j hj => by omega⟩ (fun z => ?_)
    obtain ⟨i, hin, hall⟩ := z
    
    refine aw_reg0 (aw_ifsd ((↑i : Int) < (↑n : Int)) (fun h1 => aw_skips (aw_blocks (aw_reg0 (aw_reg ((True ∧ (0 : Int) ≤ (↑i : Int) ∧ (↑i : Int) < (↑n : Int)) ∧ smallR (x i)) (by (have q0 := hr i (by omega); (try simp only [inRange_i64] at *); (try simp only [implies_true, and_self, true_and, and_true]); (repeat' (with_reducible apply And.intro)) <;> first | exact True.intro | exact fun _ _ => rfl | omega | assumption | (intros; simp [freeL, freeD]; done))) (aw_if (ownP cu t (x i)) (fun h2 => aw_reg0 (aw_ret (blk_ret (seq_ret (round_ret (blk_ret (seq_ret (end_i ((↑i : Int)) ?_)))))))) (fun h3 => aw_skip (blk_normal (seq_normal (aw_end (True ∧ inRange IntKind.i64 ((↑i : Int) + (1 : Int))) (by (have q0 := hr i (by omega); (try simp only [inRange_i64] at *); (try simp only [implies_true, and_self, true_and, and_true]); (repeat' (with_reducible apply And.intro)) <;> first | exact True.intro | exact fun _ _ => rfl | omega | assumption | (intros; simp [freeL, freeD]; done))) (round_t 1 ((∀ (i : Nat), i < n → True ∧ True ∧ True ∧ True ∧ True ∧ True ∧ True ∧ True ∧ True) ∧ (True ∧ (True ∧ True) ∧ (True ∧ True) ∧ True) ∧ (∀ (i : Nat), i < n → True ∧ True ∧ True ∧ True ∧ True ∧ True ∧ True ∧ True ∧ True) ∧ True) (True) (by (simp)) (by trivial) ?_)))))))))) (fun h4 => aw_exits (round_exit (blk_exit (seq_normal (aw_reg0 (aw_ret (end_i ((-1 : Int)) ?_))))))))
    · exact (findI_at (p := fun i => ownP cu t (x i)) (by omega) (by simp_all [runL_D]; try omega) hall).symm
    · exact round_v ⟨i + 1, by omega, fun j hj => by
        rcases Nat.lt_or_ge j i with h | h
        · exact hall j h
        · have : j = i := by omega
          subst this; simp_all [runL_D]; try omega⟩ (by show n - (i + 1) < n - i; omega)
    · have hin' : i = n := by omega
      subst hin'
      exact (findI_none hall).symm

def R104_100 : List D → Option (Option Prop × D)
  | [d0, .fn 100 [] [d1, d2]] => match runsO d0, refI d1, refI d2 with
    | some (p, n, x), some cu, some t => some (some (p ∧ (∀ i, i < n → smallR (x i)) ∧ n ≤ 1000000), i6 (findI (fun i => ownP cu t (x i)) n))
    | _, _, _ => none
  | _ => none
noncomputable def T104_100 := orCl (aloC 104 R104_100) T100
theorem T104_100_ok (K : Cust) : ClOK K PG T104_100 := tab_cons cf_104 (fun ds p d h hp => by
    unfold R104_100 at h
    split at h
    · split at h
      · rename_i e0 e1 e2
        obtain rfl := refI_eq e1
        obtain rfl := refI_eq e2
        cases h
        obtain ⟨h1, h3, h4⟩ := hp _ rfl
        exact ⟨_, less_cons (runsO_less e0 h1) (less_cons (less_fn (Less.refl _) (less_cons (LessD.refl _) (less_cons (LessD.refl _) (Less.refl _)))) (Less.refl _)), by simp [freeL, freeD, rowR_free, hallD_free], by simp [freeD], ix100 _ _ _ _ h3 h4⟩
      · cases h
    · cases h) (T100_ok K)
theorem any100 (cu t : Int) (n : Nat) (x : Nat → Run) (hr : ∀ i, i < n → smallR (x i)) (hn : n ≤ 1000000) : Alone PG 103 [rowR n x, .fn 100 [] [.ref [i6 cu] 0, .ref [i6 t] 0]] (bD (anyI (fun i => ownP cu t (x i)) n)) :=
  Alone.ofW (cl := T104_100) (raw := false) hm0 T104_100_ok cf_103 fun K w => by
    refine aw_reg0 (aw_reg (True ∧ (∀ (i : Nat), i < n → runD (x i) = runD (x i)) ∧ (∀ (i : Nat), i < n → smallR (x i)) ∧ n ≤ (1000000 : Nat)) (by ((try simp only [inRange_i64] at *); (try simp only [implies_true, and_self, true_and, and_true]); (repeat' (with_reducible apply And.intro)) <;> first | exact True.intro | exact fun _ _ => rfl | omega | assumption | (intros; simp [freeL, freeD]; done))) (aw_ret (end_b (decide (findI (fun (i : Nat) => ownP cu t (x i)) n ≥ (0 : Int))) ?_)))
    exact findI_any

def R103_100 : List D → Option (Option Prop × D)
  | [d0, .fn 100 [] [d1, d2]] => match runsO d0, refI d1, refI d2 with
    | some (p, n, x), some cu, some t => some (some (p ∧ (∀ i, i < n → smallR (x i)) ∧ n ≤ 1000000), bD (anyI (fun i => ownP cu t (x i)) n))
    | _, _, _ => none
  | _ => none
noncomputable def T103_100 := orCl (seeC 103 R103_100) T104_100
theorem T103_100_ok (K : Cust) : ClOK K PG T103_100 := tab_see cf_103 (fun ds p d h hp => by
    unfold R103_100 at h
    split at h
    · split at h
      · rename_i e0 e1 e2
        obtain rfl := refI_eq e1
        obtain rfl := refI_eq e2
        cases h
        obtain ⟨h1, h3, h4⟩ := hp _ rfl
        exact ⟨_, less_cons (runsO_less e0 h1) (less_cons (less_fn (Less.refl _) (less_cons (LessD.refl _) (less_cons (LessD.refl _) (Less.refl _)))) (Less.refl _)), any100 _ _ _ _ h3 h4⟩
      · cases h
    · cases h) (T104_100_ok K)
theorem preP_alone (cu t : Int) (r : Run) (hr : smallR r) : Alone PG 101 [.agg (runD r), .ref [i6 cu] 0, .ref [i6 t] 0] (bD (preP cu t r)) :=
  Alone.ofW (cl := T103_100) (raw := false) hm0 T103_100_ok cf_101 fun K w => by
    refine aw_reg0 (aw_opens (awr_teste 6 (10 : Nat) (True) trivial (r.c.cu) (cu) (fun h1 => awr_end ((True ∧ inRange IntKind.i64 (r.first - r.c.pr)) ∧ inRange IntKind.i64 (r.first - (1 : Int))) (by ((try unfold clOK at hc); unfold smallR at hr; simp only [inRange_i64, true_and]; omega)) (aw_ret (end_b (decide (r.first - r.c.pr ≤ t ∧ t ≤ r.first - (1 : Int))) ?_))) (fun h2 => awr_end0 (aw_ret (end_b (false) ?_)))))
    all_goals (simp_all [preP]; try omega)

def R101 : List D → Option (Option Prop × D)
  | [d0, d1, d2] => match runO d0, refI d1, refI d2 with
    | some r, some cu, some t => some (some (smallR r), bD (preP cu t r))
    | _, _, _ => none
  | _ => none
noncomputable def T101 := orCl (aloC 101 R101) T103_100
theorem T101_ok (K : Cust) : ClOK K PG T101 := tab_cons cf_101 (fun ds p d h hp => by
    unfold R101 at h
    split at h
    · split at h
      · rename_i e0 e1 e2
        obtain rfl := runO_eq e0
        obtain rfl := refI_eq e1
        obtain rfl := refI_eq e2
        cases h
        have h3 := hp _ rfl
        exact ⟨_, less_cons (LessD.refl _) (less_cons (LessD.refl _) (less_cons (LessD.refl _) (Less.refl _))), by simp [freeL, freeD, runD_free, hallD_free], by simp [freeD], preP_alone _ _ _ h3⟩
      · cases h
    · cases h) (T103_100_ok K)
theorem ix101 (cu t : Int) (n : Nat) (x : Nat → Run) (hr : ∀ i, i < n → smallR (x i)) (hn : n ≤ 1000000) : Alone PG 104 [rowR n x, .fn 101 [] [.ref [i6 cu] 0, .ref [i6 t] 0]] (i6 (findI (fun i => preP cu t (x i)) n)) :=
  Alone.ofW (cl := T101) (raw := false) hm0 T101_ok cf_104 fun K w => by
    refine aw_reg0 (aw_assoc (aw_reg0 (?_)))
    refine aw_loopV (ι := {i : Nat // i ≤ n ∧ ∀ j, j < i → (preP cu t (x j)) = false}) hm0 (T101_ok K) (fun z => [(8, i6 z.1)]) (fun _ => []) (fun z => n - z.1) ⟨0, Nat.zero_le n, fun j hj => by omega⟩ (fun z => ?_)
    obtain ⟨i, hin, hall⟩ := z
    
    refine aw_reg0 (aw_ifsd ((↑i : Int) < (↑n : Int)) (fun h1 => aw_skips (aw_blocks (aw_reg0 (aw_reg ((True ∧ (0 : Int) ≤ (↑i : Int) ∧ (↑i : Int) < (↑n : Int)) ∧ smallR (x i)) (by (have q0 := hr i (by omega); (try simp only [inRange_i64] at *); (try simp only [implies_true, and_self, true_and, and_true]); (repeat' (with_reducible apply And.intro)) <;> first | exact True.intro | exact fun _ _ => rfl | omega | assumption | (intros; simp [freeL, freeD]; done))) (aw_if (preP cu t (x i)) (fun h2 => aw_reg0 (aw_ret (blk_ret (seq_ret (round_ret (blk_ret (seq_ret (end_i ((↑i : Int)) ?_)))))))) (fun h3 => aw_skip (blk_normal (seq_normal (aw_end (True ∧ inRange IntKind.i64 ((↑i : Int) + (1 : Int))) (by (have q0 := hr i (by omega); (try simp only [inRange_i64] at *); (try simp only [implies_true, and_self, true_and, and_true]); (repeat' (with_reducible apply And.intro)) <;> first | exact True.intro | exact fun _ _ => rfl | omega | assumption | (intros; simp [freeL, freeD]; done))) (round_t 1 ((∀ (i : Nat), i < n → True ∧ True ∧ True ∧ True ∧ True ∧ True ∧ True ∧ True ∧ True) ∧ (True ∧ (True ∧ True) ∧ (True ∧ True) ∧ True) ∧ (∀ (i : Nat), i < n → True ∧ True ∧ True ∧ True ∧ True ∧ True ∧ True ∧ True ∧ True) ∧ True) (True) (by (simp)) (by trivial) ?_)))))))))) (fun h4 => aw_exits (round_exit (blk_exit (seq_normal (aw_reg0 (aw_ret (end_i ((-1 : Int)) ?_))))))))
    · exact (findI_at (p := fun i => preP cu t (x i)) (by omega) (by simp_all [runL_D]; try omega) hall).symm
    · exact round_v ⟨i + 1, by omega, fun j hj => by
        rcases Nat.lt_or_ge j i with h | h
        · exact hall j h
        · have : j = i := by omega
          subst this; simp_all [runL_D]; try omega⟩ (by show n - (i + 1) < n - i; omega)
    · have hin' : i = n := by omega
      subst hin'
      exact (findI_none hall).symm

def R104_101 : List D → Option (Option Prop × D)
  | [d0, .fn 101 [] [d1, d2]] => match runsO d0, refI d1, refI d2 with
    | some (p, n, x), some cu, some t => some (some (p ∧ (∀ i, i < n → smallR (x i)) ∧ n ≤ 1000000), i6 (findI (fun i => preP cu t (x i)) n))
    | _, _, _ => none
  | _ => none
noncomputable def T104_101 := orCl (aloC 104 R104_101) T101
theorem T104_101_ok (K : Cust) : ClOK K PG T104_101 := tab_cons cf_104 (fun ds p d h hp => by
    unfold R104_101 at h
    split at h
    · split at h
      · rename_i e0 e1 e2
        obtain rfl := refI_eq e1
        obtain rfl := refI_eq e2
        cases h
        obtain ⟨h1, h3, h4⟩ := hp _ rfl
        exact ⟨_, less_cons (runsO_less e0 h1) (less_cons (less_fn (Less.refl _) (less_cons (LessD.refl _) (less_cons (LessD.refl _) (Less.refl _)))) (Less.refl _)), by simp [freeL, freeD, rowR_free, hallD_free], by simp [freeD], ix101 _ _ _ _ h3 h4⟩
      · cases h
    · cases h) (T101_ok K)
theorem any101 (cu t : Int) (n : Nat) (x : Nat → Run) (hr : ∀ i, i < n → smallR (x i)) (hn : n ≤ 1000000) : Alone PG 103 [rowR n x, .fn 101 [] [.ref [i6 cu] 0, .ref [i6 t] 0]] (bD (anyI (fun i => preP cu t (x i)) n)) :=
  Alone.ofW (cl := T104_101) (raw := false) hm0 T104_101_ok cf_103 fun K w => by
    refine aw_reg0 (aw_reg (True ∧ (∀ (i : Nat), i < n → runD (x i) = runD (x i)) ∧ (∀ (i : Nat), i < n → smallR (x i)) ∧ n ≤ (1000000 : Nat)) (by ((try simp only [inRange_i64] at *); (try simp only [implies_true, and_self, true_and, and_true]); (repeat' (with_reducible apply And.intro)) <;> first | exact True.intro | exact fun _ _ => rfl | omega | assumption | (intros; simp [freeL, freeD]; done))) (aw_ret (end_b (decide (findI (fun (i : Nat) => preP cu t (x i)) n ≥ (0 : Int))) ?_)))
    exact findI_any

def R103_101 : List D → Option (Option Prop × D)
  | [d0, .fn 101 [] [d1, d2]] => match runsO d0, refI d1, refI d2 with
    | some (p, n, x), some cu, some t => some (some (p ∧ (∀ i, i < n → smallR (x i)) ∧ n ≤ 1000000), bD (anyI (fun i => preP cu t (x i)) n))
    | _, _, _ => none
  | _ => none
noncomputable def T103_101 := orCl (seeC 103 R103_101) T104_101
theorem T103_101_ok (K : Cust) : ClOK K PG T103_101 := tab_see cf_103 (fun ds p d h hp => by
    unfold R103_101 at h
    split at h
    · split at h
      · rename_i e0 e1 e2
        obtain rfl := refI_eq e1
        obtain rfl := refI_eq e2
        cases h
        obtain ⟨h1, h3, h4⟩ := hp _ rfl
        exact ⟨_, less_cons (runsO_less e0 h1) (less_cons (less_fn (Less.refl _) (less_cons (LessD.refl _) (less_cons (LessD.refl _) (Less.refl _)))) (Less.refl _)), any101 _ _ _ _ h3 h4⟩
      · cases h
    · cases h) (T104_101_ok K)
theorem cloP_alone (h : Hall) (cu t : Int) (r : Run) (hc : clOK h) (hr : smallR r) : Alone PG 102 [.agg (runD r), .ref [i6 cu] 0, .ref (hallD h) 0, .ref [i6 t] 0] (bD (cloP h cu t r)) :=
  Alone.ofW (cl := T103_101) (raw := false) hm0 T103_101_ok cf_102 fun K w => by
    refine aw_reg0 (aw_opens (awr_testne 6 (11 : Nat) (True) trivial (r.c.cu) (cu) (fun h1 => awr_end ((((True ∧ inRange IntKind.i64 (r.first - h.cl)) ∧ inRange IntKind.i64 (r.first + r.c.ho)) ∧ inRange IntKind.i64 (r.first + r.c.ho + h.cl)) ∧ inRange IntKind.i64 (r.first + r.c.ho + h.cl - (1 : Int))) (by ((try unfold clOK at hc); unfold smallR at hr; simp only [inRange_i64, true_and]; omega)) (aw_ret (end_b (decide (r.first - h.cl ≤ t ∧ t ≤ r.first + r.c.ho + h.cl - (1 : Int))) ?_))) (fun h2 => awr_end0 (aw_ret (end_b (false) ?_)))))
    all_goals (simp_all [cloP]; try omega)

def R102 : List D → Option (Option Prop × D)
  | [d0, d1, d2, d3] => match runO d0, refI d1, hallR d2, refI d3 with
    | some r, some cu, some (q, h), some t => some (some (q ∧ clOK h ∧ smallR r), bD (cloP h cu t r))
    | _, _, _, _ => none
  | _ => none
noncomputable def T102 := orCl (aloC 102 R102) T103_101
theorem T102_ok (K : Cust) : ClOK K PG T102 := tab_cons cf_102 (fun ds p d h hp => by
    unfold R102 at h
    split at h
    · split at h
      · rename_i e0 e1 e2 e3
        obtain rfl := runO_eq e0
        obtain rfl := refI_eq e1
        obtain rfl := refI_eq e3
        cases h
        obtain ⟨h2, h3, h4⟩ := hp _ rfl
        exact ⟨_, less_cons (LessD.refl _) (less_cons (LessD.refl _) (less_cons (hallR_less e2 h2) (less_cons (LessD.refl _) (Less.refl _)))), by simp [freeL, freeD, runD_free, hallD_free], by simp [freeD], cloP_alone _ _ _ _ h3 h4⟩
      · cases h
    · cases h) (T103_101_ok K)
theorem ix102 (h : Hall) (cu t : Int) (n : Nat) (x : Nat → Run) (hc : clOK h) (hr : ∀ i, i < n → smallR (x i)) (hn : n ≤ 1000000) : Alone PG 104 [rowR n x, .fn 102 [] [.ref [i6 cu] 0, .ref (hallD h) 0, .ref [i6 t] 0]] (i6 (findI (fun i => cloP h cu t (x i)) n)) :=
  Alone.ofW (cl := T102) (raw := false) hm0 T102_ok cf_104 fun K w => by
    refine aw_reg0 (aw_assoc (aw_reg0 (?_)))
    refine aw_loopV (ι := {i : Nat // i ≤ n ∧ ∀ j, j < i → (cloP h cu t (x j)) = false}) hm0 (T102_ok K) (fun z => [(8, i6 z.1)]) (fun _ => []) (fun z => n - z.1) ⟨0, Nat.zero_le n, fun j hj => by omega⟩ (fun z => ?_)
    obtain ⟨i, hin, hall⟩ := z
    
    refine aw_reg0 (aw_ifsd ((↑i : Int) < (↑n : Int)) (fun h1 => aw_skips (aw_blocks (aw_reg0 (aw_reg ((True ∧ (0 : Int) ≤ (↑i : Int) ∧ (↑i : Int) < (↑n : Int)) ∧ ((∀ (i : Nat), i < h.n → [i6 (h.st i)] = [i6 (h.st i)]) ∧ ∀ (i : Nat), i < h.m → [i6 (h.en i)] = [i6 (h.en i)]) ∧ clOK h ∧ smallR (x i)) (by (have q0 := hr i (by omega); (try simp only [inRange_i64] at *); (try simp only [implies_true, and_self, true_and, and_true]); (repeat' (with_reducible apply And.intro)) <;> first | exact True.intro | exact fun _ _ => rfl | omega | assumption | (intros; simp [freeL, freeD]; done))) (aw_if (cloP h cu t (x i)) (fun h2 => aw_reg0 (aw_ret (blk_ret (seq_ret (round_ret (blk_ret (seq_ret (end_i ((↑i : Int)) ?_)))))))) (fun h3 => aw_skip (blk_normal (seq_normal (aw_end (True ∧ inRange IntKind.i64 ((↑i : Int) + (1 : Int))) (by (have q0 := hr i (by omega); (try simp only [inRange_i64] at *); (try simp only [implies_true, and_self, true_and, and_true]); (repeat' (with_reducible apply And.intro)) <;> first | exact True.intro | exact fun _ _ => rfl | omega | assumption | (intros; simp [freeL, freeD]; done))) (round_t 1 ((∀ (i : Nat), i < n → True ∧ True ∧ True ∧ True ∧ True ∧ True ∧ True ∧ True ∧ True) ∧ (True ∧ (True ∧ True) ∧ (True ∧ True ∧ (∀ (i : Nat), i < h.n → True ∧ True) ∧ (∀ (i : Nat), i < h.m → True ∧ True) ∧ True) ∧ (True ∧ True) ∧ True) ∧ (∀ (i : Nat), i < n → True ∧ True ∧ True ∧ True ∧ True ∧ True ∧ True ∧ True ∧ True) ∧ True) (True) (by (simp)) (by trivial) ?_)))))))))) (fun h4 => aw_exits (round_exit (blk_exit (seq_normal (aw_reg0 (aw_ret (end_i ((-1 : Int)) ?_))))))))
    · exact (findI_at (p := fun i => cloP h cu t (x i)) (by omega) (by simp_all [runL_D]; try omega) hall).symm
    · exact round_v ⟨i + 1, by omega, fun j hj => by
        rcases Nat.lt_or_ge j i with h | h
        · exact hall j h
        · have : j = i := by omega
          subst this; simp_all [runL_D]; try omega⟩ (by show n - (i + 1) < n - i; omega)
    · have hin' : i = n := by omega
      subst hin'
      exact (findI_none hall).symm

def R104_102 : List D → Option (Option Prop × D)
  | [d0, .fn 102 [] [d1, d2, d3]] => match runsO d0, refI d1, hallR d2, refI d3 with
    | some (p, n, x), some cu, some (q, h), some t => some (some (p ∧ q ∧ clOK h ∧ (∀ i, i < n → smallR (x i)) ∧ n ≤ 1000000), i6 (findI (fun i => cloP h cu t (x i)) n))
    | _, _, _, _ => none
  | _ => none
noncomputable def T104_102 := orCl (aloC 104 R104_102) T102
theorem T104_102_ok (K : Cust) : ClOK K PG T104_102 := tab_cons cf_104 (fun ds p d h hp => by
    unfold R104_102 at h
    split at h
    · split at h
      · rename_i e0 e1 e2 e3
        obtain rfl := refI_eq e1
        obtain rfl := refI_eq e3
        cases h
        obtain ⟨h1, h2, h3, h4, h5⟩ := hp _ rfl
        exact ⟨_, less_cons (runsO_less e0 h1) (less_cons (less_fn (Less.refl _) (less_cons (LessD.refl _) (less_cons (hallR_less e2 h2) (less_cons (LessD.refl _) (Less.refl _))))) (Less.refl _)), by simp [freeL, freeD, rowR_free, hallD_free], by simp [freeD], ix102 _ _ _ _ _ h3 h4 h5⟩
      · cases h
    · cases h) (T102_ok K)
theorem any102 (h : Hall) (cu t : Int) (n : Nat) (x : Nat → Run) (hc : clOK h) (hr : ∀ i, i < n → smallR (x i)) (hn : n ≤ 1000000) : Alone PG 103 [rowR n x, .fn 102 [] [.ref [i6 cu] 0, .ref (hallD h) 0, .ref [i6 t] 0]] (bD (anyI (fun i => cloP h cu t (x i)) n)) :=
  Alone.ofW (cl := T104_102) (raw := false) hm0 T104_102_ok cf_103 fun K w => by
    refine aw_reg0 (aw_reg (True ∧ (∀ (i : Nat), i < n → runD (x i) = runD (x i)) ∧ ((∀ (i : Nat), i < h.n → [i6 (h.st i)] = [i6 (h.st i)]) ∧ ∀ (i : Nat), i < h.m → [i6 (h.en i)] = [i6 (h.en i)]) ∧ clOK h ∧ (∀ (i : Nat), i < n → smallR (x i)) ∧ n ≤ (1000000 : Nat)) (by ((try simp only [inRange_i64] at *); (try simp only [implies_true, and_self, true_and, and_true]); (repeat' (with_reducible apply And.intro)) <;> first | exact True.intro | exact fun _ _ => rfl | omega | assumption | (intros; simp [freeL, freeD]; done))) (aw_ret (end_b (decide (findI (fun (i : Nat) => cloP h cu t (x i)) n ≥ (0 : Int))) ?_)))
    exact findI_any

def R103_102 : List D → Option (Option Prop × D)
  | [d0, .fn 102 [] [d1, d2, d3]] => match runsO d0, refI d1, hallR d2, refI d3 with
    | some (p, n, x), some cu, some (q, h), some t => some (some (p ∧ q ∧ clOK h ∧ (∀ i, i < n → smallR (x i)) ∧ n ≤ 1000000), bD (anyI (fun i => cloP h cu t (x i)) n))
    | _, _, _, _ => none
  | _ => none
noncomputable def T103_102 := orCl (seeC 103 R103_102) T104_102
theorem T103_102_ok (K : Cust) : ClOK K PG T103_102 := tab_see cf_103 (fun ds p d h hp => by
    unfold R103_102 at h
    split at h
    · split at h
      · rename_i e0 e1 e2 e3
        obtain rfl := refI_eq e1
        obtain rfl := refI_eq e3
        cases h
        obtain ⟨h1, h2, h3, h4, h5⟩ := hp _ rfl
        exact ⟨_, less_cons (runsO_less e0 h1) (less_cons (less_fn (Less.refl _) (less_cons (LessD.refl _) (less_cons (hallR_less e2 h2) (less_cons (LessD.refl _) (Less.refl _))))) (Less.refl _)), any102 _ _ _ _ _ h3 h4 h5⟩
      · cases h
    · cases h) (T104_102_ok K)
def lookB (h : Hall) (n : Nat) (x : Nat → Run) (cu t : Int) : Int := bif anyI (fun i => ownP cu t (x i)) n then 1 else bif anyI (fun i => preP cu t (x i)) n then 2 else bif (h.st t.toNat == 0 || anyI (fun i => cloP h cu t (x i)) n) then 3 else 0

theorem look_alone (h : Hall) (n : Nat) (x : Nat → Run) (cu t : Int) (hc : clOK h) (hr : ∀ i, i < n → smallR (x i)) (hn : n ≤ 1000000) (ht : 0 ≤ t ∧ t < h.n) : Alone PG 78 [.agg (hallD h), rowR n x, i6 cu, i6 t] (.val (.int .u8 (lookB h n x cu t))) :=
  Alone.ofW (cl := T103_102) (raw := false) hm0 T103_102_ok cf_78 fun K w => by
    refine aw_reg0 (aw_reg0 (aw_reg0 (aw_reg0 (aw_blocks (aw_reg (True ∧ (∀ (i : Nat), i < n → True ∧ True ∧ True ∧ True ∧ True ∧ True ∧ True ∧ True ∧ True) ∧ (∀ (i : Nat), i < n → runD (x i) = runD (x i)) ∧ (∀ (i : Nat), i < n → smallR (x i)) ∧ n ≤ (1000000 : Nat)) (by ((try simp only [inRange_i64] at *); (try simp only [implies_true, and_self, true_and, and_true]); (repeat' (with_reducible apply And.intro)) <;> first | exact True.intro | exact fun _ _ => rfl | omega | assumption | (intros; simp [freeL, freeD]; done))) (aw_if (anyI (fun (i : Nat) => ownP cu t (x i)) n) (fun h1 => aw_reg0 (aw_ret (blk_ret (seq_ret (end_i ((1 : Int)) ?_))))) (fun h2 => aw_reg (True ∧ (∀ (i : Nat), i < n → True ∧ True ∧ True ∧ True ∧ True ∧ True ∧ True ∧ True ∧ True) ∧ (∀ (i : Nat), i < n → runD (x i) = runD (x i)) ∧ (∀ (i : Nat), i < n → smallR (x i)) ∧ n ≤ (1000000 : Nat)) (by ((try simp only [inRange_i64] at *); (try simp only [implies_true, and_self, true_and, and_true]); (repeat' (with_reducible apply And.intro)) <;> first | exact True.intro | exact fun _ _ => rfl | omega | assumption | (intros; simp [freeL, freeD]; done))) (aw_if (anyI (fun (i : Nat) => preP cu t (x i)) n) (fun h3 => aw_reg0 (aw_ret (blk_ret (seq_ret (end_i ((2 : Int)) ?_))))) (fun h4 => aw_opens (awr_teste 7 (30 : Nat) (True ∧ (0 : Int) ≤ t ∧ t < (↑h.n : Int)) (by exact ⟨trivial, by assumption⟩) (h.st (Int.toNat t)) ((0 : Int)) (fun h5 => awr_end0 (aw_yesE (aw_reg0 (aw_ret (blk_ret (seq_ret (end_i ((3 : Int)) ?_))))))) (fun h6 => awr_end (True ∧ ((∀ (i : Nat), i < n → True ∧ True ∧ True ∧ True ∧ True ∧ True ∧ True ∧ True ∧ True) ∧ (∀ (i : Nat), i < h.n → True ∧ True) ∧ ∀ (i : Nat), i < h.m → True ∧ True) ∧ (∀ (i : Nat), i < n → runD (x i) = runD (x i)) ∧ ((∀ (i : Nat), i < h.n → [i6 (h.st i)] = [i6 (h.st i)]) ∧ ∀ (i : Nat), i < h.m → [i6 (h.en i)] = [i6 (h.en i)]) ∧ clOK h ∧ (∀ (i : Nat), i < n → smallR (x i)) ∧ n ≤ (1000000 : Nat)) (by ((try simp only [inRange_i64] at *); (try simp only [implies_true, and_self, true_and, and_true]); (repeat' (with_reducible apply And.intro)) <;> first | exact True.intro | exact fun _ _ => rfl | omega | assumption | (intros; simp [freeL, freeD]; done))) (aw_if (anyI (fun (i : Nat) => cloP h cu t (x i)) n) (fun h7 => aw_reg0 (aw_ret (blk_ret (seq_ret (end_i ((3 : Int)) ?_))))) (fun h8 => aw_skip (blk_normal (seq_normal (aw_reg0 (aw_ret (end_i ((0 : Int)) ?_))))))))))))))))))
    all_goals grind [lookB]

def R78 : List D → Option (Option Prop × D)
  | [d0, d1, d2, d3] => match hallO d0, runsO d1, inO d2, inO d3 with
    | some (p, h), some (q, n, x), some cu, some t => some (some (p ∧ q ∧ clOK h ∧ (∀ i, i < n → smallR (x i)) ∧ n ≤ 1000000 ∧ 0 ≤ t ∧ t < h.n), .val (.int .u8 (lookB h n x cu t)))
    | _, _, _, _ => none
  | _ => none
noncomputable def T78 := orCl (aloC 78 R78) T103_102
theorem T78_ok (K : Cust) : ClOK K PG T78 := tab_cons cf_78 (fun ds p d h hp => by
    unfold R78 at h
    split at h
    · split at h
      · rename_i e0 e1 e2 e3
        obtain rfl := inO_eq e2
        obtain rfl := inO_eq e3
        cases h
        obtain ⟨h1, h2, h3, h4, h5, h6⟩ := hp _ rfl
        exact ⟨_, less_cons (hallO_less e0 h1) (less_cons (runsO_less e1 h2) (Less.refl _)), by simp [freeL, freeD, rowR_free, hallD_free], by simp [freeD], look_alone _ _ _ _ _ h3 h4 h5 h6⟩
      · cases h
    · cases h) (T103_102_ok K)
end Go.Ev
end
section
open Go Go.Ev Go.RowKit
namespace Go.Ev
set_option maxRecDepth 100000
set_option linter.all false
def rowU (n : Nat) (f : Nat → Int) : D := .row 1 n fun i => [.val (.int .u8 (f i))]
theorem rowU_free (n : Nat) (f : Nat → Int) : freeD (rowU n f) := by simp [rowU, freeD, freeL]
def cuB (cu : Int) : Bool := decide (0 ≤ cu ∧ cu ≤ 20)
def viewK (h : Hall) (n : Nat) (c : Nat → Camp) (m : Nat) (p : Nat → Int) (cu : Int) : Bool := keepB h n c m p && cuB cu
def viewE (h : Hall) (n : Nat) (c : Nat → Camp) (m : Nat) (p : Nat → Int) (cu : Int) : Int := bif keepB h n c m p then (bif cuB cu then 0 else 3) else obErr h n c m p
theorem obErr_ok {h : Hall} {n : Nat} {c : Nat → Camp} {m : Nat} {p : Nat → Int} (e : obErr h n c m p = 0) : keepB h n c m p = true := by grind [obErr, keepB, plErr, okB]
theorem obErr_bad {h : Hall} {n : Nat} {c : Nat → Camp} {m : Nat} {p : Nat → Int} (e : ¬ obErr h n c m p = 0) : keepB h n c m p = false := by grind [obErr, keepB, plErr, okB]
theorem keepB_ok {h : Hall} {n : Nat} {c : Nat → Camp} {m : Nat} {p : Nat → Int} (e : keepB h n c m p = true) : okB h n c m = true ∧ (breB h n (planR c p)).rule = 0 := by
  simp only [keepB, Bool.and_eq_true, beq_iff_eq] at e
  exact e
theorem breB_time {h : Hall} {n : Nat} {x : Nat → Run} (e : (breB h n x).rule = 0) : (timeB n x).rule = 0 := by
  unfold breB at e
  split at e
  · rename_i h1; exact absurd e h1
  · rename_i h1; exact Classical.not_not.1 h1
theorem keepB_small {h : Hall} {n : Nat} {c : Nat → Camp} {m : Nat} {p : Nat → Int} (e : keepB h n c m p = true) : ∀ i, i < n → smallR (planR c p i) := runsC_small (okB_runs (keepB_ok e).1) (breB_time (keepB_ok e).2)
theorem keepB_cl {h : Hall} {n : Nat} {c : Nat → Camp} {m : Nat} {p : Nat → Int} (e : keepB h n c m p = true) : clOK h := by
  have := (okB_runs (p := p) (keepB_ok e).1).2.2.2.1
  unfold clOK
  omega

theorem view_alone (h : Hall) (n : Nat) (c : Nat → Camp) (m : Nat) (p : Nat → Int) (cu : Int) (hn : n ≤ 100000 ∧ m ≤ 100000 ∧ h.n ≤ 100000 ∧ h.m ≤ 100000) : Alone PG 42 [.agg (hallD h), rowC n c, rowI m p, i6 cu] (.tup [rowU (okN (viewK h n c m p cu) h.n) fun t => lookB h n (planR c p) cu t, i6 (viewE h n c m p cu)]) :=
  Alone.ofF (cl := T78) hm0 T78_ok cf_42 fun K w => by
    refine aw_reg0 (aw_reg (True ∧ ((∀ (i : Nat), i < h.n → [i6 (h.st i)] = [i6 (h.st i)]) ∧ ∀ (i : Nat), i < h.m → [i6 (h.en i)] = [i6 (h.en i)]) ∧ (∀ (i : Nat), i < n → campD (c i) = campD (c i)) ∧ (∀ (i : Nat), i < m → [i6 (p i)] = [i6 (p i)]) ∧ n ≤ (100000 : Nat) ∧ m ≤ (100000 : Nat) ∧ h.n ≤ (100000 : Nat) ∧ h.m ≤ (100000 : Nat)) (by ((try simp only [inRange_i64] at *); (try simp only [implies_true, and_self, true_and, and_true]); (repeat' (with_reducible apply And.intro)) <;> first | exact True.intro | exact fun _ _ => rfl | omega | assumption | (intros; simp [freeL, freeD]; done))) (aw_assoc (aw_reg0 (aw_ifsne (obErr h n c m p) ((0 : Int)) (fun h1 => aw_assoc (aw_reg0 (aw_rets (end_f (D.tup [D.val (Value.slice none (0 : Nat) (0 : Nat)), D.val (Value.int IntKind.i64 (obErr h n c m p))]) ?_)))) (fun h2 => aw_skips (aw_assoc (aw_reg0 (aw_ifsn ((0 : Int) ≤ cu ∧ cu ≤ (20 : Int)) (fun h3 => aw_assoc (aw_reg0 (aw_rets (end_f (D.tup [D.val (Value.slice none (0 : Nat) (0 : Nat)), D.val (Value.int IntKind.i64 (3 : Int))]) ?_)))) (fun h4 => aw_skips (aw_reg (True ∧ (0 : Int) ≤ (↑h.n : Int) ∧ (↑h.n : Int) ≤ (↑h.n : Int) ∧ (↑h.n : Int) ≤ (1048576 : Int) ∧ (1 : Nat) * h.n ≤ (16777216 : Nat)) (by (simp only [inRange_i64, true_and]; omega)) (aw_assoc (aw_reg0 (?_)))))))))))))
    · have e := obErr_bad h1
      exact frz_tup (frzL_cons (frz_bad (by simp [viewK, e])) (frzL_cons (frz_i (by simp [viewE, e])) frzL_nil))
    · have e := obErr_ok h2
      have e' : cuB cu = false := by simp [cuB]; omega
      exact frz_tup (frzL_cons (frz_bad (by simp [viewK, e'])) (frzL_cons (frz_i (by simp [viewE, e, e'])) frzL_nil))
    · have e := obErr_ok h2
      have e1 : viewK h n c m p cu = true := by simp [viewK, cuB, e]; omega
      have e2 : viewE h n c m p cu = 0 := by
        have : cuB cu = true := by simp [cuB]; omega
        simp [viewE, e, this]
      have hsm := keepB_small e
      have hcl := keepB_cl e
      have en : okN (keepB h n c m p) n = n := by rw [e]; rfl
      have e3 : (fun t : Nat => lookB h n (planR c p) cu t) = fun t : Nat => lookB h (okN (keepB h n c m p) n) (planR c p) cu t := by rw [en]
      rw [e1, e2, e3]
      refine aw_loopV (ι := {i : Nat // i ≤ h.n}) hm0 (T78_ok K) (fun z => [(33, i6 z.1)]) (fun z => [(4, .arr h.n (rowsF 1 z.1 (fun t => [.val (.int .u8 (lookB h (okN (keepB h n c m p) n) (planR c p) cu t))]) [.val (.int .u8 0)]))]) (fun z => h.n - z.1) ⟨0, Nat.zero_le h.n⟩ (fun z => ?_) (by
        show _ = lst _ _ [(4, .arr h.n (rowsF 1 0 (fun t => [.val (.int .u8 (lookB h (okN (keepB h n c m p) n) (planR c p) cu t))]) [.val (.int .u8 0)]))] _
        rw [rowsF_01]
        kernel_rfl)
      obtain ⟨i, hi⟩ := z
      refine aw_reg0 (aw_ifsd ((↑i : Int) < (↑h.n : Int)) (fun h5 => aw_skips (aw_blocks (aw_reg0 (aw_end (((True ∧ ((∀ (i : Nat), i < h.n → [i6 (h.st i)] = [i6 (h.st i)]) ∧ ∀ (i : Nat), i < h.m → [i6 (h.en i)] = [i6 (h.en i)]) ∧ (∀ (i : Nat), i < okN (keepB h n c m p) n → runD (planR c p i) = runD (planR c p i)) ∧ clOK h ∧ (∀ (i : Nat), i < okN (keepB h n c m p) n → smallR (planR c p i)) ∧ okN (keepB h n c m p) n ≤ (1000000 : Nat) ∧ (0 : Int) ≤ (↑i : Int) ∧ (↑i : Int) < (↑h.n : Int)) ∧ (0 : Int) ≤ (↑i : Int) ∧ (↑i : Int) < (↑h.n : Int)) ∧ i + (1 : Nat) ≤ h.n) (by (rw [en]; ((try simp only [inRange_i64] at *); (try simp only [implies_true, and_self, true_and, and_true]); (repeat' (with_reducible apply And.intro)) <;> first | exact True.intro | exact fun _ _ => rfl | omega | assumption | (intros; simp [freeL, freeD]; done)))) (blk_normal (seq_normal (aw_end (True ∧ inRange IntKind.i64 ((↑i : Int) + (1 : Int))) (by (simp only [inRange_i64, true_and]; omega)) (round_t 5 ((True ∧ True ∧ (∀ (i : Nat), i < h.n → True ∧ True) ∧ (∀ (i : Nat), i < h.m → True ∧ True) ∧ True) ∧ (∀ (i : Nat), i < n → True ∧ True ∧ True ∧ True ∧ True ∧ True ∧ True ∧ True) ∧ (∀ (i : Nat), i < m → True ∧ True) ∧ (∀ (i : Nat), i < okN (keepB h n c m p) n → True ∧ True ∧ True ∧ True ∧ True ∧ True ∧ True ∧ True ∧ True) ∧ ((∀ (i : Nat), i < okN (keepB h n c m p) n → True ∧ True ∧ True ∧ True ∧ True ∧ True ∧ True ∧ True ∧ True) ∧ True ∧ True) ∧ (True ∧ True ∧ (∀ (i : Nat), i < h.n → True ∧ True) ∧ (∀ (i : Nat), i < h.m → True ∧ True) ∧ True) ∧ (∀ (i : Nat), i < n → True ∧ True ∧ True ∧ True ∧ True ∧ True ∧ True ∧ True) ∧ (∀ (i : Nat), i < m → True ∧ True) ∧ ((∀ (i : Nat), i < okN (keepB h n c m p) n → True ∧ True ∧ True ∧ True ∧ True ∧ True ∧ True ∧ True ∧ True) ∧ True ∧ True) ∧ (∀ (i : Nat), i < okN (keepB h n c m p) n → True ∧ True ∧ True ∧ True ∧ True ∧ True ∧ True ∧ True ∧ True) ∧ (∀ (i : Nat), i < h.n → True ∧ True) ∧ True) (((∀ (i : Nat), i < h.n → True ∧ True) ∧ (∀ (i : Nat), i < h.m → True ∧ True) ∧ True) ∧ (∀ (j : Nat), j < h.n → needD (5 : Nat) (updF (rowsF (1 : Nat) i (fun (t : Nat) => [D.val (Value.int IntKind.u8 (lookB h (okN (keepB h n c m p) n) (planR c p) cu (↑t : Int)))]) [D.val (Value.int IntKind.u8 (0 : Int))]) i [D.val (Value.int IntKind.u8 (lookB h (okN (keepB h n c m p) n) (planR c p) cu (↑i : Int)))] j)) ∧ True) (by (simp)) (by (refine ⟨by simp, fun j _ => need_updF _ (by simp [needD]) (need_rows (by simp [needD]) (by simp [needD])), trivial⟩)) ?_)))))))) (fun h6 => aw_exits (round_exit (blk_exit (seq_normal (aw_reg0 (aw_ret (end_f (D.tup [D.sl (4 : Nat) (0 : Nat) h.n (1 : Nat) none, D.val (Value.int IntKind.i64 (0 : Int))]) ?_))))))))
      · refine round_v ⟨i + 1, by omega⟩ (by show h.n - (i + 1) < h.n - i; omega) ?_
        show _ = lst _ _ [(4, .arr h.n (rowsF 1 (i + 1) (fun t => [.val (.int .u8 (lookB h (okN (keepB h n c m p) n) (planR c p) cu t))]) [.val (.int .u8 0)]))] _
        rw [rowsF_set1 rfl]
        kernel_rfl
      · exact frz_tup (frzL_cons (frz_rows (n := h.n) (m := h.n) (k := 1) (i0 := i) (g := fun t => [D.val (.int .u8 (lookB h (okN (keepB h n c m p) n) (planR c p) cu t))]) (z := [D.val (.int .u8 0)]) (by kernel_rfl) (by omega) (by omega) (by decide) (fun j _ => ⟨rfl, fun d hd => by simp at hd; subst hd; simp [freeD]⟩)) (frzL_cons (frz_free (by simp [freeD])) frzL_nil))

def R42 : List D → Option (Option Prop × D)
  | [d0, d1, d2, d3] => match hallO d0, campsO d1, intsO d2, inO d3 with
    | some (q0, h), some (q1, n, c), some (q2, m, p), some cu => some (some (q0 ∧ q1 ∧ q2 ∧ n ≤ 100000 ∧ m ≤ 100000 ∧ h.n ≤ 100000 ∧ h.m ≤ 100000), .tup [rowU (okN (viewK h n c m p cu) h.n) fun t => lookB h n (planR c p) cu t, i6 (viewE h n c m p cu)])
    | _, _, _, _ => none
  | _ => none
noncomputable def T42 := orCl (aloC 42 R42) T78
theorem T42_ok (K : Cust) : ClOK K PG T42 := tab_cons cf_42 (fun ds p d h hp => by
    unfold R42 at h
    split at h
    · split at h
      · rename_i e0 e1 e2 e3
        obtain rfl := inO_eq e3
        cases h
        obtain ⟨h1, h2, h3, h4⟩ := hp _ rfl
        exact ⟨_, less_cons (hallO_less e0 h1) (less_cons (campsO_less e1 h2) (less_cons (intsO_less e2 h3) (Less.refl _))), by simp [freeL, freeD, rowC_free, rowI_free, hallD_free], by simp [freeD, freeL, rowU_free], view_alone _ _ _ _ _ _ h4⟩
      · cases h
    · cases h) (T78_ok K)
end Go.Ev
end
section
open Go Go.Ev Go.RowKit
namespace Go.Ev
set_option maxRecDepth 100000
set_option linter.all false
theorem frz_rowF {hp : List Blk} {id n m k : Nat} {cap : Option Nat} {g : Nat → List D} (hb : getG hp id = some (.arr m (rowF g k))) (hm : n * k ≤ m) (hk : 0 < k) (hg : ∀ i, i < n → (g i).length = k ∧ ∀ d ∈ g i, freeD d) : FrzP hp (.sl id 0 n k cap) (.row k n g) :=
  frz_arr hb fun i hi j e hj => by
    obtain ⟨h1, h2⟩ := hg i hi
    have hjk : j < k := by rw [← h1]; exact (List.getElem?_eq_some_iff.1 hj).1
    have hle : (i + 1) * k ≤ n * k := Nat.mul_le_mul_right k hi
    rw [Nat.add_mul, Nat.one_mul] at hle
    refine ⟨by omega, ?_⟩
    have e0 : 0 + i * k + j = i * k + j := by omega
    rw [e0]
    have e1 : (i * k + j) / k = i := by rw [Nat.mul_comm, Nat.mul_add_div hk, Nat.div_eq_of_lt hjk]; rfl
    have e2 : (i * k + j) % k = j := by rw [Nat.mul_comm, Nat.mul_add_mod, Nat.mod_eq_of_lt hjk]
    have : rowF g k (i * k + j) = e := by
      unfold rowF
      cases hk1 : Nat.beq k 1
      rotate_left
      · obtain rfl := Nat.eq_of_beq_eq_true hk1
        simp only
        obtain rfl : j = 0 := by omega
        have : i * 1 + 0 = i := by omega
        rw [this, getK_eq, List.getD_eq_getElem?_getD, hj]
        rfl
      · simp only
        rw [e1, e2, getK_eq, List.getD_eq_getElem?_getD, hj]
        rfl
    rw [this]
    exact frz_free (h2 e (List.mem_of_getElem? hj))
theorem frz_row0 {hp : List Blk} {id n m k : Nat} {cap : Option Nat} {g : Nat → List D} (hb : getG hp id = some (.arr m (rowF g k))) (hm : n * k ≤ m) (hk : 0 < k) (hg : ∀ i, i < n → (g i).length = k ∧ ∀ d ∈ g i, freeD d) : FrzP hp (.sl id 0 (0 + n) k cap) (.row k n g) := by
  rw [Nat.zero_add]
  exact frz_rowF hb hm hk hg

theorem ints_alone (n : Nat) (f : Nat → Int) (hn : n ≤ 100000) : Alone PG 16 [rowI n f] (rowI n f) :=
  Alone.ofF (cl := T42) hm0 T42_ok cf_16 fun K w => by
    refine aw_reg0 (aw_reg (True ∧ True ∧ (∀ (i : Nat), i < n → List.length [i6 (f i)] = (1 : Nat) ∧ List.all [i6 (f i)] okCell = true) ∧ (0 : Nat) + n ≤ (1048576 : Nat)) (by ((try simp only [inRange_i64] at *); (try simp only [implies_true, and_self, true_and, and_true]); (repeat' (with_reducible apply And.intro)) <;> first | exact True.intro | exact fun _ _ => rfl | exact fun _ _ => ⟨rfl, rfl⟩ | omega | assumption | (intros; simp [freeL, freeD]; done))) (aw_ret (end_f (D.sl (2 : Nat) (0 : Nat) ((0 : Nat) + n) (1 : Nat) none) ?_)))
    exact frz_row0 (m := 0 + n) (by kernel_rfl) (by omega) (by decide) (fun i _ => ⟨rfl, fun d hd => by simp at hd; subst hd; simp [freeD]⟩)

theorem copied_alone (n : Nat) (f : Nat → Camp) (hn : n ≤ 100000) : Alone PG 15 [rowC n f] (rowC n f) :=
  Alone.ofF (cl := T42) hm0 T42_ok cf_15 fun K w => by
    refine aw_reg0 (aw_reg (True ∧ True ∧ (∀ (i : Nat), i < n → List.length (campD (f i)) = (7 : Nat) ∧ List.all (campD (f i)) okCell = true) ∧ (0 : Nat) + n ≤ (1048576 : Nat)) (by ((try simp only [inRange_i64] at *); (try simp only [implies_true, and_self, true_and, and_true]); (repeat' (with_reducible apply And.intro)) <;> first | exact True.intro | exact fun _ _ => rfl | exact fun _ _ => ⟨rfl, rfl⟩ | omega | assumption | (intros; simp [freeL, freeD]; done))) (aw_ret (end_f (D.sl (2 : Nat) (0 : Nat) ((0 : Nat) + n) (7 : Nat) none) ?_)))
    exact frz_row0 (m := 0 + n * 7) (by kernel_rfl) (by omega) (by decide) (fun i _ => ⟨rfl, fun d hd => by simp [campD] at hd; rcases hd with rfl | rfl | rfl | rfl | rfl | rfl | rfl <;> simp [freeD]⟩)

theorem own_alone (h : Hall) (hn : h.n ≤ 100000 ∧ h.m ≤ 100000) : Alone PG 14 [.agg (hallD h)] (.agg (hallD h)) :=
  Alone.ofF (cl := T42) hm0 T42_ok cf_14 fun K w => by
    refine aw_reg0 (aw_reg ((True ∧ True ∧ (∀ (i : Nat), i < h.n → List.length [i6 (h.st i)] = (1 : Nat) ∧ List.all [i6 (h.st i)] okCell = true) ∧ (0 : Nat) + h.n ≤ (1048576 : Nat)) ∧ True ∧ (∀ (i : Nat), i < h.m → List.length [i6 (h.en i)] = (1 : Nat) ∧ List.all [i6 (h.en i)] okCell = true) ∧ (0 : Nat) + h.m ≤ (1048576 : Nat)) (by ((try simp only [inRange_i64] at *); (try simp only [implies_true, and_self, true_and, and_true]); (repeat' (with_reducible apply And.intro)) <;> first | exact True.intro | exact fun _ _ => rfl | exact fun _ _ => ⟨rfl, rfl⟩ | omega | assumption | (intros; simp [freeL, freeD]; done))) (aw_reg0 (aw_ret (end_f (D.agg [D.val (Value.int IntKind.i64 h.ro), D.val (Value.int IntKind.i64 h.cl), D.sl (6 : Nat) (0 : Nat) ((0 : Nat) + h.n) (1 : Nat) none, D.sl (10 : Nat) (0 : Nat) ((0 : Nat) + h.m) (1 : Nat) none]) ?_))))
    exact frz_agg (frzL_cons (frz_free (by simp [freeD])) (frzL_cons (frz_free (by simp [freeD])) (frzL_cons (frz_row0 (m := 0 + h.n) (by kernel_rfl) (by omega) (by decide) (fun i _ => ⟨rfl, fun d hd => by simp at hd; subst hd; simp [freeD]⟩)) (frzL_cons (frz_row0 (m := 0 + h.m) (by kernel_rfl) (by omega) (by decide) (fun i _ => ⟨rfl, fun d hd => by simp at hd; subst hd; simp [freeD]⟩)) frzL_nil))))

def R16 : List D → Option (Option Prop × D)
  | [d0] => match intsO d0 with
    | some (p, n, f) => some (some (p ∧ n ≤ 100000), rowI n f)
    | _ => none
  | _ => none
noncomputable def T16 := orCl (aloC 16 R16) T42
theorem T16_ok (K : Cust) : ClOK K PG T16 := tab_cons cf_16 (fun ds p d h hp => by
    unfold R16 at h
    split at h
    · split at h
      · rename_i e0
        cases h
        obtain ⟨h1, h2⟩ := hp _ rfl
        exact ⟨_, less_cons (intsO_less e0 h1) (Less.refl _), by simp [freeL, freeD, rowI_free], rowI_free _ _, ints_alone _ _ h2⟩
      · cases h
    · cases h) (T42_ok K)
def R15 : List D → Option (Option Prop × D)
  | [d0] => match campsO d0 with
    | some (p, n, f) => some (some (p ∧ n ≤ 100000), rowC n f)
    | _ => none
  | _ => none
noncomputable def T15 := orCl (aloC 15 R15) T16
theorem T15_ok (K : Cust) : ClOK K PG T15 := tab_cons cf_15 (fun ds p d h hp => by
    unfold R15 at h
    split at h
    · split at h
      · rename_i e0
        cases h
        obtain ⟨h1, h2⟩ := hp _ rfl
        exact ⟨_, less_cons (campsO_less e0 h1) (Less.refl _), by simp [freeL, freeD, rowC_free], rowC_free _ _, copied_alone _ _ h2⟩
      · cases h
    · cases h) (T16_ok K)
def R14 : List D → Option (Option Prop × D)
  | [d0] => match hallO d0 with
    | some (p, h) => some (some (p ∧ h.n ≤ 100000 ∧ h.m ≤ 100000), .agg (hallD h))
    | _ => none
  | _ => none
noncomputable def T14 := orCl (aloC 14 R14) T15
theorem T14_ok (K : Cust) : ClOK K PG T14 := tab_cons cf_14 (fun ds p d h hp => by
    unfold R14 at h
    split at h
    · split at h
      · rename_i e0
        cases h
        obtain ⟨h1, h2⟩ := hp _ rfl
        exact ⟨_, less_cons (hallO_less e0 h1) (Less.refl _), by simp [freeL, freeD, hallD_free], by simp [freeD, hallD_free], own_alone _ h2⟩
      · cases h
    · cases h) (T15_ok K)
end Go.Ev
end
section
open Go Go.Ev Go.RowKit
namespace Go.Ev
set_option linter.all false
end Go.Ev
end
section
open Go Go.Ev Go.RowKit
namespace Go.Ev
set_option maxRecDepth 100000
set_option maxHeartbeats 2000000
set_option linter.all false
end Go.Ev
end
section
open Go Go.Ev Go.RowKit
namespace Go.Ev
set_option maxRecDepth 100000
set_option maxHeartbeats 2000000
set_option linter.all false
theorem late_n {c : Nat → Camp} {p : Nat → Int} {i : Nat} (h : lateB (planR c p i) = false) : (c i).ea + (c i).pr ≤ p i ∧ p i ≤ (c i).la - (c i).ho := by
  have : ¬ (p i < (c i).ea + (c i).pr ∨ p i > (c i).la - (c i).ho) := of_decide_eq_false h
  omega
end Go.Ev
end
section
open Go Go.Ev Go.RowKit
namespace Go.Ev
set_option maxRecDepth 100000
set_option maxHeartbeats 2000000
set_option linter.all false
theorem okB_m {h : Hall} {n : Nat} {c : Nat → Camp} {m : Nat} (e : okB h n c m = true) : m = n := by simp only [okB, Bool.and_eq_true, decide_eq_true_eq] at e; omega
end Go.Ev
end
section
open Go Go.Ev Go.RowKit
namespace Go.Ev
set_option maxRecDepth 100000
set_option maxHeartbeats 2000000
set_option linter.all false
theorem anyI_succ {p : Nat → Bool} {n : Nat} : anyI p (n + 1) = (anyI p n || p n) := by simp [anyI, List.range_succ]
def keepC (h : Hall) (n : Nat) (c : Nat → Camp) (p : Nat → Int) : Prop := h.n ≤ 96 ∧ n ≤ 1000 ∧ 0 ≤ h.cl ∧ h.cl ≤ 6 ∧ ∀ i, i < n → 0 ≤ p i ∧ p i ≤ 1000 ∧ 1 ≤ (c i).ho ∧ (c i).ho ≤ 24 ∧ 0 ≤ (c i).pr ∧ (c i).pr ≤ 24
def w3 (b : Bool) : Int := bif b then 3 else 0
end Go.Ev
end
section
open Go Go.Ev Go.RowKit
namespace Go.Ev
set_option maxRecDepth 100000
set_option maxHeartbeats 2000000
set_option linter.all false
theorem timeB_late {n : Nat} {x : Nat → Run} (e : (timeB n x).rule = 0) : ∀ i, i < n → lateB (x i) = false := by
  intro i hi
  rcases findI_cases (fun i => lateB (x i)) n with ⟨j, hj, h1, h2, h3⟩ | ⟨h1, h2⟩
  · have : (timeB n x).rule = 1 := by unfold timeB; rw [h3, decide_eq_true (by omega)]; rfl
    omega
  · exact h1 i hi
theorem keepB_keepC {h : Hall} {n : Nat} {c : Nat → Camp} {m : Nat} {p : Nat → Int} (e : keepB h n c m p = true) : m = n ∧ keepC h n c p := by
  have e1 := (keepB_ok e).1
  obtain ⟨v1, v2, v3, v4, v5⟩ := okB_runs (p := p) e1
  have hl := timeB_late (breB_time (keepB_ok e).2)
  refine ⟨okB_m e1, v2, v3, v4.1, v4.2, fun i hi => ?_⟩
  have q1 := v5 i hi
  have q2 := late_n (hl i hi)
  have q1' : campB h.n (c i) = true := q1
  simp only [campB, decide_eq_true_eq] at q1'
  omega
end Go.Ev
end
section
open Go Go.Ev Go.RowKit
namespace Go.Ev
set_option maxRecDepth 100000
set_option maxHeartbeats 2000000
set_option linter.all false
def sumN (p : Nat → Int) : Nat → Int
  | 0 => 0
  | n + 1 => sumN p n + p n
theorem sumN_bound {p : Nat → Int} {b : Int} : ∀ (n : Nat), (∀ i, i < n → 0 ≤ p i ∧ p i ≤ b) → 0 ≤ sumN p n ∧ sumN p n ≤ n * b
  | 0, _ => by simp [sumN]
  | n + 1, h => by
    have h1 := sumN_bound n fun i hi => h i (by omega)
    have h2 := h n (by omega)
    have h3 : ((n + 1 : Nat) : Int) * b = n * b + b := by rw [Int.natCast_succ, Int.add_mul, Int.one_mul]
    rw [h3]
    simp only [sumN]
    omega
def costR (r : Run) : Int := r.c.we * (r.first + r.c.ho)
def costC (x : Run) : Prop := 0 ≤ x.c.we ∧ x.c.we ≤ 100 ∧ 0 ≤ x.first + x.c.ho ∧ x.first + x.c.ho ≤ 2000
theorem costC_b {x : Run} (h : costC x) : 0 ≤ costR x ∧ costR x ≤ 200000 := by
  obtain ⟨h1, h2, h3, h4⟩ := h
  refine ⟨Int.mul_nonneg h1 h3, ?_⟩
  have := Int.mul_le_mul h2 h4 h3 (by omega : (0 : Int) ≤ 100)
  unfold costR
  omega
theorem sum_b {n : Nat} {x : Nat → Run} (hn : n ≤ 1000) (h : ∀ i, i < n → costC (x i)) (i : Nat) (hi : i ≤ n) : 0 ≤ sumN (fun i => costR (x i)) i ∧ sumN (fun i => costR (x i)) i ≤ 200000000 := by
  have := sumN_bound (p := fun i => costR (x i)) (b := 200000) i fun j hj => costC_b (h j (by omega))
  omega

theorem sum_alone (n : Nat) (x : Nat → Run) (hn : n ≤ 1000) (h : ∀ i, i < n → costC (x i)) : Alone PG 60 [rowR n x] (i6 (sumN (fun i => costR (x i)) n)) :=
  Alone.ofW (cl := T14) (raw := false) hm0 T14_ok cf_60 fun K w => by
    refine aw_reg0 (aw_reg0 (aw_assoc (aw_reg0 (?_))))
    refine aw_loopV (ι := {z : Nat × Int // z.1 ≤ n ∧ z.2 = sumN (fun i => costR (x i)) z.1}) hm0 (T14_ok K) (fun z => [(8, i6 z.1.1), (3, i6 z.1.2)]) (fun _ => []) (fun z => n - z.1.1) ⟨(0, 0), Nat.zero_le n, rfl⟩ (fun z => ?_)
    obtain ⟨⟨i, v⟩, hi, hv⟩ := z
    simp only at hi hv
    have hb := sum_b hn h i hi
    refine aw_reg0 (aw_ifsd ((↑i : Int) < (↑n : Int)) (fun h1 => aw_skips (aw_blocks (aw_reg (True ∧ (0 : Int) ≤ (↑i : Int) ∧ (↑i : Int) < (↑n : Int)) (by (have q := h i (by omega); have q2 := costC_b q; unfold costC at q; unfold costR at q2; simp only [inRange_i64, true_and]; omega)) (aw_end ((True ∧ inRange IntKind.i64 ((x i).first + (x i).c.ho) ∧ inRange IntKind.i64 ((x i).c.we * ((x i).first + (x i).c.ho))) ∧ inRange IntKind.i64 (v + (x i).c.we * ((x i).first + (x i).c.ho))) (by (have q := h i (by omega); have q2 := costC_b q; unfold costC at q; unfold costR at q2; simp only [inRange_i64, true_and]; omega)) (blk_normal (seq_normal (aw_end (True ∧ inRange IntKind.i64 ((↑i : Int) + (1 : Int))) (by (have q := h i (by omega); have q2 := costC_b q; unfold costC at q; unfold costR at q2; simp only [inRange_i64, true_and]; omega)) (round_t 1 ((∀ (i : Nat), i < n → True ∧ True ∧ True ∧ True ∧ True ∧ True ∧ True ∧ True ∧ True) ∧ (∀ (i : Nat), i < n → True ∧ True ∧ True ∧ True ∧ True ∧ True ∧ True ∧ True ∧ True) ∧ True) (True) (by (simp)) (by (exact True.intro)) ?_)))))))) (fun h2 => aw_exits (round_exit (blk_exit (seq_normal (aw_reg0 (aw_ret (end_i (v) ?_))))))))
    · exact round_v ⟨(i + 1, v + (x i).c.we * ((x i).first + (x i).c.ho)), by show i + 1 ≤ n; omega, by show _ = sumN _ i + costR (x i); rw [hv]; rfl⟩ (by show n - (i + 1) < n - i; omega)
    · have : i = n := by omega
      subst this
      exact hv

def R60 : List D → Option (Option Prop × D)
  | [d0] => match runsO d0 with
    | some (q, n, x) => some (some (q ∧ n ≤ 1000 ∧ ∀ i, i < n → costC (x i)), i6 (sumN (fun i => costR (x i)) n))
    | _ => none
  | _ => none
noncomputable def T60 := orCl (aloC 60 R60) T14
theorem T60_ok (K : Cust) : ClOK K PG T60 := tab_cons cf_60 (fun ds p d h hp => by
    unfold R60 at h
    split at h
    · split at h
      · rename_i e0
        cases h
        obtain ⟨h1, h2, h3⟩ := hp _ rfl
        exact ⟨_, less_cons (runsO_less e0 h1) (Less.refl _), by simp [freeL, freeD, rowR_free], by simp [freeD], sum_alone _ _ h2 h3⟩
      · cases h
    · cases h) (T14_ok K)
def checkB (h : Hall) (n : Nat) (c : Nat → Camp) (m : Nat) (p : Nat → Int) : Bre := bif okB h n c m then (bif (breB h n (planR c p)).rule == 0 then bre0 else breB h n (planR c p)) else bre0

theorem check_plan (h : Hall) (n : Nat) (c : Nat → Camp) (m : Nat) (p : Nat → Int) (hn : h.n ≤ 100000 ∧ h.m ≤ 100000 ∧ n ≤ 100000 ∧ m ≤ 100000) : Alone PG 21 [.agg (hallD h), rowC n c, rowI m p] (.tup [.agg (breD (checkB h n c m p)), i6 (obErr h n c m p)]) :=
  Alone.ofW (cl := T60) (raw := false) hm0 T60_ok cf_21 fun K w => by
    refine aw_reg0 (aw_reg (True ∧ ((∀ (i : Nat), i < h.n → [i6 (h.st i)] = [i6 (h.st i)]) ∧ ∀ (i : Nat), i < h.m → [i6 (h.en i)] = [i6 (h.en i)]) ∧ (∀ (i : Nat), i < n → campD (c i) = campD (c i)) ∧ (∀ (i : Nat), i < m → [i6 (p i)] = [i6 (p i)]) ∧ n ≤ (100000 : Nat) ∧ m ≤ (100000 : Nat) ∧ h.n ≤ (100000 : Nat) ∧ h.m ≤ (100000 : Nat)) (by (simp <;> omega)) (aw_assoc (aw_reg0 (aw_ifsne (plErr h n c m) ((0 : Int)) (fun h1 => aw_assoc (aw_reg0 (aw_rets (end_d (D.tup [D.agg [D.val (Value.int IntKind.u8 (0 : Int)), D.val (Value.int IntKind.i64 (0 : Int)), D.val (Value.int IntKind.i64 (0 : Int)), D.val (Value.int IntKind.i64 (0 : Int))], D.val (Value.int IntKind.i64 (plErr h n c m))]) ?_)))) (fun h2 => aw_skips (aw_assoc (aw_reg (True ∧ ((∀ (i : Nat), i < h.n → [i6 (h.st i)] = [i6 (h.st i)]) ∧ ∀ (i : Nat), i < h.m → [i6 (h.en i)] = [i6 (h.en i)]) ∧ (∀ (i : Nat), i < okN (okB h n c m) n → runD (planR c p i) = runD (planR c p i)) ∧ runsC h (okN (okB h n c m) n) (planR c p)) (by (have e := plErr_ok (by assumption); rw [e]; exact ⟨trivial, ⟨fun _ _ => rfl, fun _ _ => rfl⟩, fun _ _ => rfl, okB_runs e⟩)) (aw_assoc (aw_reg0 (aw_ifsne ((breB h (okN (okB h n c m) n) (planR c p)).rule) ((0 : Int)) (fun h3 => aw_assoc (aw_reg0 (aw_rets (end_d (D.tup [D.agg [D.val (Value.int IntKind.u8 (breB h (okN (okB h n c m) n) (planR c p)).rule), D.val (Value.int IntKind.i64 (breB h (okN (okB h n c m) n) (planR c p)).a), D.val (Value.int IntKind.i64 (breB h (okN (okB h n c m) n) (planR c p)).b), D.val (Value.int IntKind.i64 (breB h (okN (okB h n c m) n) (planR c p)).hour)], D.val (Value.int IntKind.i64 (100 : Int))]) ?_)))) (fun h4 => aw_skips (aw_reg0 (aw_ret (end_d (D.tup [D.agg [D.val (Value.int IntKind.u8 (0 : Int)), D.val (Value.int IntKind.i64 (0 : Int)), D.val (Value.int IntKind.i64 (0 : Int)), D.val (Value.int IntKind.i64 (0 : Int))], D.val (Value.int IntKind.i64 (0 : Int))]) ?_))))))))))))))
    · have e := plErr_bad h1
      simp [checkB, obErr, e, bre0, breD]
    · have e := plErr_ok h2
      simp only [e, okN, cond_true] at h3
      have h3' : ((breB h n (planR c p)).rule == 0) = false := by simpa using h3
      simp [checkB, obErr, e, h3', okN, breD]
    · have e := plErr_ok h2
      simp only [e, okN, cond_true] at h4
      simp [checkB, obErr, e, h4, bre0, breD]

def R21 : List D → Option (Option Prop × D)
  | [d0, d1, d2] => match hallO d0, campsO d1, intsO d2 with
    | some (q0, h), some (q1, n, c), some (q2, m, p) => some (some (q0 ∧ q1 ∧ q2 ∧ (h.n ≤ 100000 ∧ h.m ≤ 100000 ∧ n ≤ 100000 ∧ m ≤ 100000)), .tup [.agg (breD (checkB h n c m p)), i6 (obErr h n c m p)])
    | _, _, _ => none
  | _ => none
noncomputable def T21 := orCl (aloC 21 R21) T60
theorem T21_ok (K : Cust) : ClOK K PG T21 := tab_cons cf_21 (fun ds p d h hp => by
    unfold R21 at h
    split at h
    · split at h
      · rename_i e0 e1 e2
        cases h
        obtain ⟨h1, h2, h3, h4⟩ := hp _ rfl
        exact ⟨_, less_cons (hallO_less e0 h1) (less_cons (campsO_less e1 h2) (less_cons (intsO_less e2 h3) (Less.refl _))), by simp [freeL, freeD, rowC_free, rowI_free, hallD_free], by simp [freeD, freeL, breD_free], check_plan _ _ _ _ _ h4⟩
      · cases h
    · cases h) (T60_ok K)
end Go.Ev
end
section
open Go Go.Ev Go.RowKit
namespace Go.Ev
set_option maxRecDepth 100000
set_option maxHeartbeats 2000000
set_option linter.all false
end Go.Ev
end
section
open Go Go.Ev Go.RowKit
namespace Go.Ev
set_option maxRecDepth 100000
set_option maxHeartbeats 2000000
set_option linter.all false
def keyI (x : Nat → Run) (v : Int) : Int := (x v.toNat).first - (x v.toNat).c.pr
def shiftA (s : Nat → Int) (i j t : Nat) : Int := if t < j then s t else if t = j then s i else if t ≤ i then s (t - 1) else s t
def insGo (key : Int → Int) (s : Nat → Int) (v : Int) : Nat → Nat
  | 0 => 0
  | j + 1 => bif decide (key v < key (s j)) then insGo key s v j else j + 1
def sortI (key : Int → Int) (c : Nat → Int) : Nat → Nat → Int
  | 0 => c
  | i + 1 => shiftA (sortI key c i) i (insGo key (sortI key c i) (sortI key c i i) i)
end Go.Ev
end
section
namespace Go.Ev
/-! ### Loops whose rounds need a block more than was there before (a slice that is nil at first, and then grows) -/
section
variable {K : Cust} {P : Program} {w0 : World} {ρ0 : List Own} {hp0 : List Blk} {cl : FuncId → List D → List Blk → Nat → Option Out} {s : St} {Q : Ex → St → Prop}
noncomputable def grown (n : Nat) (s : St) : St := ⟨s.p, s.sl, s.hp ++ deads n, s.base, s.wr⟩
theorem Wk.grow (n : Nat) : Wk K w0 ρ0 hp0 s (grown n s) := fun _ _ _ h => ⟨_, h.grow n⟩
theorem aw_loopG {ι : Type} (n : Nat) (hm : P.follows .mixedOrders = true) (hcl : ClOK K P cl) {b r : ACode} {j : Nat} (car : ι → List (Nat × D)) (bl : ι → List (Nat × Blk)) (μ : ι → Nat) (i : ι)
    (round : ∀ i, AW cl (LoopA K P w0 ρ0 hp0) b (lst b (car i) (bl i) (grown n s)) (RoundP K w0 ρ0 hp0 (fun i => lst b (car i) (bl i) (grown n s)) μ i (blkP j (seqP cl (LoopA K P w0 ρ0 hp0) r Q))))
    (he : fgt (lessL (csL (car i)) (dstC b)) (grown n s) = lst b (car i) (bl i) (grown n s) := by kernel_rfl) : AW cl (LoopA K P w0 ρ0 hp0) (.seq (.block j (.loop b)) r) s Q :=
  aw_loopW hm hcl (fun i => lst b (car i) (bl i) (grown n s)) μ i round ((Wk.grow n).trans (he ▸ Wk.fgt _ _))
end
end Go.Ev
end
section
namespace Go.Ev
section
variable {K : Cust} {P : Program} {w0 : World} {ρ0 : List Own} {hp0 : List Blk} {s s0 : St} {Q : Ex → St → Prop}
/-- at the end of a round a block is told anew -/
theorem round_rb {ι : Type} {st : ι → St} {μ : ι → Nat} {i : ι} (id : Nat) (xp x' : Blk) (hx : ∀ (K : Cust) (w : World) (M : World) (ρ : List Own) (o : Own), RepB K w M ρ o xp → RepB K w M ρ o x')
    (h : RoundP K w0 ρ0 hp0 st μ i Q .normal (reb id x' s)) (ep : getG s.hp id = some xp := by kernel_rfl) (hb : Nat.ble s.base id = true := by kernel_rfl) : RoundP K w0 ρ0 hp0 st μ i Q .normal s := by
  rw [getG_eq] at ep
  have epd : s.hp.getD id .dead = xp := by rw [List.getD_eq_getElem?_getD, ep]; rfl
  exact round_wk (Wk.reblk (id := id) (x' := x') (Nat.le_of_ble_eq_true hb) fun w M ρ o hr => hx K w M ρ o (epd ▸ hr)) h
theorem cells_arr {cs : List D} {n : Nat} {f : Nat → D} (hn : cs.length = n) (h : ∀ j, j < n → getK cs j = f j) : ∀ (K : Cust) (w : World) (M : World) (ρ : List Own) (o : Own), RepB K w M ρ o (.cells cs) → RepB K w M ρ o (.arr n f) := fun K w M ρ o hr => by
  have e : cs = tabL n f := tabL_ext hn fun j hj => by
    rw [← h j hj, getK_eq, List.getD_eq_getElem?_getD, List.getElem?_eq_getElem (by omega)]
    rfl
  subst e
  exact RepB_flat.1 hr
theorem arr_arr {m n : Nat} {f g : Nat → D} (hn : m = n) (h : ∀ j, j < n → f j = g j) : ∀ (K : Cust) (w : World) (M : World) (ρ : List Own) (o : Own), RepB K w M ρ o (.arr m f) → RepB K w M ρ o (.arr n g) := by
  subst hn
  exact blk_congr h
end
end Go.Ev
end
