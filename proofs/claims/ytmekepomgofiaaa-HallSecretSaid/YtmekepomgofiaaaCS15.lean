import Derived.Test.YtmekepomgofiaaaCS14
set_option linter.all false
section
open Go Go.Ev Go.RowKit
namespace Go.Ev
set_option maxRecDepth 100000
set_option linter.all false
def campB (n : Nat) (c : Camp) : Bool := decide (0 ≤ c.cu ∧ c.cu ≤ 20 ∧ 0 ≤ c.pr ∧ c.pr ≤ 24 ∧ 1 ≤ c.ho ∧ c.ho ≤ 24 ∧ 0 ≤ c.en ∧ c.en ≤ 1000 ∧ 0 ≤ c.we ∧ c.we ≤ 100 ∧ 0 ≤ c.ea ∧ c.ea ≤ c.la ∧ c.la ≤ n)
def badB (x : Int) : Bool := !decide (0 ≤ x ∧ x ≤ 1000)
def hallB (h : Hall) : Bool := decide (1 ≤ (h.n : Int) ∧ (h.n : Int) ≤ 96 ∧ (h.m : Int) = h.n) && (!anyI (fun i => badB (h.st i)) h.n && (!anyI (fun i => badB (h.en i)) h.m && decide (1 ≤ h.ro ∧ h.ro ≤ 4 ∧ 0 ≤ h.cl ∧ h.cl ≤ 6)))
def campsB (h : Hall) (n : Nat) (c : Nat → Camp) : Bool := hallB h && (decide (n ≤ 16) && !anyI (fun i => !campB h.n (c i)) n)

theorem isCamp_alone (h : Hall) (c : Camp) : Alone PG 54 [.agg (hallD h), .agg (campD c)] (bD (campB h.n c)) :=
  Alone.ofW (cl := T50) (raw := false) hm0 T50_ok cf_54 fun K w => by
    refine aw_reg0 (aw_opens (awr_testd 4 (8 : Nat) (True) trivial ((0 : Int) ≤ c.cu ∧ c.cu ≤ (20 : Int)) (fun h1 => awr_testd 5 (13 : Nat) (True) trivial ((0 : Int) ≤ c.pr ∧ c.pr ≤ (24 : Int)) (fun h2 => awr_testd 5 (18 : Nat) (True) trivial ((1 : Int) ≤ c.ho ∧ c.ho ≤ (24 : Int)) (fun h3 => awr_testd 5 (23 : Nat) (True) trivial ((0 : Int) ≤ c.en ∧ c.en ≤ (1000 : Int)) (fun h4 => awr_testd 5 (28 : Nat) (True) trivial ((0 : Int) ≤ c.we ∧ c.we ≤ (100 : Int)) (fun h5 => awr_testd 7 (35 : Nat) (True) trivial ((0 : Int) ≤ c.ea ∧ c.ea ≤ c.la) (fun h6 => awr_end0 (aw_ret (end_b (decide (c.la ≤ (↑h.n : Int))) ?_))) (fun h7 => awr_end0 (aw_ret (end_b (false) ?_)))) (fun h8 => awr_end0 (aw_ret (end_b (false) ?_)))) (fun h9 => awr_end0 (aw_ret (end_b (false) ?_)))) (fun h10 => awr_end0 (aw_ret (end_b (false) ?_)))) (fun h11 => awr_end0 (aw_ret (end_b (false) ?_)))) (fun h12 => awr_end0 (aw_ret (end_b (false) ?_)))))
    all_goals (simp_all [campB]; try omega)

def R54 : List D → Option (Option Prop × D)
  | [d0, d1] => match hallO d0, campO d1 with
    | some (p, h), some c => some (some p, bD (campB h.n c))
    | _, _ => none
  | _ => none
noncomputable def T54 := orCl (aloC 54 R54) T50
theorem T54_ok (K : Cust) : ClOK K PG T54 := tab_cons cf_54 (fun ds p d h hp => by
    unfold R54 at h
    split at h
    · split at h
      · rename_i e0 e1
        obtain rfl := campO_eq e1
        cases h
        exact ⟨_, less_cons (hallO_less e0 (hp _ rfl)) (Less.refl _), by simp [freeL, freeD, campD_free, hallD_free], by simp [freeD], isCamp_alone _ _⟩
      · cases h
    · cases h) (T50_ok K)
theorem ix48 (n : Nat) (x : Nat → Int) (hn : n ≤ 1000000) : Alone PG 66 [rowI n x, .fn 48 [] []] (i6 (findI (fun i => badB (x i)) n)) :=
  Alone.ofW (cl := T54) (raw := false) hm0 T54_ok cf_66 fun K w => by
    refine aw_reg0 (aw_assoc (aw_reg0 (?_)))
    refine aw_loopV (ι := {i : Nat // i ≤ n ∧ ∀ j, j < i → (badB (x j)) = false}) hm0 (T54_ok K) (fun z => [(8, i6 z.1)]) (fun _ => []) (fun z => n - z.1) ⟨0, Nat.zero_le n, fun j hj => by omega⟩ (fun z => ?_)
    obtain ⟨i, hin, hall⟩ := z
    
    refine aw_reg0 (aw_ifsd ((↑i : Int) < (↑n : Int)) (fun h1 => aw_skips (aw_blocks (aw_reg0 (aw_reg (True ∧ (0 : Int) ≤ (↑i : Int) ∧ (↑i : Int) < (↑n : Int)) (by (simp only [inRange_i64, true_and]; omega)) (aw_ifn ((0 : Int) ≤ x i ∧ x i ≤ (1000 : Int)) (fun h2 => aw_reg0 (aw_ret (blk_ret (seq_ret (round_ret (blk_ret (seq_ret (end_i ((↑i : Int)) ?_)))))))) (fun h3 => aw_skip (blk_normal (seq_normal (aw_end (True ∧ inRange IntKind.i64 ((↑i : Int) + (1 : Int))) (by (simp only [inRange_i64, true_and]; omega)) (round_t 1 ((∀ (i : Nat), i < n → True ∧ True) ∧ (True ∧ True) ∧ (∀ (i : Nat), i < n → True ∧ True) ∧ True) (True) (by (simp)) (by trivial) ?_)))))))))) (fun h4 => aw_exits (round_exit (blk_exit (seq_normal (aw_reg0 (aw_ret (end_i ((-1 : Int)) ?_))))))))
    · exact (findI_at (p := fun i => badB (x i)) (by omega) (by simp_all [badB]; try omega) hall).symm
    · exact round_v ⟨i + 1, by omega, fun j hj => by
        rcases Nat.lt_or_ge j i with h | h
        · exact hall j h
        · have : j = i := by omega
          subst this; simp_all [badB]; try omega⟩ (by show n - (i + 1) < n - i; omega)
    · have hin' : i = n := by omega
      subst hin'
      exact (findI_none hall).symm

theorem ix50 (n : Nat) (x : Nat → Int) (hn : n ≤ 1000000) : Alone PG 66 [rowI n x, .fn 50 [] []] (i6 (findI (fun i => badB (x i)) n)) :=
  Alone.ofW (cl := T54) (raw := false) hm0 T54_ok cf_66 fun K w => by
    refine aw_reg0 (aw_assoc (aw_reg0 (?_)))
    refine aw_loopV (ι := {i : Nat // i ≤ n ∧ ∀ j, j < i → (badB (x j)) = false}) hm0 (T54_ok K) (fun z => [(8, i6 z.1)]) (fun _ => []) (fun z => n - z.1) ⟨0, Nat.zero_le n, fun j hj => by omega⟩ (fun z => ?_)
    obtain ⟨i, hin, hall⟩ := z
    
    refine aw_reg0 (aw_ifsd ((↑i : Int) < (↑n : Int)) (fun h1 => aw_skips (aw_blocks (aw_reg0 (aw_reg (True ∧ (0 : Int) ≤ (↑i : Int) ∧ (↑i : Int) < (↑n : Int)) (by (simp only [inRange_i64, true_and]; omega)) (aw_ifn ((0 : Int) ≤ x i ∧ x i ≤ (1000 : Int)) (fun h2 => aw_reg0 (aw_ret (blk_ret (seq_ret (round_ret (blk_ret (seq_ret (end_i ((↑i : Int)) ?_)))))))) (fun h3 => aw_skip (blk_normal (seq_normal (aw_end (True ∧ inRange IntKind.i64 ((↑i : Int) + (1 : Int))) (by (simp only [inRange_i64, true_and]; omega)) (round_t 1 ((∀ (i : Nat), i < n → True ∧ True) ∧ (True ∧ True) ∧ (∀ (i : Nat), i < n → True ∧ True) ∧ True) (True) (by (simp)) (by trivial) ?_)))))))))) (fun h4 => aw_exits (round_exit (blk_exit (seq_normal (aw_reg0 (aw_ret (end_i ((-1 : Int)) ?_))))))))
    · exact (findI_at (p := fun i => badB (x i)) (by omega) (by simp_all [badB]; try omega) hall).symm
    · exact round_v ⟨i + 1, by omega, fun j hj => by
        rcases Nat.lt_or_ge j i with h | h
        · exact hall j h
        · have : j = i := by omega
          subst this; simp_all [badB]; try omega⟩ (by show n - (i + 1) < n - i; omega)
    · have hin' : i = n := by omega
      subst hin'
      exact (findI_none hall).symm

def R66_48 : List D → Option (Option Prop × D)
  | [d0, .fn 48 [] []] => match intsO d0 with
    | some (p, n, x) => some (some (p ∧ n ≤ 1000000), i6 (findI (fun i => badB (x i)) n))
    | _ => none
  | _ => none
noncomputable def T66_48 := orCl (aloC 66 R66_48) T54
theorem T66_48_ok (K : Cust) : ClOK K PG T66_48 := tab_cons cf_66 (fun ds p d h hp => by
    unfold R66_48 at h
    split at h
    · split at h
      · rename_i e0
        cases h
        obtain ⟨h1, h2⟩ := hp _ rfl
        exact ⟨_, less_cons (intsO_less e0 h1) (Less.refl _), by simp [freeL, freeD, rowI_free], by simp [freeD], ix48 _ _ h2⟩
      · cases h
    · cases h) (T54_ok K)
def R66_50 : List D → Option (Option Prop × D)
  | [d0, .fn 50 [] []] => match intsO d0 with
    | some (p, n, x) => some (some (p ∧ n ≤ 1000000), i6 (findI (fun i => badB (x i)) n))
    | _ => none
  | _ => none
noncomputable def T66_50 := orCl (aloC 66 R66_50) T66_48
theorem T66_50_ok (K : Cust) : ClOK K PG T66_50 := tab_cons cf_66 (fun ds p d h hp => by
    unfold R66_50 at h
    split at h
    · split at h
      · rename_i e0
        cases h
        obtain ⟨h1, h2⟩ := hp _ rfl
        exact ⟨_, less_cons (intsO_less e0 h1) (Less.refl _), by simp [freeL, freeD, rowI_free], by simp [freeD], ix50 _ _ h2⟩
      · cases h
    · cases h) (T66_48_ok K)
theorem any48 (n : Nat) (x : Nat → Int) (hn : n ≤ 1000000) : Alone PG 52 [rowI n x, .fn 48 [] []] (bD (anyI (fun i => badB (x i)) n)) :=
  Alone.ofW (cl := T66_50) (raw := false) hm0 T66_50_ok cf_52 fun K w => by
    refine aw_reg0 (aw_reg (True ∧ (∀ (i : Nat), i < n → [i6 (x i)] = [i6 (x i)]) ∧ n ≤ (1000000 : Nat)) (by ((try simp only [inRange_i64] at *); (repeat' apply And.intro) <;> first | exact True.intro | exact fun _ _ => rfl | omega | assumption | (intros; simp [freeL, freeD]))) (aw_ret (end_b (decide (findI (fun (i : Nat) => badB (x i)) n ≥ (0 : Int))) ?_)))
    exact findI_any

theorem any50 (n : Nat) (x : Nat → Int) (hn : n ≤ 1000000) : Alone PG 52 [rowI n x, .fn 50 [] []] (bD (anyI (fun i => badB (x i)) n)) :=
  Alone.ofW (cl := T66_50) (raw := false) hm0 T66_50_ok cf_52 fun K w => by
    refine aw_reg0 (aw_reg (True ∧ (∀ (i : Nat), i < n → [i6 (x i)] = [i6 (x i)]) ∧ n ≤ (1000000 : Nat)) (by ((try simp only [inRange_i64] at *); (repeat' apply And.intro) <;> first | exact True.intro | exact fun _ _ => rfl | omega | assumption | (intros; simp [freeL, freeD]))) (aw_ret (end_b (decide (findI (fun (i : Nat) => badB (x i)) n ≥ (0 : Int))) ?_)))
    exact findI_any

def R52_48 : List D → Option (Option Prop × D)
  | [d0, .fn 48 [] []] => match intsO d0 with
    | some (p, n, x) => some (some (p ∧ n ≤ 1000000), bD (anyI (fun i => badB (x i)) n))
    | _ => none
  | _ => none
noncomputable def T52_48 := orCl (aloC 52 R52_48) T66_50
theorem T52_48_ok (K : Cust) : ClOK K PG T52_48 := tab_cons cf_52 (fun ds p d h hp => by
    unfold R52_48 at h
    split at h
    · split at h
      · rename_i e0
        cases h
        obtain ⟨h1, h2⟩ := hp _ rfl
        exact ⟨_, less_cons (intsO_less e0 h1) (Less.refl _), by simp [freeL, freeD, rowI_free], by simp [freeD], any48 _ _ h2⟩
      · cases h
    · cases h) (T66_50_ok K)
def R52_50 : List D → Option (Option Prop × D)
  | [d0, .fn 50 [] []] => match intsO d0 with
    | some (p, n, x) => some (some (p ∧ n ≤ 1000000), bD (anyI (fun i => badB (x i)) n))
    | _ => none
  | _ => none
noncomputable def T52_50 := orCl (aloC 52 R52_50) T52_48
theorem T52_50_ok (K : Cust) : ClOK K PG T52_50 := tab_cons cf_52 (fun ds p d h hp => by
    unfold R52_50 at h
    split at h
    · split at h
      · rename_i e0
        cases h
        obtain ⟨h1, h2⟩ := hp _ rfl
        exact ⟨_, less_cons (intsO_less e0 h1) (Less.refl _), by simp [freeL, freeD, rowI_free], by simp [freeD], any50 _ _ h2⟩
      · cases h
    · cases h) (T52_48_ok K)
theorem checkHall_alone (h : Hall) (h0 : h.n ≤ 1000000 ∧ h.m ≤ 1000000) : Alone PG 17 [.agg (hallD h)] (i6 (bif hallB h then 0 else 2)) :=
  Alone.ofW (cl := T52_50) (raw := false) hm0 T52_50_ok cf_17 fun K w => by
    refine aw_reg0 (aw_reg0 (aw_reg0 (aw_opens (awr_testd 5 (9 : Nat) (True) trivial ((1 : Int) ≤ (↑h.n : Int) ∧ (↑h.n : Int) ≤ (96 : Int)) (fun h1 => awr_teste 9 (18 : Nat) (True) trivial ((↑h.m : Int)) ((↑h.n : Int)) (fun h2 => awr_testq 7 (25 : Nat) (True ∧ (∀ (i : Nat), i < h.n → [i6 (h.st i)] = [i6 (h.st i)]) ∧ h.n ≤ (1000000 : Nat)) (by ((try simp only [inRange_i64] at *); (repeat' apply And.intro) <;> first | exact True.intro | exact fun _ _ => rfl | omega | assumption | (intros; simp [freeL, freeD]))) (!anyI (fun (i : Nat) => badB (h.st i)) h.n) (fun h3 => awr_testq 7 (32 : Nat) (True ∧ (∀ (i : Nat), i < h.m → [i6 (h.en i)] = [i6 (h.en i)]) ∧ h.m ≤ (1000000 : Nat)) (by ((try simp only [inRange_i64] at *); (repeat' apply And.intro) <;> first | exact True.intro | exact fun _ _ => rfl | omega | assumption | (intros; simp [freeL, freeD]))) (!anyI (fun (i : Nat) => badB (h.en i)) h.m) (fun h4 => awr_testd 5 (37 : Nat) (True) trivial ((1 : Int) ≤ h.ro ∧ h.ro ≤ (4 : Int)) (fun h5 => awr_end0 (aw_ret (end_i (bif decide ((0 : Int) ≤ h.cl ∧ h.cl ≤ (6 : Int)) then (0 : Int) else (2 : Int)) ?_))) (fun h6 => awr_end0 (aw_ret (end_i ((2 : Int)) ?_)))) (fun h7 => awr_end0 (aw_ret (end_i ((2 : Int)) ?_)))) (fun h8 => awr_end0 (aw_ret (end_i ((2 : Int)) ?_)))) (fun h9 => awr_end0 (aw_ret (end_i ((2 : Int)) ?_)))) (fun h10 => awr_end0 (aw_ret (end_i ((2 : Int)) ?_)))))))
    all_goals ((try simp only [intL_i6] at *); grind [hallB])

def R17 : List D → Option (Option Prop × D)
  | [d0] => match hallO d0 with
    | some (p, h) => some (some (p ∧ h.n ≤ 1000000 ∧ h.m ≤ 1000000), i6 (bif hallB h then 0 else 2))
    | _ => none
  | _ => none
noncomputable def T17 := orCl (aloC 17 R17) T52_50
theorem T17_ok (K : Cust) : ClOK K PG T17 := tab_cons cf_17 (fun ds p d h hp => by
    unfold R17 at h
    split at h
    · split at h
      · rename_i e0
        cases h
        obtain ⟨h1, h2⟩ := hp _ rfl
        exact ⟨_, less_cons (hallO_less e0 h1) (Less.refl _), by simp [freeL, freeD, hallD_free], by simp [freeD], checkHall_alone _ h2⟩
      · cases h
    · cases h) (T52_50_ok K)
theorem wrongC_alone (h : Hall) (c : Camp) : Alone PG 53 [.agg (campD c), .ref (hallD h) 0] (bD (!campB h.n c)) :=
  Alone.ofW (cl := T17) (raw := false) hm0 T17_ok cf_53 fun K w => by
    refine aw_reg0 (aw_reg (True ∧ (∀ (i : Nat), i < h.n → [i6 (h.st i)] = [i6 (h.st i)]) ∧ ∀ (i : Nat), i < h.m → [i6 (h.en i)] = [i6 (h.en i)]) (by ((try simp only [inRange_i64] at *); (repeat' apply And.intro) <;> first | exact True.intro | exact fun _ _ => rfl | omega | assumption | (intros; simp [freeL, freeD]))) (aw_ret (end_b (!campB h.n c) ?_)))
    all_goals (simp_all; try omega)

def hallR : D → Option (Prop × Hall)
  | .ref l 0 => hallL l
  | _ => none
theorem lessC {ds ds' : List D} (h : Less ds ds') : LessD (.ref ds 0) (.ref ds' 0) := fun K M ρ v hv => by
  simp only [Rep] at *
  obtain ⟨b, o, h1, h2⟩ := hv
  refine ⟨b, o, h1, ?_⟩
  have key : ∀ {ds : List D} {o : Nat}, RepC K M ρ ds b o → ∃ vs, RepL K M ρ ds vs ∧ ∀ (i : Nat) (x : Value), vs[i]? = some x → M.cell? ⟨b, o + i, none⟩ = some x := by
    intro ds
    induction ds with
    | nil => intro o _; exact ⟨[], by simp [RepL], fun i x hi => by simp at hi⟩
    | cons d ds ih =>
      intro o hc
      simp only [RepC] at hc
      obtain ⟨⟨x, g1, g2⟩, g3⟩ := hc
      obtain ⟨vs, k1, k2⟩ := ih g3
      refine ⟨x :: vs, by simp only [RepL]; exact ⟨x, vs, rfl, g2, k1⟩, fun i y hi => ?_⟩
      cases i with
      | zero => simp at hi; subst hi; exact g1
      | succ i => rw [show o + (i + 1) = o + 1 + i by omega]; exact k2 i y (by simpa using hi)
  have back : ∀ {ds : List D} {vs : List Value} {o : Nat}, RepL K M ρ ds vs → (∀ (i : Nat) (x : Value), vs[i]? = some x → M.cell? ⟨b, o + i, none⟩ = some x) → RepC K M ρ ds b o := by
    intro ds
    induction ds with
    | nil => intro vs o _ _; simp [RepC]
    | cons d ds ih =>
      intro vs o hl hc
      simp only [RepL] at hl
      obtain ⟨x, r, rfl, g1, g2⟩ := hl
      simp only [RepC]
      refine ⟨⟨x, by simpa using hc 0 x (by simp), g1⟩, ih g2 fun i y hi => ?_⟩
      rw [show o + 1 + i = o + (i + 1) by omega]
      exact hc (i + 1) y (by simpa using hi)
  obtain ⟨vs, k1, k2⟩ := key h2
  exact back (h K M ρ vs k1) k2
theorem hallR_less {d : D} {p : Prop} {h : Hall} (e : hallR d = some (p, h)) (hp : p) : LessD d (.ref (hallD h) 0) := by
  unfold hallR at e
  split at e
  · exact lessC (hallL_less e hp)
  · cases e
theorem less_fn {f : FuncId} {a a' b b' : List D} (h1 : Less a a') (h2 : Less b b') : LessD (.fn f a b) (.fn f a' b') := fun K M ρ v hv => by
  simp only [Rep] at *
  obtain ⟨x, y, rfl, g1, g2⟩ := hv
  exact ⟨x, y, rfl, h1 K M ρ x g1, h2 K M ρ y g2⟩

def R53 : List D → Option (Option Prop × D)
  | [d0, d1] => match campO d0, hallR d1 with
    | some c, some (p, h) => some (some p, bD (!campB h.n c))
    | _, _ => none
  | _ => none
noncomputable def T53 := orCl (aloC 53 R53) T17
theorem T53_ok (K : Cust) : ClOK K PG T53 := tab_cons cf_53 (fun ds p d h hp => by
    unfold R53 at h
    split at h
    · split at h
      · rename_i e0 e1
        obtain rfl := campO_eq e0
        cases h
        exact ⟨_, less_cons (LessD.refl _) (less_cons (hallR_less e1 (hp _ rfl)) (Less.refl _)), by simp [freeL, freeD, campD_free, hallD_free], by simp [freeD], wrongC_alone _ _⟩
      · cases h
    · cases h) (T17_ok K)
theorem ix53 (h : Hall) (n : Nat) (x : Nat → Camp) (hn : n ≤ 1000000) : Alone PG 79 [rowC n x, .fn 53 [] [.ref (hallD h) 0]] (i6 (findI (fun i => !campB h.n (x i)) n)) :=
  Alone.ofW (cl := T53) (raw := false) hm0 T53_ok cf_79 fun K w => by
    refine aw_reg0 (aw_assoc (aw_reg0 (?_)))
    refine aw_loopV (ι := {i : Nat // i ≤ n ∧ ∀ j, j < i → (!campB h.n (x j)) = false}) hm0 (T53_ok K) (fun z => [(8, i6 z.1)]) (fun _ => []) (fun z => n - z.1) ⟨0, Nat.zero_le n, fun j hj => by omega⟩ (fun z => ?_)
    obtain ⟨i, hin, hall⟩ := z
    
    refine aw_reg0 (aw_ifsd ((↑i : Int) < (↑n : Int)) (fun h1 => aw_skips (aw_blocks (aw_reg0 (aw_reg ((True ∧ (0 : Int) ≤ (↑i : Int) ∧ (↑i : Int) < (↑n : Int)) ∧ (∀ (i : Nat), i < h.n → [i6 (h.st i)] = [i6 (h.st i)]) ∧ ∀ (i : Nat), i < h.m → [i6 (h.en i)] = [i6 (h.en i)]) (by ((try simp only [inRange_i64] at *); (repeat' apply And.intro) <;> first | exact True.intro | exact fun _ _ => rfl | omega | assumption | (intros; simp [freeL, freeD]))) (aw_if (!campB h.n (x i)) (fun h2 => aw_reg0 (aw_ret (blk_ret (seq_ret (round_ret (blk_ret (seq_ret (end_i ((↑i : Int)) ?_)))))))) (fun h3 => aw_skip (blk_normal (seq_normal (aw_end (True ∧ inRange IntKind.i64 ((↑i : Int) + (1 : Int))) (by (simp only [inRange_i64, true_and]; omega)) (round_t 1 ((∀ (i : Nat), i < n → True ∧ True ∧ True ∧ True ∧ True ∧ True ∧ True ∧ True) ∧ (True ∧ (True ∧ True ∧ (∀ (i : Nat), i < h.n → True ∧ True) ∧ (∀ (i : Nat), i < h.m → True ∧ True) ∧ True) ∧ True) ∧ (∀ (i : Nat), i < n → True ∧ True ∧ True ∧ True ∧ True ∧ True ∧ True ∧ True) ∧ True) (True) (by (simp)) (by trivial) ?_)))))))))) (fun h4 => aw_exits (round_exit (blk_exit (seq_normal (aw_reg0 (aw_ret (end_i ((-1 : Int)) ?_))))))))
    · exact (findI_at (p := fun i => !campB h.n (x i)) (by omega) (by simp_all [campL_D]; try omega) hall).symm
    · exact round_v ⟨i + 1, by omega, fun j hj => by
        rcases Nat.lt_or_ge j i with h | h
        · exact hall j h
        · have : j = i := by omega
          subst this; simp_all [campL_D]; try omega⟩ (by show n - (i + 1) < n - i; omega)
    · have hin' : i = n := by omega
      subst hin'
      exact (findI_none hall).symm

def R79 : List D → Option (Option Prop × D)
  | [d0, .fn 53 [] [d1]] => match campsO d0, hallR d1 with
    | some (p, n, x), some (q, h) => some (some (p ∧ q ∧ n ≤ 1000000), i6 (findI (fun i => !campB h.n (x i)) n))
    | _, _ => none
  | _ => none
noncomputable def T79 := orCl (aloC 79 R79) T53
theorem T79_ok (K : Cust) : ClOK K PG T79 := tab_cons cf_79 (fun ds p d h hp => by
    unfold R79 at h
    split at h
    · split at h
      · rename_i e0 e1
        cases h
        obtain ⟨h1, h2, h3⟩ := hp _ rfl
        exact ⟨_, less_cons (campsO_less e0 h1) (less_cons (less_fn (Less.refl _) (less_cons (hallR_less e1 h2) (Less.refl _))) (Less.refl _)), by simp [freeL, freeD, rowC_free, hallD_free], by simp [freeD], ix53 _ _ _ h3⟩
      · cases h
    · cases h) (T53_ok K)
theorem any53 (h : Hall) (n : Nat) (x : Nat → Camp) (hn : n ≤ 1000000) : Alone PG 55 [rowC n x, .fn 53 [] [.ref (hallD h) 0]] (bD (anyI (fun i => !campB h.n (x i)) n)) :=
  Alone.ofW (cl := T79) (raw := false) hm0 T79_ok cf_55 fun K w => by
    refine aw_reg0 (aw_reg (True ∧ (∀ (i : Nat), i < n → campD (x i) = campD (x i)) ∧ ((∀ (i : Nat), i < h.n → [i6 (h.st i)] = [i6 (h.st i)]) ∧ ∀ (i : Nat), i < h.m → [i6 (h.en i)] = [i6 (h.en i)]) ∧ n ≤ (1000000 : Nat)) (by ((try simp only [inRange_i64] at *); (repeat' apply And.intro) <;> first | exact True.intro | exact fun _ _ => rfl | omega | assumption | (intros; simp [freeL, freeD]))) (aw_ret (end_b (decide (findI (fun (i : Nat) => !campB h.n (x i)) n ≥ (0 : Int))) ?_)))
    exact findI_any

def R55 : List D → Option (Option Prop × D)
  | [d0, .fn 53 [] [d1]] => match campsO d0, hallR d1 with
    | some (p, n, x), some (q, h) => some (some (p ∧ q ∧ n ≤ 1000000), bD (anyI (fun i => !campB h.n (x i)) n))
    | _, _ => none
  | _ => none
noncomputable def T55 := orCl (seeC 55 R55) T79
theorem T55_ok (K : Cust) : ClOK K PG T55 := tab_see cf_55 (fun ds p d h hp => by
    unfold R55 at h
    split at h
    · split at h
      · rename_i e0 e1
        cases h
        obtain ⟨h1, h2, h3⟩ := hp _ rfl
        exact ⟨_, less_cons (campsO_less e0 h1) (less_cons (less_fn (Less.refl _) (less_cons (hallR_less e1 h2) (Less.refl _))) (Less.refl _)), any53 _ _ _ h3⟩
      · cases h
    · cases h) (T79_ok K)
theorem checkCamps_alone (h : Hall) (n : Nat) (c : Nat → Camp) (h0 : h.n ≤ 1000000 ∧ h.m ≤ 1000000 ∧ n ≤ 1000000) : Alone PG 18 [.agg (hallD h), rowC n c] (i6 (bif campsB h n c then 0 else 2)) :=
  Alone.ofW (cl := T55) (raw := false) hm0 T55_ok cf_18 fun K w => by
    refine aw_reg0 (aw_assoc (aw_reg (True ∧ ((∀ (i : Nat), i < h.n → [i6 (h.st i)] = [i6 (h.st i)]) ∧ ∀ (i : Nat), i < h.m → [i6 (h.en i)] = [i6 (h.en i)]) ∧ h.n ≤ (1000000 : Nat) ∧ h.m ≤ (1000000 : Nat)) (by ((try simp only [inRange_i64] at *); (repeat' apply And.intro) <;> first | exact True.intro | exact fun _ _ => rfl | omega | assumption | (intros; simp [freeL, freeD]))) (aw_assoc (aw_reg0 (aw_ifsne (bif hallB h then (0 : Int) else (2 : Int)) ((0 : Int)) (fun h1 => aw_assoc (aw_reg0 (aw_rets (end_i (bif hallB h then (0 : Int) else (2 : Int)) ?_)))) (fun h2 => aw_skips (aw_reg0 (aw_opens (awr_testd 4 (16 : Nat) (True) trivial ((↑n : Int) ≤ (16 : Int)) (fun h3 => awr_end (True ∧ ((∀ (i : Nat), i < n → True ∧ True ∧ True ∧ True ∧ True ∧ True ∧ True ∧ True) ∧ (∀ (i : Nat), i < h.n → True ∧ True) ∧ ∀ (i : Nat), i < h.m → True ∧ True) ∧ (∀ (i : Nat), i < n → campD (c i) = campD (c i)) ∧ ((∀ (i : Nat), i < h.n → [i6 (h.st i)] = [i6 (h.st i)]) ∧ ∀ (i : Nat), i < h.m → [i6 (h.en i)] = [i6 (h.en i)]) ∧ n ≤ (1000000 : Nat)) (by ((try simp only [inRange_i64] at *); (repeat' apply And.intro) <;> first | exact True.intro | exact fun _ _ => rfl | omega | assumption | (intros; simp [freeL, freeD]))) (aw_ret (end_i (bif !anyI (fun (i : Nat) => !campB h.n (c i)) n then (0 : Int) else (2 : Int)) ?_))) (fun h4 => awr_end0 (aw_ret (end_i ((2 : Int)) ?_))))))))))))
    all_goals ((try simp only [intL_i6, campL_D] at *); grind [campsB])

def R18 : List D → Option (Option Prop × D)
  | [d0, d1] => match hallO d0, campsO d1 with
    | some (p, h), some (q, n, c) => some (some (p ∧ q ∧ h.n ≤ 1000000 ∧ h.m ≤ 1000000 ∧ n ≤ 1000000), i6 (bif campsB h n c then 0 else 2))
    | _, _ => none
  | _ => none
noncomputable def T18 := orCl (aloC 18 R18) T55
theorem T18_ok (K : Cust) : ClOK K PG T18 := tab_cons cf_18 (fun ds p d h hp => by
    unfold R18 at h
    split at h
    · split at h
      · rename_i e0 e1
        cases h
        obtain ⟨h1, h2, h3⟩ := hp _ rfl
        exact ⟨_, less_cons (hallO_less e0 h1) (less_cons (campsO_less e1 h2) (Less.refl _)), by simp [freeL, freeD, hallD_free, rowC_free], by simp [freeD], checkCamps_alone _ _ _ h3⟩
      · cases h
    · cases h) (T55_ok K)
end Go.Ev
end
section
namespace Go.Ev
/-! ### A function that changes one array of its caller -/
/-- told with the array as block 1 -/
def AloneB (P : Program) (f : FuncId) (ds : List D) (m : Nat) (g : Nat → Value) (d : D) (g' : Nat → Value) : Prop :=
  ∀ (K : Cust) (w : World) (b n : Nat) (args : List Value), OK K w [.fresh, .live b n] [.dead, .arr m fun j => .val (g j)] → RepL K (mask K w [.fresh, .live b n]) [.fresh, .live b n] ds args →
    Calls P f args.toArray w fun e w' => ∃ v, e = .returned v ∧ Res K w [.fresh, .live b n] [.dead, .arr m fun j => .val (g j)] 0 ⟨none, d, [(1, .arr m fun j => .val (g' j))], []⟩ v w'
/-- all that is the caller's own is hidden, but one block -/
def hideB (K : Cust) (ρ : List Own) (id : Nat) : Cust := { K with hid := fun c => K.hid c ∨ ∃ i n : Nat, i ≠ id ∧ ρ[i]? = some (Own.live c n) }
section
variable {K : Cust} {P : Program} {w w' : World} {ρ : List Own} {hp : List Blk} {nid id b n m : Nat} {g g' : Nat → Value}
theorem hideB_sub (ho : ρ[id]? = some (Own.live b n)) : Sub (mask K w ρ) (mask (hideB K ρ id) w [.fresh, .live b n]) := fun c cs ty fr h => by
  rw [mask_some] at *
  refine ⟨?_, h.2⟩
  rintro (hh | ⟨i, k, hi⟩)
  · rcases hh with hh | ⟨i, k, _, hi⟩
    · exact h.1 (.inl hh)
    · exact h.1 (.inr ⟨i, k, hi⟩)
  · match i, hi with
    | 0, hi => simp at hi
    | 1, hi =>
      simp at hi
      obtain ⟨rfl, rfl⟩ := hi
      exact h.1 (.inr ⟨id, n, ho⟩)
    | i + 2, hi => simp at hi
theorem repL_cust {K K' : Cust} {M M' : World} {ρ ρ' : List Own} : ∀ {ds : List D} {vs : List Value}, allVal ds = true → RepL K M ρ ds vs → RepL K' M' ρ' ds vs
  | [], vs, _, h => by simpa only [RepL] using h
  | d :: ds, vs, ha, h => by
    obtain ⟨v, rfl⟩ := allVal_mem ha d (List.mem_cons_self ..)
    simp only [allVal, isVal] at ha
    simp only [RepL] at h ⊢
    obtain ⟨x, r, rfl, h1, h2⟩ := h
    exact ⟨x, r, rfl, by simpa only [Rep] using h1, repL_cust ha h2⟩
theorem isPl_cust {K K' : Cust} {M M' : World} {ρ ρ' : List Own} {d : D} {v : Value} (h : isPl d = true) (hr : Rep K M ρ d v) : Rep K' M' ρ' d v := by
  cases d with
  | val x => simpa only [Rep] using hr
  | agg ds =>
    simp only [Rep] at *
    obtain ⟨vs, rfl, h2⟩ := hr
    exact ⟨vs, rfl, repL_cust h h2⟩
  | tup ds =>
    simp only [Rep] at *
    obtain ⟨vs, rfl, h2⟩ := hr
    exact ⟨vs, rfl, repL_cust h h2⟩
  | _ => cases h
theorem arr_val {M M' : World} {ρ ρ' : List Own} {o : Own} (h : RepB K w M ρ o (.arr m fun j => .val (g j))) : RepB K w M' ρ' o (.arr m fun j => .val (g j)) := by
  cases o with
  | live b n =>
    obtain ⟨vs, ty, h1, h2, h3, h4⟩ := h
    exact ⟨vs, ty, h1, h2, h3, fun j hj => by obtain ⟨x, q1, q2⟩ := h4 j hj; exact ⟨x, q1, by simpa only [Rep] using q2⟩⟩
  | fresh => exact h.elim
  | dead => exact h.elim
theorem arr_cust {K' : Cust} {M M' : World} {ρ ρ' : List Own} {o : Own} (h : RepB K' w M ρ o (.arr m fun j => .val (g j))) : RepB K w M' ρ' o (.arr m fun j => .val (g j)) := by
  cases o with
  | live b n =>
    obtain ⟨vs, ty, h1, h2, h3, h4⟩ := h
    exact ⟨vs, ty, h1, h2, h3, fun j hj => by obtain ⟨x, q1, q2⟩ := h4 j hj; exact ⟨x, q1, by simpa only [Rep] using q2⟩⟩
  | fresh => exact h.elim
  | dead => exact h.elim
theorem OK.one (hk : OK K w ρ hp) (ho : ρ[id]? = some (Own.live b n)) (hb : hp[id]? = some (.arr m fun j => .val (g j))) : OK (hideB K ρ id) w [.fresh, .live b n] [.dead, .arr m fun j => .val (g j)] := by
  refine ⟨rfl, fun i c k hi => ?_, fun i j c k l h1 h2 => ?_, fun i x hx => ?_, fun c hc => ?_, fun i c k hi hh => ?_⟩
  · match i, hi with
    | 0, hi => simp at hi
    | 1, hi => simp at hi; obtain ⟨rfl, rfl⟩ := hi; exact hk.lt id b n ho
    | i + 2, hi => simp at hi
  · match i, j, h1, h2 with
    | 0, _, h1, _ => simp at h1
    | _, 0, _, h2 => simp at h2
    | 1, 1, _, _ => rfl
    | i + 2, _, h1, _ => simp at h1
    | _, j + 2, _, h2 => simp at h2
  · match i, hx with
    | 0, hx => simp at hx; subst hx; trivial
    | 1, hx =>
      simp at hx
      subst hx
      have := hk.blk id _ hb
      rw [own_some ho] at this
      exact arr_cust (K := hideB K ρ id) (K' := K) this
    | i + 2, hx => simp at hx
  · rcases hc with hc | ⟨i, k, _, hi⟩
    · exact hk.hid c hc
    · exact hk.lt i c k hi
  · match i, hi with
    | 0, hi => simp at hi
    | 1, hi =>
      simp at hi
      obtain ⟨rfl, rfl⟩ := hi
      rcases hh with hh | ⟨j, l, hne, hj⟩
      · exact hk.apart id b n ho hh
      · exact hne (hk.inj j id b l n hj ho)
    | i + 2, hi => simp at hi
theorem Res.oneB {d : D} {v : Value} {p : Option Prop} (hk : OK K w ρ hp) (ho : ρ[id]? = some (Own.live b n)) (hb : hp[id]? = some (.arr m fun j => .val (g j))) (hd : isPl d = true)
    (h : Res (hideB K ρ id) w [.fresh, .live b n] [.dead, .arr m fun j => .val (g j)] 0 ⟨none, d, [(1, .arr m fun j => .val (g' j))], []⟩ v w') : Res K w ρ hp nid ⟨p, d, [(id, .arr m fun j => .val (g' j))], []⟩ v w' := by
  obtain ⟨ρ1, h1, h2⟩ := h
  have hkeep : ∀ c : Nat, c < w.heap.size → c ≠ b → w'.heap[c]? = w.heap[c]? := fun c hc hne => h2.keep c hc fun i k hi => by
    match i, hi with
    | 0, hi => simp at hi
    | 1, hi => simp at hi; exact absurd hi.1.symm hne
    | i + 2, hi => simp at hi
  have hok := h2.ok _ (Le.refl _) (hk.one ho hb)
  have hb1 : RepB (hideB K ρ id) w' (mask (hideB K ρ id) w' ρ1) ρ1 (own ρ1 1) (.arr m fun j => .val (g' j)) := hok.blk 1 _ (by simp [app])
  have hlive : own ρ1 1 = .live b n := by
    have hle : ole (.live b n) (own ρ1 1) := by simpa [own] using h2.le 1
    rcases hle with e | e
    · exact e
    · rw [e] at hb1
      exact hb1.elim
  rw [hlive] at hb1
  have hsub : Sub (mask K w ρ) (mask K w' ρ) := fun c cs ty fr hc => by
    rw [mask_some] at *
    refine ⟨hc.1, ?_⟩
    rw [hkeep c (lt_of_cells hc.2) (fun e => hc.1 (e ▸ .inr ⟨id, n, ho⟩))]
    exact hc.2
  have hidl := (List.getElem?_eq_some_iff.1 hb).1
  refine ⟨ρ, isPl_cust hd h1, h2.size, fun c hc hcond => hkeep c hc fun e => ?_, fun c hc => .inl hc, rfl, OwnLe.refl ρ, fun hp2 hle hk2 => ?_, fun i q1 q2 => ⟨fun y hy => ?_, rfl⟩, fun i h _ => h, h2.env⟩
  · subst e
    have := hcond id n ho
    rw [hb] at this
    cases this
  · rw [List.append_nil]
    refine ⟨by simp [app, hk2.len], fun i c k hi => Nat.lt_of_lt_of_le (hk2.lt i c k hi) h2.size, hk2.inj, fun i y hy => ?_, fun c hc => Nat.lt_of_lt_of_le (hk2.hid c hc) h2.size, hk2.apart⟩
    simp only [app, List.foldl_cons, List.foldl_nil, List.getElem?_set] at hy
    split at hy
    · rename_i e
      subst e
      have : y = .arr m fun j => .val (g' j) := by
        split at hy
        · exact (Option.some.inj hy).symm
        · cases hy
      rw [this, own_some ho]
      exact arr_cust (K := K) (K' := hideB K ρ id) hb1
    · rename_i e
      refine (hk2.blk i y hy).mono hsub (OwnLe.refl ρ) fun c k hc => hkeep c (hk2.lt i c k (own_live hc)) ?_
      intro e2
      subst e2
      exact e (hk2.inj _ _ _ _ _ ho (own_live hc))
  · rw [List.mem_singleton] at hy
    subst hy
    rintro rfl
    rw [hb] at q1
    cases q1
/-- a table of one function that changes the array which is its first argument; the other arguments name no own block -/
noncomputable def chgC (f0 : FuncId) (r : Nat → Nat → (Nat → Value) → List D → Option (Option Prop × D × (Nat → Value))) (f : FuncId) (ds : List D) (hp : List Blk) (_ : Nat) : Option Out := match Nat.beq f f0 with
  | true => match ds with
    | .sl id 0 len k none :: ds => match getG hp id with
      | some (.arr m fn) => match r len k (fun j => match fn j with | .val v => v | _ => undef) ds with
        | some (p, d, g') => match isPl d with
          | true => some ⟨andO (some (∀ j, j < m → ∃ v, fn j = .val v)) (andO (some (len * k = m)) p), d, [(id, .arr m fun j => .val (g' j))], []⟩
          | false => none
        | none => none
      | _ => none
    | _ => none
  | false => none
theorem chgC_ok {f0 : FuncId} {r : Nat → Nat → (Nat → Value) → List D → Option (Option Prop × D × (Nat → Value))} (henter : ∀ args w, (callFunc f0 args).run P w = .ok (.enter f0 args) w)
    (h : ∀ len k g ds p d g', r len k g ds = some (p, d, g') → holdsO p → ∃ ds', Less ds ds' ∧ freeL ds' ∧ AloneB P f0 (.sl 1 0 len k none :: ds') (len * k) g d g') : ClOK K P (chgC f0 r) := by
  intro f ds hp nid out ho hc
  unfold chgC at ho
  split at ho
  · rename_i hfg
    obtain rfl := Nat.eq_of_beq_eq_true hfg
    split at ho
    · rename_i id len k ds0
      split at ho
      · rename_i m fn hg
        split at ho
        · rename_i p d g2 hr
          split at ho
          · rename_i hpl
            obtain rfl := (Option.some.inj ho).symm
            obtain ⟨k1, k2⟩ := holdsO_and hc
            obtain ⟨k3, k4⟩ := holdsO_and k2
            have k1 := k1 _ rfl
            obtain rfl := k3 _ rfl
            refine ⟨henter, fun w ρ args hk hrep hn => ?_⟩
            obtain ⟨ds', hl, hfree, hA⟩ := h len k _ ds0 p d g2 hr k4
            obtain ⟨b, n, hob, hB⟩ := own_block hk hg (by intro e; cases e)
            have hol := own_live hob
            simp only [RepL] at hrep
            obtain ⟨x, xs, rfl, h1, h2⟩ := hrep
            -- the array is one of plain values
            have hB' : RepB K w (mask K w ρ) ρ (.live b n) (.arr (len * k) fun j => .val (match fn j with | .val v => v | _ => undef)) := by
              obtain ⟨vs, ty, q1, q2, q3, q4⟩ := hB
              refine ⟨vs, ty, q1, q2, q3, fun j hj => ?_⟩
              obtain ⟨y, p1, p2⟩ := q4 j hj
              obtain ⟨v, hv⟩ := k1 j hj
              refine ⟨y, p1, ?_⟩
              rw [hv] at p2
              simp only [Rep] at p2 ⊢
              rw [hv]
              exact p2
            have hidl : id < hp.length := by
              rw [getG_eq] at hg
              exact (List.getElem?_eq_some_iff.1 hg).1
            -- the caller's heap, with the array told so
            have hkk : OK K w ρ (hp.set id (.arr (len * k) fun j => .val (match fn j with | .val v => v | _ => undef))) := by
              refine ⟨by simp [hk.len], hk.lt, hk.inj, fun i y hy => ?_, hk.hid, hk.apart⟩
              rw [List.getElem?_set] at hy
              split at hy
              · rename_i e
                subst e
                try simp only [hidl, if_true] at hy
                cases hy
                rw [hob]
                exact hB'
              · exact hk.blk i y hy
            have hb' : (hp.set id (.arr (len * k) fun j => D.val (match fn j with | .val v => v | _ => undef)))[id]? = some (.arr (len * k) fun j => .val (match fn j with | .val v => v | _ => undef)) := by
              rw [List.getElem?_set, if_pos rfl, if_pos hidl]
            have hargs : RepL (hideB K ρ id) (mask (hideB K ρ id) w [.fresh, .live b n]) [.fresh, .live b n] (.sl 1 0 len k none :: ds') (x :: xs) := by
              simp only [RepL]
              refine ⟨x, xs, rfl, ?_, RepL.free (K := K) (K' := hideB K ρ id) (hideB_sub hol) (fun t q v hc => K.mono _ _ _ _ _ (hideB_sub hol) hc) ds' xs hfree (hl K _ _ _ h2)⟩
              simp only [Rep, hob] at h1
              have : own [Own.fresh, .live b n] 1 = .live b n := rfl
              simp only [Rep, this]
              exact h1
            refine (hA (hideB K ρ id) w b n (x :: xs) (hkk.one hol hb') hargs).mono fun e w' hx => ?_
            obtain ⟨v, rfl, hres⟩ := hx
            have hR := Res.oneB (p := andO (some (∀ j, j < len * k → ∃ v, fn j = .val v)) (andO (some (len * k = len * k)) p)) (nid := nid) hkk hol hb' hpl hres
            obtain ⟨ρ2, r1, r2⟩ := hR
            refine ⟨v, rfl, ρ2, r1, r2.size, fun c hcc hcond => r2.keep c hcc fun i k hi => ?_, r2.new, r2.len, r2.le, fun hp2 hle hk2 => ?_, fun i q1 q2 => ?_, r2.fr, r2.env⟩
            · have := hcond i k hi
              rw [List.getElem?_set]
              split
              · rename_i e
                subst e
                rw [getG_eq] at hg
                rw [hg] at this
                cases this
              · exact this
            · have hlen2 := hle.1
              have hk3 : OK K w ρ (hp2.set id (.arr (len * k) fun j => .val (match fn j with | .val v => v | _ => undef))) := by
                refine ⟨by simp [hk2.len], hk2.lt, hk2.inj, fun i y hy => ?_, hk2.hid, hk2.apart⟩
                rw [List.getElem?_set] at hy
                split at hy
                · rename_i e
                  subst e
                  have hid2 : id < hp2.length := by omega
                  try simp only [hid2, if_true] at hy
                  cases hy
                  rw [hob]
                  exact hB'
                · exact hk2.blk i y hy
              have := r2.ok _ ⟨by simp [hlen2], fun i => by
                rw [List.getElem?_set, List.getElem?_set, hlen2]
                split
                · exact .inl rfl
                · exact hle.2 i⟩ hk3
              simpa [app] using this
            · have hne : id ≠ i := by
                rintro rfl
                rw [getG_eq] at hg
                rw [hg] at q1
                cases q1
              refine r2.hid i ?_ q2
              rw [List.getElem?_set, if_neg hne]
              exact q1
          · cases ho
        · cases ho
      · cases ho
    · cases ho
  · cases ho
/-- the end of a function that has changed the array -/
structure EndB (fn : AFun) (d : D) (m : Nat) (g' : Nat → Value) (e : Ex) (s : St) : Prop where
  out : exD e = true ∧ isPl d = true ∧ ∃ ds f', resD s fn.results = some ds ∧ tupD ds = d ∧ getG s.hp 1 = some (.arr m f') ∧ ∀ j, j < m → f' j = .val (g' j)
theorem end_w {fn : AFun} {d : D} {e : Ex} {s : St} (f' : Nat → D) (h : ∀ j, j < m → f' j = .val (g' j)) (hb : getG s.hp 1 = some (.arr m f') := by kernel_rfl) (he : exD e = true := by kernel_rfl) (hp : isPl d = true := by kernel_rfl) (hr : (resD s fn.results).map tupD = some d := by kernel_rfl) : EndB fn d m g' e s := by
  refine ⟨he, hp, ?_⟩
  cases hres : resD s fn.results with
  | none => rw [hres] at hr; cases hr
  | some ds =>
    rw [hres] at hr
    exact ⟨ds, f', rfl, Option.some.inj hr, hb, h⟩
/-- the array counts as written from the beginning -/
def startB (fn : AFun) (ds : List D) (hp : List Blk) : St := ⟨True, ds ++ List.replicate (fn.ntmps - ds.length) undefD, hp, hp.length, [1]⟩
theorem Inv.wr1 {w0 : World} {ρ0 : List Own} {hp0 : List Blk} {a : Act} {s : St} {i : Nat} (h : Inv K w0 ρ0 hp0 w ρ a s) (hi : i < s.base) (hb : hp0[i]? ≠ some .dead) (hw : s.wr = []) : Inv K w0 ρ0 hp0 w ρ a ⟨s.p, s.sl, s.hp, s.base, [i]⟩ := by
  have hbase := h.base
  refine ⟨h.size, h.keep, h.new, h.le, h.rlen, h.base, h.blen, fun j hj _ => h.same j hj (by rw [hw]; simp), fun j h1 h2 => ?_, fun hp2 hle hk => ?_, h.fr, h.slots, h.defers, h.start, h.env⟩
  · obtain ⟨q1, q2, q3⟩ := h.hid j h1 h2
    exact ⟨q1, by simp; rintro rfl; exact hb h1, q3⟩
  · have hl2 : s.base = hp2.length := by rw [hbase]; exact hle.1
    have hblen := h.blen
    have e : over ⟨s.p, s.sl, s.hp, s.base, [i]⟩ hp2 = over s hp2 := by
      apply List.ext_getElem?
      intro j
      rw [over_get (s := ⟨s.p, s.sl, s.hp, s.base, [i]⟩) hl2 (by show s.base ≤ s.hp.length; omega), over_get (s := s) hl2 (by omega)]
      show (if j < s.base then (if j ∈ [i] then s.hp[j]? else hp2[j]?) else s.hp[j]?) = _
      rw [hw]
      by_cases hj : j = i
      · subst hj
        have h1 : s.hp[j]? = hp0[j]? := h.same j (by omega) (by rw [hw]; simp)
        have h2 : hp0[j]? = hp2[j]? := (hle.2 j).resolve_right hb
        simp [h1, h2]
      · simp [hj]
    rw [e]
    exact h.ok hp2 hle hk
theorem AloneB.ofW {cl : FuncId → List D → List Blk → Nat → Option Out} {f : FuncId} {fn : AFun} (hm : P.follows .mixedOrders = true) (hcl : ∀ K, ClOK K P cl) (hf : compF P f = some fn) {ds : List D} {d : D}
    (h : ∀ K w b n, AW cl (LoopA K P w [.fresh, .live b n] [.dead, .arr m fun j => .val (g j)]) fn.body (startB fn ds [.dead, .arr m fun j => .val (g j)]) (EndB fn d m g')) : AloneB P f ds m g d g' := by
  intro K w b n args hk hr
  have hcl := hcl K
  unfold compF at hf
  split at hf
  · rename_i fu hfn
    split at hf
    · rename_i c hbody
      split at hf
      · rename_i ab rs hab hrs hname
        cases hf
        refine calls_of_wp hfn hbody (wp_mono (aw_ok hm hcl c ab _ _ hab (h K w b n).out w [.fresh, .live b n] _ (Inv.wr1 (i := 1) (Inv.init hk hr) (by show 1 < 2; omega) (by simp) rfl)) fun x a' w' hx => ?_)
        obtain ⟨e, s', ρ', rfl, hI, hq⟩ := hx
        obtain ⟨hex, hpl, rds, f', hrd, rfl, hb1, hf'⟩ := hq.out
        obtain ⟨v, hv1, hv2⟩ := results_ok (fn := fu) hI.okHp hI.slots hrs hrd
        have hres : Res K w [.fresh, .live b n] [.dead, .arr m fun j => .val (g j)] 0 ⟨none, tupD rds, [(1, .arr m fun j => .val (g' j))], []⟩ v w' := by
          have hbb := hI.okHp.blk 1 (.arr m f') (by rw [getG_eq] at hb1; exact hb1)
          have hlive : own ρ' 1 = .live b n := by
            have hle : ole (.live b n) (own ρ' 1) := by simpa [own] using hI.le 1
            rcases hle with e | e
            · exact e
            · rw [e] at hbb
              exact hbb.elim
          rw [hlive] at hbb
          refine ⟨[.fresh, .live b n], isPl_rep hpl hv2, hI.size, hI.keep, fun c hc => .inl hc, rfl, OwnLe.refl _, fun hp2 hle hk2 => ?_, fun i q1 q2 => ⟨fun y hy => ?_, rfl⟩, fun i h _ => h, hI.env⟩
          · rw [List.append_nil]
            refine ⟨by simp [app, hk2.len], fun i c k hi => Nat.lt_of_lt_of_le (hk2.lt i c k hi) hI.size, hk2.inj, fun i y hy => ?_, fun c hc => Nat.lt_of_lt_of_le (hk2.hid c hc) hI.size, hk2.apart⟩
            simp only [app, List.foldl_cons, List.foldl_nil, List.getElem?_set] at hy
            split at hy
            · rename_i e
              subst e
              have : y = .arr m fun j => .val (g' j) := by
                split at hy
                · exact (Option.some.inj hy).symm
                · cases hy
              rw [this]
              show RepB K w' _ _ (.live b n) _
              obtain ⟨vs, ty, h1, h2, h3, h4⟩ := hbb
              exact ⟨vs, ty, h1, h2, h3, fun j hj => by obtain ⟨x, q1, q2⟩ := h4 j hj; rw [hf' j hj] at q2; exact ⟨x, q1, by simpa only [Rep] using q2⟩⟩
            · rename_i e
              have h0 := hk2.blk i y hy
              match i, e with
              | 0, _ => cases y <;> first | trivial | exact h0.elim
              | 1, e => exact absurd rfl e
              | i + 2, _ => cases y <;> first | trivial | exact h0.elim
          · rw [List.mem_singleton] at hy
            subst hy
            rintro rfl
            simp at q1
        cases e with
        | normal => exact ⟨hI.defers, v, hv1, v, rfl, hres⟩
        | ret => exact ⟨hI.defers, v, hv1, v, rfl, hres⟩
        | exit i => simp [exD] at hex
      · cases hf
    · cases hf
  · cases hf
theorem RepB.arrC {K : Cust} {w : World} {M : World} {ρ : List Own} {o : Own} {g1 g2 : Nat → Value} (he : ∀ j, j < m → g1 j = g2 j) (h : RepB K w M ρ o (.arr m fun j => .val (g1 j))) : RepB K w M ρ o (.arr m fun j => .val (g2 j)) :=
  blk_congr (fun j hj => by rw [he j hj]) K w M ρ o h
theorem OK.arrC {K : Cust} {w : World} {ρ : List Own} {y : Blk} {g1 g2 : Nat → Value} (he : ∀ j, j < m → g1 j = g2 j) (h : OK K w ρ [y, .arr m fun j => .val (g1 j)]) : OK K w ρ [y, .arr m fun j => .val (g2 j)] := by
  refine ⟨h.len, h.lt, h.inj, fun i x hx => ?_, h.hid, h.apart⟩
  match i, hx with
  | 0, hx => exact h.blk 0 x (by simpa using hx)
  | 1, hx =>
    simp at hx
    subst hx
    exact RepB.arrC he (h.blk 1 _ (by simp))
  | i + 2, hx => simp at hx
theorem AloneB.congr {f : FuncId} {ds : List D} {d : D} {g1 g2 : Nat → Value} (he : ∀ j, j < m → g1 j = g2 j) (h : AloneB P f ds m g2 d g') : AloneB P f ds m g1 d g' := by
  intro K w b n args hk hr
  refine (h K w b n args (hk.arrC he) hr).mono fun e w' hx => ?_
  obtain ⟨v, rfl, ρ1, r1, r2⟩ := hx
  refine ⟨v, rfl, ρ1, r1, r2.size, fun c hc hcond => r2.keep c hc fun i k hi => ?_, r2.new, r2.len, r2.le, fun hp2 hle hk2 => ?_, fun i q1 q2 => r2.hid i ?_ q2, r2.fr, r2.env⟩
  · have := hcond i k hi
    match i, this with
    | 0, _ => rfl
    | 1, this => simp at this
    | i + 2, this => simp at this
  · obtain ⟨hl, hg⟩ := hle
    match hp2, hl with
    | [y, z], _ =>
      have h1 := hg 1
      simp at h1
      subst h1
      have := r2.ok [y, .arr m fun j => .val (g2 j)] ⟨rfl, fun i => by
        have := hg i
        match i, this with
        | 0, this => simpa using this
        | 1, _ => exact .inl rfl
        | i + 2, _ => exact .inl rfl⟩ (hk2.arrC he)
      simpa [app] using this
  · match i, q1 with
    | 0, _ => rfl
    | 1, q1 => simp at q1
    | i + 2, q1 => simp at q1
end
end Go.Ev
end
