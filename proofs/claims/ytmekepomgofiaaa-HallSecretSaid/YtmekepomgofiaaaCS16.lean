import Derived.Test.YtmekepomgofiaaaCS15
set_option linter.all false
section
open Go Go.Ev Go.RowKit
namespace Go.Ev
set_option maxRecDepth 100000
set_option linter.all false
structure Bre where
  rule : Int
  a : Int
  b : Int
  hour : Int
def breD (b : Bre) : List D := [.val (.int .u8 b.rule), i6 b.a, i6 b.b, i6 b.hour]
def bre0 : Bre := ⟨0, 0, 0, 0⟩
theorem breD_free (b : Bre) : freeL (breD b) := by simp [breD, freeL, freeD]
/-- the first pair -/
def fst2 (p : Nat → Nat → Bool) (m : Nat → Nat) (n : Nat) : Option (Nat × Nat) := match (List.range n).find? fun i => (List.range (m i)).any (p i) with
  | some i => match (List.range (m i)).find? (p i) with
    | some k => some (i, k)
    | none => none
  | none => none
theorem fst2_at {p : Nat → Nat → Bool} {m : Nat → Nat} {n i k : Nat} (hi : i < n) (hk : k < m i) (hp : p i k = true) (h1 : ∀ j, j < k → p i j = false) (h2 : ∀ j, j < i → ∀ l, l < m j → p j l = false) : fst2 p m n = some (i, k) := by
  have e1 : (List.range n).find? (fun i => (List.range (m i)).any (p i)) = some i := by
    rw [List.find?_range_eq_some]
    refine ⟨by simp only [List.any_eq_true, List.mem_range]; exact ⟨k, hk, hp⟩, List.mem_range.2 hi, fun j hj => ?_⟩
    simp only [List.any_eq_true, List.mem_range, Bool.not_eq_true', List.any_eq_false]
    simpa using h2 j hj
  have e2 : (List.range (m i)).find? (p i) = some k := by
    rw [List.find?_range_eq_some]
    exact ⟨hp, List.mem_range.2 hk, fun j hj => by simp [h1 j hj]⟩
  unfold fst2
  rw [e1]
  simp only [e2]
theorem fst2_none {p : Nat → Nat → Bool} {m : Nat → Nat} {n : Nat} (h : ∀ j, j < n → ∀ l, l < m j → p j l = false) : fst2 p m n = none := by
  have e1 : (List.range n).find? (fun i => (List.range (m i)).any (p i)) = none := by
    rw [List.find?_eq_none]
    intro j hj
    simpa using h j (List.mem_range.1 hj)
  unfold fst2
  rw [e1]
theorem fst2_cases (p : Nat → Nat → Bool) (m : Nat → Nat) (n : Nat) : (∃ i k, i < n ∧ k < m i ∧ p i k = true ∧ (∀ j, j < k → p i j = false) ∧ (∀ j, j < i → ∀ l, l < m j → p j l = false) ∧ fst2 p m n = some (i, k)) ∨ ((∀ j, j < n → ∀ l, l < m j → p j l = false) ∧ fst2 p m n = none) := by
  cases h : (List.range n).find? (fun i => (List.range (m i)).any (p i)) with
  | none =>
    rw [List.find?_eq_none] at h
    have hb : ∀ j, j < n → ∀ l, l < m j → p j l = false := fun j hj l hl => by
      have := h j (List.mem_range.2 hj)
      simp at this
      exact this l hl
    exact .inr ⟨hb, fst2_none hb⟩
  | some i =>
    rw [List.find?_range_eq_some] at h
    obtain ⟨h1, h2, h3⟩ := h
    have hb : ∀ j, j < i → ∀ l, l < m j → p j l = false := fun j hj l hl => by
      have := h3 j hj
      simp at this
      exact this l hl
    cases h' : (List.range (m i)).find? (p i) with
    | none =>
      rw [List.find?_eq_none] at h'
      simp only [List.any_eq_true, List.mem_range] at h1
      obtain ⟨k, hk, hp⟩ := h1
      exact absurd hp (h' k (List.mem_range.2 hk))
    | some k =>
      rw [List.find?_range_eq_some] at h'
      obtain ⟨g1, g2, g3⟩ := h'
      have hkk : ∀ j, j < k → p i j = false := fun j hj => by simpa using g3 j hj
      exact .inl ⟨i, k, List.mem_range.1 h2, List.mem_range.1 g2, g1, hkk, hb, fst2_at (List.mem_range.1 h2) (List.mem_range.1 g2) g1 hkk hb⟩
def lateC (n : Nat) (r : Nat → Run) : Prop := ∀ i, i < n → inRange .i64 ((r i).c.ea + (r i).c.pr) ∧ inRange .i64 ((r i).c.la - (r i).c.ho)
def timeB (n : Nat) (r : Nat → Run) : Bre := bif decide (findI (fun i => lateB (r i)) n ≥ 0) then ⟨1, findI (fun i => lateB (r i)) n, 0, 0⟩ else bre0

theorem ix105 (n : Nat) (x : Nat → Run) (hr : lateC n x) (hn : n ≤ 1000000) : Alone PG 104 [rowR n x, .fn 105 [] []] (i6 (findI (fun i => lateB (x i)) n)) :=
  Alone.ofW (cl := T18) (raw := false) hm0 T18_ok cf_104 fun K w => by
    refine aw_reg0 (aw_assoc (aw_reg0 (?_)))
    refine aw_loopV (ι := {i : Nat // i ≤ n ∧ ∀ j, j < i → (lateB (x j)) = false}) hm0 (T18_ok K) (fun z => [(8, i6 z.1)]) (fun _ => []) (fun z => n - z.1) ⟨0, Nat.zero_le n, fun j hj => by omega⟩ (fun z => ?_)
    obtain ⟨i, hin, hall⟩ := z
    
    refine aw_reg0 (aw_ifsd ((↑i : Int) < (↑n : Int)) (fun h1 => aw_skips (aw_blocks (aw_reg0 (aw_reg ((True ∧ (0 : Int) ≤ (↑i : Int) ∧ (↑i : Int) < (↑n : Int)) ∧ inRange IntKind.i64 ((x i).c.ea + (x i).c.pr) ∧ inRange IntKind.i64 ((x i).c.la - (x i).c.ho)) (by (have q0 := hr i (by omega); (try simp only [inRange_i64] at *); (repeat' (with_reducible apply And.intro)) <;> first | exact True.intro | exact fun _ _ => rfl | omega | assumption | (intros; simp [freeL, freeD]; done))) (aw_if (lateB (x i)) (fun h2 => aw_reg0 (aw_ret (blk_ret (seq_ret (round_ret (blk_ret (seq_ret (end_i ((↑i : Int)) ?_)))))))) (fun h3 => aw_skip (blk_normal (seq_normal (aw_end (True ∧ inRange IntKind.i64 ((↑i : Int) + (1 : Int))) (by (have q0 := hr i (by omega); (try simp only [inRange_i64] at *); (repeat' (with_reducible apply And.intro)) <;> first | exact True.intro | exact fun _ _ => rfl | omega | assumption | (intros; simp [freeL, freeD]; done))) (round_t 1 ((∀ (i : Nat), i < n → True ∧ True ∧ True ∧ True ∧ True ∧ True ∧ True ∧ True ∧ True) ∧ (True ∧ True) ∧ (∀ (i : Nat), i < n → True ∧ True ∧ True ∧ True ∧ True ∧ True ∧ True ∧ True ∧ True) ∧ True) (True) (by (simp)) (by trivial) ?_)))))))))) (fun h4 => aw_exits (round_exit (blk_exit (seq_normal (aw_reg0 (aw_ret (end_i ((-1 : Int)) ?_))))))))
    · exact (findI_at (p := fun i => lateB (x i)) (by omega) (by simp_all [runL_D]; try omega) hall).symm
    · exact round_v ⟨i + 1, by omega, fun j hj => by
        rcases Nat.lt_or_ge j i with h | h
        · exact hall j h
        · have : j = i := by omega
          subst this; simp_all [runL_D]; try omega⟩ (by show n - (i + 1) < n - i; omega)
    · have hin' : i = n := by omega
      subst hin'
      exact (findI_none hall).symm

def R104_105 : List D → Option (Option Prop × D)
  | [d0, .fn 105 [] []] => match runsO d0 with
    | some (p, n, x) => some (some (p ∧ lateC n x ∧ n ≤ 1000000), i6 (findI (fun i => lateB (x i)) n))
    | _ => none
  | _ => none
noncomputable def T104_105 := orCl (aloC 104 R104_105) T18
theorem T104_105_ok (K : Cust) : ClOK K PG T104_105 := tab_cons cf_104 (fun ds p d h hp => by
    unfold R104_105 at h
    split at h
    · split at h
      · rename_i e0
        cases h
        obtain ⟨h1, h2, h3⟩ := hp _ rfl
        exact ⟨_, less_cons (runsO_less e0 h1) (Less.refl _), by simp [freeL, freeD, rowR_free], by simp [freeD], ix105 _ _ h2 h3⟩
      · cases h
    · cases h) (T18_ok K)
theorem time_alone (n : Nat) (x : Nat → Run) (hr : lateC n x) (hn : n ≤ 1000000) : Alone PG 83 [rowR n x] (.agg (breD (timeB n x))) :=
  Alone.ofW (cl := T104_105) (raw := false) hm0 T104_105_ok cf_83 fun K w => by
    refine aw_reg0 (aw_assoc (aw_reg (True ∧ (∀ (i : Nat), i < n → runD (x i) = runD (x i)) ∧ lateC n x ∧ n ≤ (1000000 : Nat)) (by ((try simp only [inRange_i64] at *); (repeat' (with_reducible apply And.intro)) <;> first | exact True.intro | exact fun _ _ => rfl | omega | assumption | (intros; simp [freeL, freeD]; done))) (aw_assoc (aw_reg0 (aw_ifsd (findI (fun (i : Nat) => lateB (x i)) n ≥ (0 : Int)) (fun h1 => aw_assoc (aw_reg0 (aw_rets (end_d (D.agg [D.val (Value.int IntKind.u8 (1 : Int)), D.val (Value.int IntKind.i64 (findI (fun (i : Nat) => lateB (x i)) n)), D.val (Value.int IntKind.i64 (0 : Int)), D.val (Value.int IntKind.i64 (0 : Int))]) ?_)))) (fun h2 => aw_skips (aw_reg0 (aw_ret (end_d (D.agg [D.val (Value.int IntKind.u8 (0 : Int)), D.val (Value.int IntKind.i64 (0 : Int)), D.val (Value.int IntKind.i64 (0 : Int)), D.val (Value.int IntKind.i64 (0 : Int))]) ?_)))))))))
    · unfold timeB; rw [decide_eq_true h1]; rfl
    · unfold timeB; rw [decide_eq_false h2]; rfl

def R83 : List D → Option (Option Prop × D)
  | [d0] => match runsO d0 with
    | some (p, n, x) => some (some (p ∧ lateC n x ∧ n ≤ 1000000), .agg (breD (timeB n x)))
    | _ => none
  | _ => none
noncomputable def T83 := orCl (aloC 83 R83) T104_105
theorem T83_ok (K : Cust) : ClOK K PG T83 := tab_cons cf_83 (fun ds p d h hp => by
    unfold R83 at h
    split at h
    · split at h
      · rename_i e0
        cases h
        obtain ⟨h1, h2, h3⟩ := hp _ rfl
        exact ⟨_, less_cons (runsO_less e0 h1) (Less.refl _), by simp [freeL, freeD, rowR_free], by simp [freeD, breD_free], time_alone _ _ h2 h3⟩
      · cases h
    · cases h) (T104_105_ok K)
theorem nobody_alone (h : Hall) (r : Run) (t : Int) (ht : 0 ≤ t ∧ t < h.n) : Alone PG 80 [.agg (runD r), i6 t, .ref (hallD h) 0] (bD (h.st t.toNat == 0)) :=
  Alone.ofW (cl := T83) (raw := false) hm0 T83_ok cf_80 fun K w => by
    refine aw_reg0 (aw_reg (True ∧ (0 : Int) ≤ t ∧ t < (↑h.n : Int)) (by exact ⟨trivial, by assumption⟩) (aw_ret (end_b (h.st (Int.toNat t) == (0 : Int)) ?_)))
    rfl

def R80 : List D → Option (Option Prop × D)
  | [d0, d1, d2] => match runO d0, inO d1, hallR d2 with
    | some r, some t, some (p, h) => some (some (p ∧ 0 ≤ t ∧ t < h.n), bD (h.st t.toNat == 0))
    | _, _, _ => none
  | _ => none
noncomputable def T80 := orCl (aloC 80 R80) T83
theorem T80_ok (K : Cust) : ClOK K PG T80 := tab_cons cf_80 (fun ds p d h hp => by
    unfold R80 at h
    split at h
    · split at h
      · rename_i e0 e1 e2
        obtain rfl := runO_eq e0
        obtain rfl := inO_eq e1
        cases h
        obtain ⟨h1, h2⟩ := hp _ rfl
        exact ⟨_, less_cons (LessD.refl _) (less_cons (LessD.refl _) (less_cons (hallR_less e2 h1) (Less.refl _))), by simp [freeL, freeD, runD_free, hallD_free], by simp [freeD], nobody_alone _ _ _ h2⟩
      · cases h
    · cases h) (T83_ok K)
theorem weak_alone (h : Hall) (r : Run) (t : Int) (ht : 0 ≤ t ∧ t < h.m) : Alone PG 81 [.agg (runD r), i6 t, .ref (hallD h) 0] (bD (decide (h.en t.toNat < r.c.en))) :=
  Alone.ofW (cl := T80) (raw := false) hm0 T80_ok cf_81 fun K w => by
    refine aw_reg0 (aw_reg (True ∧ (0 : Int) ≤ t ∧ t < (↑h.m : Int)) (by exact ⟨trivial, by assumption⟩) (aw_ret (end_b (decide (h.en (Int.toNat t) < r.c.en)) ?_)))
    rfl

def R81 : List D → Option (Option Prop × D)
  | [d0, d1, d2] => match runO d0, inO d1, hallR d2 with
    | some r, some t, some (p, h) => some (some (p ∧ 0 ≤ t ∧ t < h.m), bD (decide (h.en t.toNat < r.c.en)))
    | _, _, _ => none
  | _ => none
noncomputable def T81 := orCl (aloC 81 R81) T80
theorem T81_ok (K : Cust) : ClOK K PG T81 := tab_cons cf_81 (fun ds p d h hp => by
    unfold R81 at h
    split at h
    · split at h
      · rename_i e0 e1 e2
        obtain rfl := runO_eq e0
        obtain rfl := inO_eq e1
        cases h
        obtain ⟨h1, h2⟩ := hp _ rfl
        exact ⟨_, less_cons (LessD.refl _) (less_cons (LessD.refl _) (less_cons (hallR_less e2 h1) (Less.refl _))), by simp [freeL, freeD, runD_free, hallD_free], by simp [freeD], weak_alone _ _ _ h2⟩
      · cases h
    · cases h) (T80_ok K)
def inC (N : Nat) (n : Nat) (r : Nat → Run) : Prop := ∀ i, i < n → 0 ≤ (r i).first ∧ 0 ≤ (r i).c.ho ∧ (r i).first + (r i).c.ho ≤ N
def hourB (rule : Int) (p : Run → Int → Bool) (n : Nat) (r : Nat → Run) : Bre := match fst2 (fun i k => p (r i) ((r i).first + k)) (fun i => (r i).c.ho.toNat) n with
  | some (i, k) => ⟨rule, i, 0, (r i).first + k⟩
  | none => bre0
def staffP (h : Hall) (_ : Run) (t : Int) : Bool := h.st t.toNat == 0
def weakP (h : Hall) (r : Run) (t : Int) : Bool := decide (h.en t.toNat < r.c.en)

theorem hour80_alone (h : Hall) (n : Nat) (x : Nat → Run) (rule : Int) (hin : inC h.n n x) (hn : n ≤ 1000000 ∧ h.n ≤ 1000000) : Alone PG 85 [rowR n x, .val (.int .u8 rule), .fn 80 [] [.ref (hallD h) 0]] (.agg (breD (hourB rule (staffP h) n x))) :=
  Alone.ofW (cl := T81) (raw := false) hm0 T81_ok cf_85 fun K w => by
    refine aw_reg0 (aw_assoc (aw_reg0 (?_)))
    refine aw_loopV (ι := {i : Nat // i ≤ n ∧ ∀ j, j < i → ∀ l, l < (x j).c.ho.toNat → staffP h (x j) ((x j).first + l) = false}) hm0 (T81_ok K) (fun z => [(13, i6 z.1)]) (fun _ => []) (fun z => n - z.1) ⟨0, Nat.zero_le n, fun j hj => by omega⟩ (fun z => ?_)
    obtain ⟨i, hi, hall⟩ := z
    refine aw_reg0 (aw_ifsd ((↑i : Int) < (↑n : Int)) (fun h1 => aw_skips (aw_blocks (aw_reg (True ∧ (0 : Int) ≤ (↑i : Int) ∧ (↑i : Int) < (↑n : Int)) (by (simp only [inRange_i64, true_and]; omega)) (aw_reg0 (?_))))) (fun h2 => aw_exits (round_exit (blk_exit (seq_normal (aw_reg0 (aw_ret (end_d (D.agg [D.val (Value.int IntKind.u8 (0 : Int)), D.val (Value.int IntKind.i64 (0 : Int)), D.val (Value.int IntKind.i64 (0 : Int)), D.val (Value.int IntKind.i64 (0 : Int))]) ?_))))))))
    · have hx := hin i (by omega)
      refine aw_loopE (ι := {k : Nat // k ≤ (x i).c.ho.toNat ∧ ∀ l, l < k → staffP h (x i) ((x i).first + l) = false}) hm0 (T81_ok K) (fun z => [(21, i6 z.1)]) (fun _ => []) (fun z => (x i).c.ho.toNat - z.1) ⟨0, Nat.zero_le _, fun j hj => by omega⟩ (fun z => ?_)
      obtain ⟨k, hk, hall2⟩ := z
      refine aw_reg0 (aw_ifsd ((↑k : Int) < (x i).c.ho) (fun h2 => aw_skips (aw_blocks (aw_reg0 (aw_reg (True ∧ inRange IntKind.i64 ((x i).first + (↑k : Int))) (by (simp only [inRange_i64, true_and]; omega)) (aw_reg (True ∧ ((∀ (i : Nat), i < h.n → [i6 (h.st i)] = [i6 (h.st i)]) ∧ ∀ (i : Nat), i < h.m → [i6 (h.en i)] = [i6 (h.en i)]) ∧ (0 : Int) ≤ (x i).first + (↑k : Int) ∧ (x i).first + (↑k : Int) < (↑h.n : Int)) (by ((try simp only [inRange_i64] at *); (repeat' (with_reducible apply And.intro)) <;> first | exact True.intro | exact fun _ _ => rfl | omega | assumption | (intros; simp [freeL, freeD]; done))) (aw_ife (h.st (Int.toNat ((x i).first + (↑k : Int)))) ((0 : Int)) (fun h3 => aw_reg0 (aw_ret (blk_ret (seq_ret (round_ret (blk_ret (blk_ret (seq_ret (round_ret (blk_ret (seq_ret (end_d (D.agg [D.val (Value.int IntKind.u8 rule), D.val (Value.int IntKind.i64 (↑i : Int)), D.val (Value.int IntKind.i64 (0 : Int)), D.val (Value.int IntKind.i64 ((x i).first + (↑k : Int)))]) ?_)))))))))))) (fun h4 => aw_skip (blk_normal (seq_normal (aw_end (True ∧ inRange IntKind.i64 ((↑k : Int) + (1 : Int))) (by (simp only [inRange_i64, true_and]; omega)) (round_t 3 ((∀ (i : Nat), i < n → True ∧ True ∧ True ∧ True ∧ True ∧ True ∧ True ∧ True ∧ True) ∧ (True ∧ (True ∧ True ∧ (∀ (i : Nat), i < h.n → True ∧ True) ∧ (∀ (i : Nat), i < h.m → True ∧ True) ∧ True) ∧ True) ∧ (∀ (i : Nat), i < n → True ∧ True ∧ True ∧ True ∧ True ∧ True ∧ True ∧ True ∧ True) ∧ (True ∧ True ∧ True ∧ True ∧ True ∧ True ∧ True ∧ True ∧ True) ∧ (True ∧ True ∧ True ∧ True ∧ True ∧ True ∧ True ∧ True ∧ True) ∧ True) (True ∧ True ∧ True) (by (simp)) (by trivial) ?_))))))))))) (fun h5 => aw_exits (round_exit (blk_exit (blk_normal (seq_normal (aw_end (True ∧ inRange IntKind.i64 ((↑i : Int) + (1 : Int))) (by (simp only [inRange_i64, true_and]; omega)) (round_t 2 ((∀ (i : Nat), i < n → True ∧ True ∧ True ∧ True ∧ True ∧ True ∧ True ∧ True ∧ True) ∧ (True ∧ (True ∧ True ∧ (∀ (i : Nat), i < h.n → True ∧ True) ∧ (∀ (i : Nat), i < h.m → True ∧ True) ∧ True) ∧ True) ∧ (∀ (i : Nat), i < n → True ∧ True ∧ True ∧ True ∧ True ∧ True ∧ True ∧ True ∧ True) ∧ True) (True ∧ True) (by (simp)) (by trivial) ?_))))))))
      · have e := fst2_at (p := fun i k => staffP h (x i) ((x i).first + k)) (m := fun i => (x i).c.ho.toNat) (n := n) (i := i) (k := k) (by omega) (by omega) (by simp_all [staffP, weakP]) hall2 hall
        simp [hourB, e, breD]
      · exact round_v ⟨k + 1, by omega, fun l hl => by
          rcases Nat.lt_or_ge l k with h | h
          · exact hall2 l h
          · have : l = k := by omega
            subst this; simp_all [staffP, weakP]⟩ (by show (x i).c.ho.toNat - (k + 1) < (x i).c.ho.toNat - k; omega)
      · exact round_v ⟨i + 1, by omega, fun j hj l hl => by
          rcases Nat.lt_or_ge j i with h | h
          · exact hall j h l hl
          · have : j = i := by omega
            subst this; exact hall2 l (by omega)⟩ (by show n - (i + 1) < n - i; omega)
    · have hin' : i = n := by omega
      subst hin'
      have e := fst2_none (p := fun i k => staffP h (x i) ((x i).first + k)) (m := fun i => (x i).c.ho.toNat) hall
      simp [hourB, e, breD, bre0]

theorem hour81_alone (h : Hall) (n : Nat) (x : Nat → Run) (rule : Int) (hin : inC h.m n x) (hn : n ≤ 1000000 ∧ h.m ≤ 1000000) : Alone PG 85 [rowR n x, .val (.int .u8 rule), .fn 81 [] [.ref (hallD h) 0]] (.agg (breD (hourB rule (weakP h) n x))) :=
  Alone.ofW (cl := T81) (raw := false) hm0 T81_ok cf_85 fun K w => by
    refine aw_reg0 (aw_assoc (aw_reg0 (?_)))
    refine aw_loopV (ι := {i : Nat // i ≤ n ∧ ∀ j, j < i → ∀ l, l < (x j).c.ho.toNat → weakP h (x j) ((x j).first + l) = false}) hm0 (T81_ok K) (fun z => [(13, i6 z.1)]) (fun _ => []) (fun z => n - z.1) ⟨0, Nat.zero_le n, fun j hj => by omega⟩ (fun z => ?_)
    obtain ⟨i, hi, hall⟩ := z
    refine aw_reg0 (aw_ifsd ((↑i : Int) < (↑n : Int)) (fun h1 => aw_skips (aw_blocks (aw_reg (True ∧ (0 : Int) ≤ (↑i : Int) ∧ (↑i : Int) < (↑n : Int)) (by (simp only [inRange_i64, true_and]; omega)) (aw_reg0 (?_))))) (fun h2 => aw_exits (round_exit (blk_exit (seq_normal (aw_reg0 (aw_ret (end_d (D.agg [D.val (Value.int IntKind.u8 (0 : Int)), D.val (Value.int IntKind.i64 (0 : Int)), D.val (Value.int IntKind.i64 (0 : Int)), D.val (Value.int IntKind.i64 (0 : Int))]) ?_))))))))
    · have hx := hin i (by omega)
      refine aw_loopE (ι := {k : Nat // k ≤ (x i).c.ho.toNat ∧ ∀ l, l < k → weakP h (x i) ((x i).first + l) = false}) hm0 (T81_ok K) (fun z => [(21, i6 z.1)]) (fun _ => []) (fun z => (x i).c.ho.toNat - z.1) ⟨0, Nat.zero_le _, fun j hj => by omega⟩ (fun z => ?_)
      obtain ⟨k, hk, hall2⟩ := z
      refine aw_reg0 (aw_ifsd ((↑k : Int) < (x i).c.ho) (fun h2 => aw_skips (aw_blocks (aw_reg0 (aw_reg (True ∧ inRange IntKind.i64 ((x i).first + (↑k : Int))) (by (simp only [inRange_i64, true_and]; omega)) (aw_reg (True ∧ ((∀ (i : Nat), i < h.n → [i6 (h.st i)] = [i6 (h.st i)]) ∧ ∀ (i : Nat), i < h.m → [i6 (h.en i)] = [i6 (h.en i)]) ∧ (0 : Int) ≤ (x i).first + (↑k : Int) ∧ (x i).first + (↑k : Int) < (↑h.m : Int)) (by ((try simp only [inRange_i64] at *); (repeat' (with_reducible apply And.intro)) <;> first | exact True.intro | exact fun _ _ => rfl | omega | assumption | (intros; simp [freeL, freeD]; done))) (aw_ifd (h.en (Int.toNat ((x i).first + (↑k : Int))) < (x i).c.en) (fun h3 => aw_reg0 (aw_ret (blk_ret (seq_ret (round_ret (blk_ret (blk_ret (seq_ret (round_ret (blk_ret (seq_ret (end_d (D.agg [D.val (Value.int IntKind.u8 rule), D.val (Value.int IntKind.i64 (↑i : Int)), D.val (Value.int IntKind.i64 (0 : Int)), D.val (Value.int IntKind.i64 ((x i).first + (↑k : Int)))]) ?_)))))))))))) (fun h4 => aw_skip (blk_normal (seq_normal (aw_end (True ∧ inRange IntKind.i64 ((↑k : Int) + (1 : Int))) (by (simp only [inRange_i64, true_and]; omega)) (round_t 3 ((∀ (i : Nat), i < n → True ∧ True ∧ True ∧ True ∧ True ∧ True ∧ True ∧ True ∧ True) ∧ (True ∧ (True ∧ True ∧ (∀ (i : Nat), i < h.n → True ∧ True) ∧ (∀ (i : Nat), i < h.m → True ∧ True) ∧ True) ∧ True) ∧ (∀ (i : Nat), i < n → True ∧ True ∧ True ∧ True ∧ True ∧ True ∧ True ∧ True ∧ True) ∧ (True ∧ True ∧ True ∧ True ∧ True ∧ True ∧ True ∧ True ∧ True) ∧ (True ∧ True ∧ True ∧ True ∧ True ∧ True ∧ True ∧ True ∧ True) ∧ True) (True ∧ True ∧ True) (by (simp)) (by trivial) ?_))))))))))) (fun h5 => aw_exits (round_exit (blk_exit (blk_normal (seq_normal (aw_end (True ∧ inRange IntKind.i64 ((↑i : Int) + (1 : Int))) (by (simp only [inRange_i64, true_and]; omega)) (round_t 2 ((∀ (i : Nat), i < n → True ∧ True ∧ True ∧ True ∧ True ∧ True ∧ True ∧ True ∧ True) ∧ (True ∧ (True ∧ True ∧ (∀ (i : Nat), i < h.n → True ∧ True) ∧ (∀ (i : Nat), i < h.m → True ∧ True) ∧ True) ∧ True) ∧ (∀ (i : Nat), i < n → True ∧ True ∧ True ∧ True ∧ True ∧ True ∧ True ∧ True ∧ True) ∧ True) (True ∧ True) (by (simp)) (by trivial) ?_))))))))
      · have e := fst2_at (p := fun i k => weakP h (x i) ((x i).first + k)) (m := fun i => (x i).c.ho.toNat) (n := n) (i := i) (k := k) (by omega) (by omega) (by simp_all [staffP, weakP]) hall2 hall
        simp [hourB, e, breD]
      · exact round_v ⟨k + 1, by omega, fun l hl => by
          rcases Nat.lt_or_ge l k with h | h
          · exact hall2 l h
          · have : l = k := by omega
            subst this; simp_all [staffP, weakP]⟩ (by show (x i).c.ho.toNat - (k + 1) < (x i).c.ho.toNat - k; omega)
      · exact round_v ⟨i + 1, by omega, fun j hj l hl => by
          rcases Nat.lt_or_ge j i with h | h
          · exact hall j h l hl
          · have : j = i := by omega
            subst this; exact hall2 l (by omega)⟩ (by show n - (i + 1) < n - i; omega)
    · have hin' : i = n := by omega
      subst hin'
      have e := fst2_none (p := fun i k => weakP h (x i) ((x i).first + k)) (m := fun i => (x i).c.ho.toNat) hall
      simp [hourB, e, breD, bre0]

def u8O : D → Option Int
  | .val (.int .u8 x) => some x
  | _ => none
theorem u8O_eq {d : D} {b : Int} (h : u8O d = some b) : d = .val (.int .u8 b) := by
  unfold u8O at h
  split at h
  · cases h; rfl
  · cases h

def R85_80 : List D → Option (Option Prop × D)
  | [d0, d1, .fn 80 [] [d2]] => match runsO d0, u8O d1, hallR d2 with
    | some (p, n, x), some rule, some (q, h) => some (some (p ∧ q ∧ inC h.n n x ∧ n ≤ 1000000 ∧ h.n ≤ 1000000), .agg (breD (hourB rule (staffP h) n x)))
    | _, _, _ => none
  | _ => none
noncomputable def T85_80 := orCl (aloC 85 R85_80) T81
theorem T85_80_ok (K : Cust) : ClOK K PG T85_80 := tab_cons cf_85 (fun ds p d h hp => by
    unfold R85_80 at h
    split at h
    · split at h
      · rename_i e0 e1 e2
        obtain rfl := u8O_eq e1
        cases h
        obtain ⟨h1, h2, h3, h4⟩ := hp _ rfl
        exact ⟨_, less_cons (runsO_less e0 h1) (less_cons (LessD.refl _) (less_cons (less_fn (Less.refl _) (less_cons (hallR_less e2 h2) (Less.refl _))) (Less.refl _))), by simp [freeL, freeD, rowR_free, hallD_free], by simp [freeD, breD_free], hour80_alone _ _ _ _ h3 h4⟩
      · cases h
    · cases h) (T81_ok K)
def R85_81 : List D → Option (Option Prop × D)
  | [d0, d1, .fn 81 [] [d2]] => match runsO d0, u8O d1, hallR d2 with
    | some (p, n, x), some rule, some (q, h) => some (some (p ∧ q ∧ inC h.m n x ∧ n ≤ 1000000 ∧ h.m ≤ 1000000), .agg (breD (hourB rule (weakP h) n x)))
    | _, _, _ => none
  | _ => none
noncomputable def T85_81 := orCl (aloC 85 R85_81) T85_80
theorem T85_81_ok (K : Cust) : ClOK K PG T85_81 := tab_cons cf_85 (fun ds p d h hp => by
    unfold R85_81 at h
    split at h
    · split at h
      · rename_i e0 e1 e2
        obtain rfl := u8O_eq e1
        cases h
        obtain ⟨h1, h2, h3, h4⟩ := hp _ rfl
        exact ⟨_, less_cons (runsO_less e0 h1) (less_cons (LessD.refl _) (less_cons (less_fn (Less.refl _) (less_cons (hallR_less e2 h2) (Less.refl _))) (Less.refl _))), by simp [freeL, freeD, rowR_free, hallD_free], by simp [freeD, breD_free], hour81_alone _ _ _ _ h3 h4⟩
      · cases h
    · cases h) (T85_80_ok K)
def clashB (h : Hall) (a b : Run) : Bool := decide (a.first < b.first + b.c.ho + (bif decide (a.c.cu = b.c.cu) then 0 else h.cl) ∧ b.first < a.first + a.c.ho + (bif decide (a.c.cu = b.c.cu) then 0 else h.cl))
def smallR (r : Run) : Prop := -1000000 ≤ r.first ∧ r.first ≤ 1000000 ∧ 0 ≤ r.c.ho ∧ r.c.ho ≤ 1000000 ∧ 0 ≤ r.c.pr ∧ r.c.pr ≤ 1000000

theorem clash_alone (h : Hall) (a b : Run) (hc : -1000000 ≤ h.cl ∧ h.cl ≤ 1000000) (ha : smallR a) (hb : smallR b) : Alone PG 106 [.agg (hallD h), .agg (runD a), .agg (runD b)] (bD (clashB h a b)) :=
  Alone.ofW (cl := T85_81) (raw := false) hm0 T85_81_ok cf_106 fun K w => by
    refine aw_reg0 (aw_reg0 (aw_assoc (aw_reg0 (aw_ifsne (a.c.cu) (b.c.cu) (fun h1 => aw_reg0 (aw_opens (awr_testd 8 (24 : Nat) ((True ∧ inRange IntKind.i64 (b.first + b.c.ho)) ∧ inRange IntKind.i64 (b.first + b.c.ho + h.cl)) (by (unfold smallR at ha hb; simp only [inRange_i64, true_and]; omega)) (a.first < b.first + b.c.ho + h.cl) (fun h2 => awr_end ((True ∧ inRange IntKind.i64 (a.first + a.c.ho)) ∧ inRange IntKind.i64 (a.first + a.c.ho + h.cl)) (by (unfold smallR at ha hb; simp only [inRange_i64, true_and]; omega)) (aw_ret (end_b (decide (b.first < a.first + a.c.ho + h.cl)) ?_))) (fun h3 => awr_end0 (aw_ret (end_b (false) ?_)))))) (fun h4 => aw_skips (aw_opens (awr_testd 8 (24 : Nat) ((True ∧ inRange IntKind.i64 (b.first + b.c.ho)) ∧ inRange IntKind.i64 (b.first + b.c.ho + (0 : Int))) (by (unfold smallR at ha hb; simp only [inRange_i64, true_and]; omega)) (a.first < b.first + b.c.ho + (0 : Int)) (fun h5 => awr_end ((True ∧ inRange IntKind.i64 (a.first + a.c.ho)) ∧ inRange IntKind.i64 (a.first + a.c.ho + (0 : Int))) (by (unfold smallR at ha hb; simp only [inRange_i64, true_and]; omega)) (aw_ret (end_b (decide (b.first < a.first + a.c.ho + (0 : Int))) ?_))) (fun h6 => awr_end0 (aw_ret (end_b (false) ?_))))))))))
    all_goals (simp_all [clashB]; try omega)

def R106 : List D → Option (Option Prop × D)
  | [d0, d1, d2] => match hallO d0, runO d1, runO d2 with
    | some (p, h), some a, some b => some (some (p ∧ (-1000000 ≤ h.cl ∧ h.cl ≤ 1000000) ∧ smallR a ∧ smallR b), bD (clashB h a b))
    | _, _, _ => none
  | _ => none
noncomputable def T106 := orCl (aloC 106 R106) T85_81
theorem T106_ok (K : Cust) : ClOK K PG T106 := tab_cons cf_106 (fun ds p d h hp => by
    unfold R106 at h
    split at h
    · split at h
      · rename_i e0 e1 e2
        obtain rfl := runO_eq e1
        obtain rfl := runO_eq e2
        cases h
        obtain ⟨h1, h2, h3, h4⟩ := hp _ rfl
        exact ⟨_, less_cons (hallO_less e0 h1) (Less.refl _), by simp [freeL, freeD, runD_free, hallD_free], by simp [freeD], clash_alone _ _ _ h2 h3 h4⟩
      · cases h
    · cases h) (T85_81_ok K)
def tunP (h : Hall) (r : Nat → Run) (i k : Nat) : Bool := decide (i < k) && clashB h (r i) (r k)
def tunB (h : Hall) (n : Nat) (r : Nat → Run) : Bre := match fst2 (tunP h r) (fun _ => n) n with
  | some (i, k) => ⟨4, i, k, 0⟩
  | none => bre0

theorem tunnel_alone (h : Hall) (n : Nat) (x : Nat → Run) (hc : -1000000 ≤ h.cl ∧ h.cl ≤ 1000000) (hs : ∀ i, i < n → smallR (x i)) (hn : n ≤ 1000000) : Alone PG 88 [.agg (hallD h), rowR n x] (.agg (breD (tunB h n x))) :=
  Alone.ofW (cl := T106) (raw := false) hm0 T106_ok cf_88 fun K w => by
    refine aw_reg0 (aw_assoc (aw_reg0 (?_)))
    refine aw_loopV (ι := {i : Nat // i ≤ n ∧ ∀ j, j < i → ∀ l, l < n → tunP h x j l = false}) hm0 (T106_ok K) (fun z => [(10, i6 z.1)]) (fun _ => []) (fun z => n - z.1) ⟨0, Nat.zero_le n, fun j hj => by omega⟩ (fun z => ?_)
    obtain ⟨i, hi, hall⟩ := z
    refine aw_reg0 (aw_ifsd ((↑i : Int) < (↑n : Int)) (fun h1 => aw_skips (aw_blocks (aw_reg (True ∧ (0 : Int) ≤ (↑i : Int) ∧ (↑i : Int) < (↑n : Int)) (by (simp only [inRange_i64, true_and]; omega)) (aw_reg (True ∧ inRange IntKind.i64 ((↑i : Int) + (1 : Int))) (by (simp only [inRange_i64, true_and]; omega)) (?_))))) (fun h2 => aw_exits (round_exit (blk_exit (seq_normal (aw_reg0 (aw_ret (end_d (D.agg [D.val (Value.int IntKind.u8 (0 : Int)), D.val (Value.int IntKind.i64 (0 : Int)), D.val (Value.int IntKind.i64 (0 : Int)), D.val (Value.int IntKind.i64 (0 : Int))]) ?_))))))))
    · have hin : i < n := by omega
      refine aw_loopE (ι := {k : Nat // i + 1 ≤ k ∧ k ≤ n ∧ ∀ l, l < k → tunP h x i l = false}) hm0 (T106_ok K) (fun z => [(7, i6 z.1)]) (fun _ => []) (fun z => n - z.1) ⟨i + 1, Nat.le_refl _, by omega, fun j hj => by simp [tunP]; omega⟩ (fun z => ?_)
      obtain ⟨k, hik, hk, hall2⟩ := z
      refine aw_assoc (aw_reg0 (aw_ifsd ((↑k : Int) < (↑n : Int)) (fun h2 => aw_skips (aw_blocks (aw_reg ((True ∧ (0 : Int) ≤ (↑k : Int) ∧ (↑k : Int) < (↑n : Int)) ∧ ((∀ (i : Nat), i < h.n → [i6 (h.st i)] = [i6 (h.st i)]) ∧ ∀ (i : Nat), i < h.m → [i6 (h.en i)] = [i6 (h.en i)]) ∧ ((-1000000 : Int) ≤ h.cl ∧ h.cl ≤ (1000000 : Int)) ∧ smallR (x i) ∧ smallR (x k)) (by (have q0 := hs i hin; have q1 := hs k (by omega); (try simp only [inRange_i64] at *); (repeat' (with_reducible apply And.intro)) <;> first | exact True.intro | exact fun _ _ => rfl | omega | assumption | (intros; simp [freeL, freeD]; done))) (aw_if (clashB h (x i) (x k)) (fun h3 => aw_reg0 (aw_ret (blk_ret (seq_ret (round_ret (blk_ret (blk_ret (seq_ret (round_ret (blk_ret (seq_ret (end_d (D.agg [D.val (Value.int IntKind.u8 (4 : Int)), D.val (Value.int IntKind.i64 (↑i : Int)), D.val (Value.int IntKind.i64 (↑k : Int)), D.val (Value.int IntKind.i64 (0 : Int))]) ?_)))))))))))) (fun h4 => aw_skip (blk_normal (seq_normal (aw_end (True ∧ inRange IntKind.i64 ((↑k : Int) + (1 : Int))) (by (have q0 := hs i hin; have q1 := hs k (by omega); (try simp only [inRange_i64] at *); (repeat' (with_reducible apply And.intro)) <;> first | exact True.intro | exact fun _ _ => rfl | omega | assumption | (intros; simp [freeL, freeD]; done))) (round_t 4 ((True ∧ True ∧ (∀ (i : Nat), i < h.n → True ∧ True) ∧ (∀ (i : Nat), i < h.m → True ∧ True) ∧ True) ∧ (∀ (i : Nat), i < n → True ∧ True ∧ True ∧ True ∧ True ∧ True ∧ True ∧ True ∧ True) ∧ (∀ (i : Nat), i < n → True ∧ True ∧ True ∧ True ∧ True ∧ True ∧ True ∧ True ∧ True) ∧ (True ∧ True ∧ True ∧ True ∧ True ∧ True ∧ True ∧ True ∧ True) ∧ (True ∧ True ∧ True ∧ True ∧ True ∧ True ∧ True ∧ True ∧ True) ∧ True) (((∀ (i : Nat), i < h.n → True ∧ True) ∧ (∀ (i : Nat), i < h.m → True ∧ True) ∧ True) ∧ True ∧ True ∧ True) (by (simp)) (by (simp)) ?_))))))))) (fun h5 => aw_exits (round_exit (blk_exit (blk_normal (seq_normal (aw_end (True ∧ inRange IntKind.i64 ((↑i : Int) + (1 : Int))) (by (simp only [inRange_i64, true_and]; omega)) (round_t 3 ((True ∧ True ∧ (∀ (i : Nat), i < h.n → True ∧ True) ∧ (∀ (i : Nat), i < h.m → True ∧ True) ∧ True) ∧ (∀ (i : Nat), i < n → True ∧ True ∧ True ∧ True ∧ True ∧ True ∧ True ∧ True ∧ True) ∧ (∀ (i : Nat), i < n → True ∧ True ∧ True ∧ True ∧ True ∧ True ∧ True ∧ True ∧ True) ∧ True) (((∀ (i : Nat), i < h.n → True ∧ True) ∧ (∀ (i : Nat), i < h.m → True ∧ True) ∧ True) ∧ True ∧ True) (by (simp)) (by (simp)) ?_)))))))))
      · have e := fst2_at (p := tunP h x) (m := fun _ => n) (n := n) (i := i) (k := k) (by omega) (by omega) (by simp_all [tunP]; omega) hall2 hall
        simp [tunB, e, breD]
      · exact round_v ⟨k + 1, by omega, by omega, fun l hl => by
          rcases Nat.lt_or_ge l k with h | h
          · exact hall2 l h
          · have : l = k := by omega
            subst this; simp_all [tunP]⟩ (by show n - (k + 1) < n - k; omega)
      · exact round_v ⟨i + 1, by omega, fun j hj l hl => by
          rcases Nat.lt_or_ge j i with h | h
          · exact hall j h l hl
          · have : j = i := by omega
            subst this; exact hall2 l (by omega)⟩ (by show n - (i + 1) < n - i; omega)
    · have hin' : i = n := by omega
      subst hin'
      have e := fst2_none (p := tunP h x) (m := fun _ => i) hall
      simp [tunB, e, breD, bre0]

def R88 : List D → Option (Option Prop × D)
  | [d0, d1] => match hallO d0, runsO d1 with
    | some (p, h), some (q, n, x) => some (some (p ∧ q ∧ (-1000000 ≤ h.cl ∧ h.cl ≤ 1000000) ∧ (∀ i, i < n → smallR (x i)) ∧ n ≤ 1000000), .agg (breD (tunB h n x)))
    | _, _ => none
  | _ => none
noncomputable def T88 := orCl (aloC 88 R88) T106
theorem T88_ok (K : Cust) : ClOK K PG T88 := tab_cons cf_88 (fun ds p d h hp => by
    unfold R88 at h
    split at h
    · split at h
      · rename_i e0 e1
        cases h
        obtain ⟨h1, h2, h3, h4, h5⟩ := hp _ rfl
        exact ⟨_, less_cons (hallO_less e0 h1) (less_cons (runsO_less e1 h2) (Less.refl _)), by simp [freeL, freeD, rowR_free, hallD_free], by simp [freeD, breD_free], tunnel_alone _ _ _ h3 h4 h5⟩
      · cases h
    · cases h) (T106_ok K)
end Go.Ev
end
section
open Go Go.Ev Go.RowKit
namespace Go.Ev
set_option maxRecDepth 100000
set_option linter.all false
def bump (b f add : Int) (c : Nat → Int) (j : Nat) : Int := if b ≤ (j : Int) ∧ (j : Int) < f then c j + add else c j
def arrI (c : Nat → Int) : Nat → Value := fun j => .int .i64 (c j)
theorem bump_set {b t add : Int} {c : Nat → Int} (h0 : 0 ≤ t) (hb : b ≤ t) : (fun j => D.val (.int .i64 (bump b (t + 1) add c j))) = updF (fun j => D.val (.int .i64 (bump b t add c j))) t.toNat [D.val (.int .i64 (bump b t add c t.toNat + add))] := by
  funext j
  show _ = (match Nat.beq j t.toNat with | true => _ | false => _)
  cases h : Nat.beq j t.toNat with
  | true =>
    have e := Nat.eq_of_beq_eq_true h
    subst e
    simp only [bump]
    congr 2
    rw [if_pos (by omega), if_neg (by omega)]
  | false =>
    have e := Nat.ne_of_beq_eq_false h
    simp only [bump]
    congr 2
    by_cases hj : b ≤ (j : Int) ∧ (j : Int) < t
    · rw [if_pos hj, if_pos (by omega)]
    · rw [if_neg hj, if_neg (by omega)]
theorem bump_0 {b add : Int} {c : Nat → Int} : (fun j => D.val (.int .i64 (c j))) = fun j => D.val (.int .i64 (bump b b add c j)) := by
  funext j
  simp only [bump]
  rw [if_neg (by omega)]

theorem count_alone (n : Nat) (r : Run) (add : Int) (c : Nat → Int) (hr : smallR r) (hb : 0 ≤ r.first - r.c.pr ∧ r.first ≤ n) (hc : ∀ j, j < n → -1000000 ≤ c j ∧ c j ≤ 1000000) (ha : -1000000 ≤ add ∧ add ≤ 1000000) (hn : n ≤ 1000000) :
    AloneB PG 92 [.sl 1 0 n 1 none, .agg (runD r), i6 add] (n * 1) (arrI c) (.tup []) (arrI (bump (r.first - r.c.pr) r.first add c)) :=
  AloneB.ofW (cl := T88) hm0 T88_ok cf_92 fun K w b N => by
    have hr' := hr
    unfold smallR at hr'
    refine aw_reg0 (aw_reg (True ∧ inRange IntKind.i64 (r.first - r.c.pr)) (by (simp only [inRange_i64, true_and]; omega)) (?_))
    refine aw_loopE (ι := {t : Int // r.first - r.c.pr ≤ t ∧ t ≤ r.first}) hm0 (T88_ok K) (fun z => [(6, i6 z.1)]) (fun z => [(1, .arr (n * 1) fun j => .val (arrI (bump (r.first - r.c.pr) z.1 add c) j))]) (fun z => (r.first - z.1).toNat) ⟨r.first - r.c.pr, by omega, by omega⟩ (fun z => ?_) (by
      show _ = lst _ _ [(1, .arr (n * 1) fun j => D.val (.int .i64 (bump (r.first - r.c.pr) (r.first - r.c.pr) add c j)))] _
      rw [← bump_0]
      kernel_rfl)
    obtain ⟨t, ht1, ht2⟩ := z
    have hct : t < r.first → -2000000 ≤ bump (r.first - r.c.pr) t add c t.toNat ∧ bump (r.first - r.c.pr) t add c t.toNat ≤ 2000000 := fun h => by
      have := hc t.toNat (by omega)
      unfold bump
      split <;> omega
    refine aw_assoc (aw_reg0 (aw_ifsd (t < r.first) (fun h1 => aw_skips (aw_blocks (aw_end (((((True ∧ (0 : Int) ≤ t ∧ t < (↑n : Int)) ∧ Int.toNat t < n * (1 : Nat)) ∧ inRange IntKind.i64 (bump (r.first - r.c.pr) t add c (Int.toNat t) + add)) ∧ (0 : Int) ≤ t ∧ t < (↑n : Int)) ∧ Int.toNat t + (1 : Nat) ≤ n * (1 : Nat)) (by (have q := hct (by assumption); simp only [arrI, inRange_i64, true_and]; omega)) (blk_normal (seq_normal (aw_end (True ∧ inRange IntKind.i64 (t + (1 : Int))) (by (have q := hct (by assumption); simp only [arrI, inRange_i64, true_and]; omega)) (?_))))))) (fun h2 => aw_exits (round_exit (blk_exit (end_w (fun (j : Nat) => D.val (arrI (bump (r.first - r.c.pr) t add c) j)) ?_))))))
    · refine round_v ⟨t + 1, by omega, by omega⟩ (by show (r.first - (t + 1)).toNat < (r.first - t).toNat; omega) ?_
      show _ = lst _ _ [(1, .arr (n * 1) fun j => D.val (.int .i64 (bump (r.first - r.c.pr) (t + 1) add c j)))] _
      rw [bump_set (by omega) ht1]
      kernel_rfl
    · have : t = r.first := by omega
      subst this
      exact fun j _ => rfl

def valI : Value → Int
  | .int .i64 x => x
  | _ => 0
def R92 (len k : Nat) (c : Nat → Value) : List D → Option (Option Prop × D × (Nat → Value))
  | [d0, d1] => match runO d0, inO d1 with
    | some r, some add => match Nat.beq k 1 with
      | true => some (some ((∀ j, j < len → c j = .int .i64 (valI (c j))) ∧ smallR r ∧ (0 ≤ r.first - r.c.pr ∧ r.first ≤ len) ∧ (∀ j, j < len → -1000000 ≤ valI (c j) ∧ valI (c j) ≤ 1000000) ∧ (-1000000 ≤ add ∧ add ≤ 1000000) ∧ len ≤ 1000000), .tup [], arrI (bump (r.first - r.c.pr) r.first add fun j => valI (c j)))
      | false => none
    | _, _ => none
  | _ => none
noncomputable def T92 := orCl (chgC 92 R92) T88
theorem T92_ok (K : Cust) : ClOK K PG T92 := ClOK.or (chgC_ok (ent cf_92) fun len k c ds p d g' h hp => by
    unfold R92 at h
    split at h
    · split at h
      · rename_i e0 e1
        split at h
        · rename_i hk
          obtain rfl := Nat.eq_of_beq_eq_true hk
          obtain rfl := runO_eq e0
          obtain rfl := inO_eq e1
          cases h
          obtain ⟨h1, h2, h3, h4, h5, h6⟩ := hp _ rfl
          refine ⟨_, Less.refl _, by simp [freeL, freeD, runD_free], ?_⟩
          exact AloneB.congr (fun j hj => h1 j (by omega)) (count_alone len _ _ _ h2 h3 h4 h5 h6)
        · cases h
      · cases h
    · cases h) (T88_ok K)
def prepI (x : Nat → Run) : Nat → Nat → Int
  | 0, _ => 0
  | i + 1, j => bump ((x i).first - (x i).c.pr) (x i).first 1 (prepI x i) j
theorem prepI_bound (x : Nat → Run) : ∀ i j, 0 ≤ prepI x i j ∧ prepI x i j ≤ i
  | 0, j => by simp [prepI]
  | i + 1, j => by
    have := prepI_bound x i j
    simp only [prepI, bump]
    split <;> omega
theorem frz_ints {hp : List Blk} {id n m : Nat} {cap : Option Nat} {f : Nat → D} {c : Nat → Int} (hb : getG hp id = some (.arr m f)) (hm : n ≤ m) (hf : ∀ j, j < n → f j = i6 (c j)) : FrzP hp (.sl id 0 n 1 cap) (rowI n c) :=
  frz_arr hb fun i hi j e hj => by
    cases j with
    | zero =>
      simp at hj
      subst hj
      refine ⟨by omega, ?_⟩
      have : 0 + i * 1 + 0 = i := by omega
      rw [this, hf i hi]
      exact frz_free (by simp [freeD])
    | succ j => simp at hj
def prepC (N n : Nat) (x : Nat → Run) : Prop := ∀ i, i < n → smallR (x i) ∧ 0 ≤ (x i).first - (x i).c.pr ∧ (x i).first ≤ N

theorem prep_alone (h : Hall) (n : Nat) (x : Nat → Run) (hx : prepC h.n n x) (hn : n ≤ 1000000 ∧ h.n ≤ 1000000) : Alone PG 61 [.agg (hallD h), rowR n x] (rowI h.n (prepI x n)) :=
  Alone.ofF (cl := T92) hm0 T92_ok cf_61 fun K w => by
    refine aw_reg0 (aw_reg (True ∧ (0 : Int) ≤ (↑h.n : Int) ∧ (↑h.n : Int) ≤ (↑h.n : Int) ∧ (↑h.n : Int) ≤ (1048576 : Int) ∧ (8 : Nat) * h.n ≤ (16777216 : Nat)) (by (simp only [inRange_i64, true_and]; omega)) (aw_assoc (aw_reg0 (?_))))
    refine aw_loopV (ι := {i : Nat // i ≤ n}) hm0 (T92_ok K) (fun z => [(14, i6 z.1)]) (fun z => [(2, .arr h.n fun j => .val (arrI (prepI x z.1) j))]) (fun z => n - z.1) ⟨0, Nat.zero_le n⟩ (fun z => ?_)
    obtain ⟨i, hi⟩ := z
    refine aw_reg0 (aw_ifsd ((↑i : Int) < (↑n : Int)) (fun h1 => aw_skips (aw_blocks (aw_reg (True ∧ (0 : Int) ≤ (↑i : Int) ∧ (↑i : Int) < (↑n : Int)) (by (simp only [inRange_i64, true_and]; omega)) (aw_end (True ∧ (∀ (j : Nat), j < h.n → ∃ (v : Value), D.val (arrI (prepI x i) j) = D.val v) ∧ h.n * (1 : Nat) = h.n ∧ (∀ (j : Nat), j < h.n → arrI (prepI x i) j = Value.int IntKind.i64 (valI (arrI (prepI x i) j))) ∧ smallR (x i) ∧ ((0 : Int) ≤ (x i).first - (x i).c.pr ∧ (x i).first ≤ (↑h.n : Int)) ∧ (∀ (j : Nat), j < h.n → (-1000000 : Int) ≤ valI (arrI (prepI x i) j) ∧ valI (arrI (prepI x i) j) ≤ (1000000 : Int)) ∧ ((-1000000 : Int) ≤ (1 : Int) ∧ (1 : Int) ≤ (1000000 : Int)) ∧ h.n ≤ (1000000 : Nat)) ?_ (blk_normal (seq_normal (aw_end (True ∧ inRange IntKind.i64 ((↑i : Int) + (1 : Int))) (by (simp only [inRange_i64, true_and]; omega)) (round_t 3 ((True ∧ True ∧ (∀ (i : Nat), i < h.n → True ∧ True) ∧ (∀ (i : Nat), i < h.m → True ∧ True) ∧ True) ∧ (∀ (i : Nat), i < n → True ∧ True ∧ True ∧ True ∧ True ∧ True ∧ True ∧ True ∧ True) ∧ (∀ (i : Nat), i < h.n → True ∧ True) ∧ (∀ (i : Nat), i < n → True ∧ True ∧ True ∧ True ∧ True ∧ True ∧ True ∧ True ∧ True) ∧ True) (((∀ (i : Nat), i < h.n → True ∧ True) ∧ (∀ (i : Nat), i < h.m → True ∧ True) ∧ True) ∧ (∀ (j : Nat), j < h.n → True) ∧ True) (by (simp)) (by (simp)) ?_)))))))) (fun h2 => aw_exits (round_exit (blk_exit (seq_normal (aw_reg0 (aw_ret (end_f (D.sl (2 : Nat) (0 : Nat) h.n (1 : Nat) none) ?_))))))))
    · exact ⟨trivial, fun j _ => ⟨_, rfl⟩, by omega, fun _ _ => rfl, (hx i (by omega)).1, (hx i (by omega)).2, fun j _ => by have := prepI_bound x i j; simp only [arrI, valI]; omega, ⟨by omega, by omega⟩, hn.2⟩
    · exact round_v ⟨i + 1, by omega⟩ (by show n - (i + 1) < n - i; omega)
    · have : i = n := by omega
      subst this
      exact frz_ints (m := h.n) (f := fun j => D.val (arrI (prepI x i) j)) (by kernel_rfl) (Nat.le_refl _) (fun j _ => rfl)

def R61 : List D → Option (Option Prop × D)
  | [d0, d1] => match hallO d0, runsO d1 with
    | some (p, h), some (q, n, x) => some (some (p ∧ q ∧ prepC h.n n x ∧ n ≤ 1000000 ∧ h.n ≤ 1000000), rowI h.n (prepI x n))
    | _, _ => none
  | _ => none
noncomputable def T61 := orCl (aloC 61 R61) T92
theorem T61_ok (K : Cust) : ClOK K PG T61 := tab_cons cf_61 (fun ds p d h hp => by
    unfold R61 at h
    split at h
    · split at h
      · rename_i e0 e1
        cases h
        obtain ⟨h1, h2, h3, h4⟩ := hp _ rfl
        exact ⟨_, less_cons (hallO_less e0 h1) (less_cons (runsO_less e1 h2) (Less.refl _)), by simp [freeL, freeD, rowR_free, hallD_free], rowI_free _ _, prep_alone _ _ _ h3 h4⟩
      · cases h
    · cases h) (T92_ok K)
theorem many_alone (h : Hall) (t : Int) : Alone PG 107 [i6 t, .ref (hallD h) 0] (bD (decide (t > h.ro))) :=
  Alone.ofW (cl := T61) (raw := false) hm0 T61_ok cf_107 fun K w => by
    refine aw_reg0 (aw_reg0 (aw_ret (end_b (decide (t > h.ro)) ?_)))
    rfl

def R107 : List D → Option (Option Prop × D)
  | [d0, d1] => match inO d0, hallR d1 with
    | some t, some (p, h) => some (some p, bD (decide (t > h.ro)))
    | _, _ => none
  | _ => none
noncomputable def T107 := orCl (aloC 107 R107) T61
theorem T107_ok (K : Cust) : ClOK K PG T107 := tab_cons cf_107 (fun ds p d h hp => by
    unfold R107 at h
    split at h
    · split at h
      · rename_i e0 e1
        obtain rfl := inO_eq e0
        cases h
        exact ⟨_, less_cons (LessD.refl _) (less_cons (hallR_less e1 (hp _ rfl)) (Less.refl _)), by simp [freeL, freeD, hallD_free], by simp [freeD], many_alone _ _⟩
      · cases h
    · cases h) (T61_ok K)
theorem ix107 (h : Hall) (n : Nat) (x : Nat → Int) (hn : n ≤ 1000000) : Alone PG 66 [rowI n x, .fn 107 [] [.ref (hallD h) 0]] (i6 (findI (fun i => decide (x i > h.ro)) n)) :=
  Alone.ofW (cl := T107) (raw := false) hm0 T107_ok cf_66 fun K w => by
    refine aw_reg0 (aw_assoc (aw_reg0 (?_)))
    refine aw_loopV (ι := {i : Nat // i ≤ n ∧ ∀ j, j < i → (decide (x j > h.ro)) = false}) hm0 (T107_ok K) (fun z => [(8, i6 z.1)]) (fun _ => []) (fun z => n - z.1) ⟨0, Nat.zero_le n, fun j hj => by omega⟩ (fun z => ?_)
    obtain ⟨i, hin, hall⟩ := z
    
    refine aw_reg0 (aw_ifsd ((↑i : Int) < (↑n : Int)) (fun h1 => aw_skips (aw_blocks (aw_reg0 (aw_reg ((True ∧ (0 : Int) ≤ (↑i : Int) ∧ (↑i : Int) < (↑n : Int)) ∧ (∀ (i : Nat), i < h.n → [i6 (h.st i)] = [i6 (h.st i)]) ∧ ∀ (i : Nat), i < h.m → [i6 (h.en i)] = [i6 (h.en i)]) (by ((try simp only [inRange_i64] at *); (repeat' (with_reducible apply And.intro)) <;> first | exact True.intro | exact fun _ _ => rfl | omega | assumption | (intros; simp [freeL, freeD]; done))) (aw_ifd (x i > h.ro) (fun h2 => aw_reg0 (aw_ret (blk_ret (seq_ret (round_ret (blk_ret (seq_ret (end_i ((↑i : Int)) ?_)))))))) (fun h3 => aw_skip (blk_normal (seq_normal (aw_end (True ∧ inRange IntKind.i64 ((↑i : Int) + (1 : Int))) (by (simp only [inRange_i64, true_and]; omega)) (round_t 1 ((∀ (i : Nat), i < n → True ∧ True) ∧ (True ∧ (True ∧ True ∧ (∀ (i : Nat), i < h.n → True ∧ True) ∧ (∀ (i : Nat), i < h.m → True ∧ True) ∧ True) ∧ True) ∧ (∀ (i : Nat), i < n → True ∧ True) ∧ True) (True) (by (simp)) (by trivial) ?_)))))))))) (fun h4 => aw_exits (round_exit (blk_exit (seq_normal (aw_reg0 (aw_ret (end_i ((-1 : Int)) ?_))))))))
    · exact (findI_at (p := fun i => decide (x i > h.ro)) (by omega) (by simp_all [intL_i6]; try omega) hall).symm
    · exact round_v ⟨i + 1, by omega, fun j hj => by
        rcases Nat.lt_or_ge j i with h | h
        · exact hall j h
        · have : j = i := by omega
          subst this; simp_all [intL_i6]; try omega⟩ (by show n - (i + 1) < n - i; omega)
    · have hin' : i = n := by omega
      subst hin'
      exact (findI_none hall).symm

def R66_107 : List D → Option (Option Prop × D)
  | [d0, .fn 107 [] [d1]] => match intsO d0, hallR d1 with
    | some (p, n, x), some (q, h) => some (some (p ∧ q ∧ n ≤ 1000000), i6 (findI (fun i => decide (x i > h.ro)) n))
    | _, _ => none
  | _ => none
noncomputable def T66_107 := orCl (seeC 66 R66_107) T107
theorem T66_107_ok (K : Cust) : ClOK K PG T66_107 := tab_see cf_66 (fun ds p d h hp => by
    unfold R66_107 at h
    split at h
    · split at h
      · rename_i e0 e1
        cases h
        obtain ⟨h1, h2, h3⟩ := hp _ rfl
        exact ⟨_, less_cons (intsO_less e0 h1) (less_cons (less_fn (Less.refl _) (less_cons (hallR_less e1 h2) (Less.refl _))) (Less.refl _)), ix107 _ _ _ h3⟩
      · cases h
    · cases h) (T107_ok K)
def roomB (h : Hall) (n : Nat) (x : Nat → Run) : Bre := bif decide (findI (fun i => decide (prepI x n i > h.ro)) h.n ≥ 0) then ⟨5, 0, 0, findI (fun i => decide (prepI x n i > h.ro)) h.n⟩ else bre0

theorem room_alone (h : Hall) (n : Nat) (x : Nat → Run) (hx : prepC h.n n x) (hn : n ≤ 1000000 ∧ h.n ≤ 1000000) : Alone PG 90 [.agg (hallD h), rowR n x] (.agg (breD (roomB h n x))) :=
  Alone.ofW (cl := T66_107) (raw := false) hm0 T66_107_ok cf_90 fun K w => by
    refine aw_reg0 (aw_reg0 (aw_assoc (aw_reg ((True ∧ ((∀ (i : Nat), i < h.n → [i6 (h.st i)] = [i6 (h.st i)]) ∧ ∀ (i : Nat), i < h.m → [i6 (h.en i)] = [i6 (h.en i)]) ∧ (∀ (i : Nat), i < n → runD (x i) = runD (x i)) ∧ prepC h.n n x ∧ n ≤ (1000000 : Nat) ∧ h.n ≤ (1000000 : Nat)) ∧ ((∀ (i : Nat), i < h.n → True ∧ True) ∧ (∀ (i : Nat), i < h.n → True ∧ True) ∧ ∀ (i : Nat), i < h.m → True ∧ True) ∧ (∀ (i : Nat), i < h.n → [i6 (prepI x n i)] = [i6 (prepI x n i)]) ∧ ((∀ (i : Nat), i < h.n → [i6 (h.st i)] = [i6 (h.st i)]) ∧ ∀ (i : Nat), i < h.m → [i6 (h.en i)] = [i6 (h.en i)]) ∧ h.n ≤ (1000000 : Nat)) (by ((try simp only [inRange_i64] at *); (repeat' (with_reducible apply And.intro)) <;> first | exact True.intro | exact fun _ _ => rfl | omega | assumption | (intros; simp [freeL, freeD]; done))) (aw_assoc (aw_reg0 (aw_ifsd (findI (fun (i : Nat) => decide (prepI x n i > h.ro)) h.n ≥ (0 : Int)) (fun h1 => aw_assoc (aw_reg0 (aw_rets (end_d (D.agg [D.val (Value.int IntKind.u8 (5 : Int)), D.val (Value.int IntKind.i64 (0 : Int)), D.val (Value.int IntKind.i64 (0 : Int)), D.val (Value.int IntKind.i64 (findI (fun (i : Nat) => decide (prepI x n i > h.ro)) h.n))]) ?_)))) (fun h2 => aw_skips (aw_reg0 (aw_ret (end_d (D.agg [D.val (Value.int IntKind.u8 (0 : Int)), D.val (Value.int IntKind.i64 (0 : Int)), D.val (Value.int IntKind.i64 (0 : Int)), D.val (Value.int IntKind.i64 (0 : Int))]) ?_))))))))))
    · unfold roomB; rw [decide_eq_true h1]; rfl
    · unfold roomB; rw [decide_eq_false h2]; rfl

def R90 : List D → Option (Option Prop × D)
  | [d0, d1] => match hallO d0, runsO d1 with
    | some (p, h), some (q, n, x) => some (some (p ∧ q ∧ prepC h.n n x ∧ n ≤ 1000000 ∧ h.n ≤ 1000000), .agg (breD (roomB h n x)))
    | _, _ => none
  | _ => none
noncomputable def T90 := orCl (aloC 90 R90) T66_107
theorem T90_ok (K : Cust) : ClOK K PG T90 := tab_cons cf_90 (fun ds p d h hp => by
    unfold R90 at h
    split at h
    · split at h
      · rename_i e0 e1
        cases h
        obtain ⟨h1, h2, h3, h4⟩ := hp _ rfl
        exact ⟨_, less_cons (hallO_less e0 h1) (less_cons (runsO_less e1 h2) (Less.refl _)), by simp [freeL, freeD, rowR_free, hallD_free], by simp [freeD, breD_free], room_alone _ _ _ h3 h4⟩
      · cases h
    · cases h) (T66_107_ok K)
end Go.Ev
end
