import Derived.Test.YtmekepomgofiaaaHA
import Derived.Test.YtmekepomgofiaaaEvZo
import Derived.Test.YtmekepomgofiaaaEvZp
set_option linter.all false
open Go Go.Ev Go.RowKit
namespace Go.Ev
set_option maxRecDepth 100000
set_option linter.all false

structure Bre where
  rule : Int
  a : Int
  b : Int
  hour : Int
def breD (b : Bre) : List D := [.val (.int .u8 b.rule), i6 b.a, i6 b.b, i6 b.hour]
def bre0 : Bre := ⟨0, 0, 0, 0⟩
theorem breD_free (b : Bre) : freeL (breD b) := by simp [breD, freeL, freeD]
/-- the first pair -/
def fst2 (p : Nat → Nat → Bool) (m : Nat → Nat) (n : Nat) : Option (Nat × Nat) := match (List.range n).find? fun i => (List.range (m i)).any (p i) with
  | some i => match (List.range (m i)).find? (p i) with
    | some k => some (i, k)
    | none => none
  | none => none
theorem fst2_at {p : Nat → Nat → Bool} {m : Nat → Nat} {n i k : Nat} (hi : i < n) (hk : k < m i) (hp : p i k = true) (h1 : ∀ j, j < k → p i j = false) (h2 : ∀ j, j < i → ∀ l, l < m j → p j l = false) : fst2 p m n = some (i, k) := by
  have e1 : (List.range n).find? (fun i => (List.range (m i)).any (p i)) = some i := by
    rw [List.find?_range_eq_some]
    refine ⟨by simp only [List.any_eq_true, List.mem_range]; exact ⟨k, hk, hp⟩, List.mem_range.2 hi, fun j hj => ?_⟩
    simp only [List.any_eq_true, List.mem_range, Bool.not_eq_true', List.any_eq_false]
    simpa using h2 j hj
  have e2 : (List.range (m i)).find? (p i) = some k := by
    rw [List.find?_range_eq_some]
    exact ⟨hp, List.mem_range.2 hk, fun j hj => by simp [h1 j hj]⟩
  unfold fst2
  rw [e1]
  simp only [e2]
theorem fst2_none {p : Nat → Nat → Bool} {m : Nat → Nat} {n : Nat} (h : ∀ j, j < n → ∀ l, l < m j → p j l = false) : fst2 p m n = none := by
  have e1 : (List.range n).find? (fun i => (List.range (m i)).any (p i)) = none := by
    rw [List.find?_eq_none]
    intro j hj
    simpa using h j (List.mem_range.1 hj)
  unfold fst2
  rw [e1]
theorem fst2_cases (p : Nat → Nat → Bool) (m : Nat → Nat) (n : Nat) : (∃ i k, i < n ∧ k < m i ∧ p i k = true ∧ (∀ j, j < k → p i j = false) ∧ (∀ j, j < i → ∀ l, l < m j → p j l = false) ∧ fst2 p m n = some (i, k)) ∨ ((∀ j, j < n → ∀ l, l < m j → p j l = false) ∧ fst2 p m n = none) := by
  cases h : (List.range n).find? (fun i => (List.range (m i)).any (p i)) with
  | none =>
    rw [List.find?_eq_none] at h
    have hb : ∀ j, j < n → ∀ l, l < m j → p j l = false := fun j hj l hl => by
      have := h j (List.mem_range.2 hj)
      simp at this
      exact this l hl
    exact .inr ⟨hb, fst2_none hb⟩
  | some i =>
    rw [List.find?_range_eq_some] at h
    obtain ⟨h1, h2, h3⟩ := h
    have hb : ∀ j, j < i → ∀ l, l < m j → p j l = false := fun j hj l hl => by
      have := h3 j hj
      simp at this
      exact this l hl
    cases h' : (List.range (m i)).find? (p i) with
    | none =>
      rw [List.find?_eq_none] at h'
      simp only [List.any_eq_true, List.mem_range] at h1
      obtain ⟨k, hk, hp⟩ := h1
      exact absurd hp (h' k (List.mem_range.2 hk))
    | some k =>
      rw [List.find?_range_eq_some] at h'
      obtain ⟨g1, g2, g3⟩ := h'
      have hkk : ∀ j, j < k → p i j = false := fun j hj => by simpa using g3 j hj
      exact .inl ⟨i, k, List.mem_range.1 h2, List.mem_range.1 g2, g1, hkk, hb, fst2_at (List.mem_range.1 h2) (List.mem_range.1 g2) g1 hkk hb⟩
def lateC (n : Nat) (r : Nat → Run) : Prop := ∀ i, i < n → inRange .i64 ((r i).c.ea + (r i).c.pr) ∧ inRange .i64 ((r i).c.la - (r i).c.ho)
def timeB (n : Nat) (r : Nat → Run) : Bre := bif decide (findI (fun i => lateB (r i)) n ≥ 0) then ⟨1, findI (fun i => lateB (r i)) n, 0, 0⟩ else bre0

theorem ix105 (n : Nat) (x : Nat → Run) (hr : lateC n x) (hn : n ≤ 1000000) : Alone PG 104 [rowR n x, .fn 105 [] []] (i6 (findI (fun i => lateB (x i)) n)) :=
  Alone.ofW (cl := T18) (raw := false) hm0 T18_ok cf_104 fun K w => by
    refine aw_reg0 (aw_assoc (aw_reg0 (?_)))
    refine aw_loopV (ι := {i : Nat // i ≤ n ∧ ∀ j, j < i → (lateB (x j)) = false}) hm0 (T18_ok K) (fun z => [(8, i6 z.1)]) (fun _ => []) (fun z => n - z.1) ⟨0, Nat.zero_le n, fun j hj => by omega⟩ (fun z => ?_)
    obtain ⟨i, hin, hall⟩ := z
    
    refine aw_reg0 (aw_ifsd ((↑i : Int) < (↑n : Int)) (fun h1 => aw_skips (aw_blocks (aw_reg0 (aw_reg ((True ∧ (0 : Int) ≤ (↑i : Int) ∧ (↑i : Int) < (↑n : Int)) ∧ inRange IntKind.i64 ((x i).c.ea + (x i).c.pr) ∧ inRange IntKind.i64 ((x i).c.la - (x i).c.ho)) (by (have q0 := hr i (by omega); (try simp only [inRange_i64] at *); (repeat' (with_reducible apply And.intro)) <;> first | exact True.intro | exact fun _ _ => rfl | omega | assumption | (intros; simp [freeL, freeD]; done))) (aw_if (lateB (x i)) (fun h2 => aw_reg0 (aw_ret (blk_ret (seq_ret (round_ret (blk_ret (seq_ret (end_i ((↑i : Int)) ?_)))))))) (fun h3 => aw_skip (blk_normal (seq_normal (aw_end (True ∧ inRange IntKind.i64 ((↑i : Int) + (1 : Int))) (by (have q0 := hr i (by omega); (try simp only [inRange_i64] at *); (repeat' (with_reducible apply And.intro)) <;> first | exact True.intro | exact fun _ _ => rfl | omega | assumption | (intros; simp [freeL, freeD]; done))) (round_t 1 ((∀ (i : Nat), i < n → True ∧ True ∧ True ∧ True ∧ True ∧ True ∧ True ∧ True ∧ True) ∧ (True ∧ True) ∧ (∀ (i : Nat), i < n → True ∧ True ∧ True ∧ True ∧ True ∧ True ∧ True ∧ True ∧ True) ∧ True) (True) (by (simp)) (by trivial) ?_)))))))))) (fun h4 => aw_exits (round_exit (blk_exit (seq_normal (aw_reg0 (aw_ret (end_i ((-1 : Int)) ?_))))))))
    · exact (findI_at (p := fun i => lateB (x i)) (by omega) (by simp_all [runL_D]; try omega) hall).symm
    · exact round_v ⟨i + 1, by omega, fun j hj => by
        rcases Nat.lt_or_ge j i with h | h
        · exact hall j h
        · have : j = i := by omega
          subst this; simp_all [runL_D]; try omega⟩ (by show n - (i + 1) < n - i; omega)
    · have hin' : i = n := by omega
      subst hin'
      exact (findI_none hall).symm

def R104_105 : List D → Option (Option Prop × D)
  | [d0, .fn 105 [] []] => match runsO d0 with
    | some (p, n, x) => some (some (p ∧ lateC n x ∧ n ≤ 1000000), i6 (findI (fun i => lateB (x i)) n))
    | _ => none
  | _ => none
noncomputable def T104_105 := orCl (aloC 104 R104_105) T18
theorem T104_105_ok (K : Cust) : ClOK K PG T104_105 := tab_cons cf_104 (fun ds p d h hp => by
    unfold R104_105 at h
    split at h
    · split at h
      · rename_i e0
        cases h
        obtain ⟨h1, h2, h3⟩ := hp _ rfl
        exact ⟨_, less_cons (runsO_less e0 h1) (Less.refl _), by simp [freeL, freeD, rowR_free], by simp [freeD], ix105 _ _ h2 h3⟩
      · cases h
    · cases h) (T18_ok K)
theorem time_alone (n : Nat) (x : Nat → Run) (hr : lateC n x) (hn : n ≤ 1000000) : Alone PG 83 [rowR n x] (.agg (breD (timeB n x))) :=
  Alone.ofW (cl := T104_105) (raw := false) hm0 T104_105_ok cf_83 fun K w => by
    refine aw_reg0 (aw_assoc (aw_reg (True ∧ (∀ (i : Nat), i < n → runD (x i) = runD (x i)) ∧ lateC n x ∧ n ≤ (1000000 : Nat)) (by ((try simp only [inRange_i64] at *); (repeat' (with_reducible apply And.intro)) <;> first | exact True.intro | exact fun _ _ => rfl | omega | assumption | (intros; simp [freeL, freeD]; done))) (aw_assoc (aw_reg0 (aw_ifsd (findI (fun (i : Nat) => lateB (x i)) n ≥ (0 : Int)) (fun h1 => aw_assoc (aw_reg0 (aw_rets (end_d (D.agg [D.val (Value.int IntKind.u8 (1 : Int)), D.val (Value.int IntKind.i64 (findI (fun (i : Nat) => lateB (x i)) n)), D.val (Value.int IntKind.i64 (0 : Int)), D.val (Value.int IntKind.i64 (0 : Int))]) ?_)))) (fun h2 => aw_skips (aw_reg0 (aw_ret (end_d (D.agg [D.val (Value.int IntKind.u8 (0 : Int)), D.val (Value.int IntKind.i64 (0 : Int)), D.val (Value.int IntKind.i64 (0 : Int)), D.val (Value.int IntKind.i64 (0 : Int))]) ?_)))))))))
    · unfold timeB; rw [decide_eq_true h1]; rfl
    · unfold timeB; rw [decide_eq_false h2]; rfl

def R83 : List D → Option (Option Prop × D)
  | [d0] => match runsO d0 with
    | some (p, n, x) => some (some (p ∧ lateC n x ∧ n ≤ 1000000), .agg (breD (timeB n x)))
    | _ => none
  | _ => none
noncomputable def T83 := orCl (aloC 83 R83) T104_105
theorem T83_ok (K : Cust) : ClOK K PG T83 := tab_cons cf_83 (fun ds p d h hp => by
    unfold R83 at h
    split at h
    · split at h
      · rename_i e0
        cases h
        obtain ⟨h1, h2, h3⟩ := hp _ rfl
        exact ⟨_, less_cons (runsO_less e0 h1) (Less.refl _), by simp [freeL, freeD, rowR_free], by simp [freeD, breD_free], time_alone _ _ h2 h3⟩
      · cases h
    · cases h) (T104_105_ok K)
theorem nobody_alone (h : Hall) (r : Run) (t : Int) (ht : 0 ≤ t ∧ t < h.n) : Alone PG 80 [.agg (runD r), i6 t, .ref (hallD h) 0] (bD (h.st t.toNat == 0)) :=
  Alone.ofW (cl := T83) (raw := false) hm0 T83_ok cf_80 fun K w => by
    refine aw_reg0 (aw_reg (True ∧ (0 : Int) ≤ t ∧ t < (↑h.n : Int)) (by exact ⟨trivial, by assumption⟩) (aw_ret (end_b (h.st (Int.toNat t) == (0 : Int)) ?_)))
    rfl

def R80 : List D → Option (Option Prop × D)
  | [d0, d1, d2] => match runO d0, inO d1, hallR d2 with
    | some r, some t, some (p, h) => some (some (p ∧ 0 ≤ t ∧ t < h.n), bD (h.st t.toNat == 0))
    | _, _, _ => none
  | _ => none
noncomputable def T80 := orCl (aloC 80 R80) T83
theorem T80_ok (K : Cust) : ClOK K PG T80 := tab_cons cf_80 (fun ds p d h hp => by
    unfold R80 at h
    split at h
    · split at h
      · rename_i e0 e1 e2
        obtain rfl := runO_eq e0
        obtain rfl := inO_eq e1
        cases h
        obtain ⟨h1, h2⟩ := hp _ rfl
        exact ⟨_, less_cons (LessD.refl _) (less_cons (LessD.refl _) (less_cons (hallR_less e2 h1) (Less.refl _))), by simp [freeL, freeD, runD_free, hallD_free], by simp [freeD], nobody_alone _ _ _ h2⟩
      · cases h
    · cases h) (T83_ok K)
theorem weak_alone (h : Hall) (r : Run) (t : Int) (ht : 0 ≤ t ∧ t < h.m) : Alone PG 81 [.agg (runD r), i6 t, .ref (hallD h) 0] (bD (decide (h.en t.toNat < r.c.en))) :=
  Alone.ofW (cl := T80) (raw := false) hm0 T80_ok cf_81 fun K w => by
    refine aw_reg0 (aw_reg (True ∧ (0 : Int) ≤ t ∧ t < (↑h.m : Int)) (by exact ⟨trivial, by assumption⟩) (aw_ret (end_b (decide (h.en (Int.toNat t) < r.c.en)) ?_)))
    rfl

def R81 : List D → Option (Option Prop × D)
  | [d0, d1, d2] => match runO d0, inO d1, hallR d2 with
    | some r, some t, some (p, h) => some (some (p ∧ 0 ≤ t ∧ t < h.m), bD (decide (h.en t.toNat < r.c.en)))
    | _, _, _ => none
  | _ => none
noncomputable def T81 := orCl (aloC 81 R81) T80
theorem T81_ok (K : Cust) : ClOK K PG T81 := tab_cons cf_81 (fun ds p d h hp => by
    unfold R81 at h
    split at h
    · split at h
      · rename_i e0 e1 e2
        obtain rfl := runO_eq e0
        obtain rfl := inO_eq e1
        cases h
        obtain ⟨h1, h2⟩ := hp _ rfl
        exact ⟨_, less_cons (LessD.refl _) (less_cons (LessD.refl _) (less_cons (hallR_less e2 h1) (Less.refl _))), by simp [freeL, freeD, runD_free, hallD_free], by simp [freeD], weak_alone _ _ _ h2⟩
      · cases h
    · cases h) (T80_ok K)
def inC (N : Nat) (n : Nat) (r : Nat → Run) : Prop := ∀ i, i < n → 0 ≤ (r i).first ∧ 0 ≤ (r i).c.ho ∧ (r i).first + (r i).c.ho ≤ N
def hourB (rule : Int) (p : Run → Int → Bool) (n : Nat) (r : Nat → Run) : Bre := match fst2 (fun i k => p (r i) ((r i).first + k)) (fun i => (r i).c.ho.toNat) n with
  | some (i, k) => ⟨rule, i, 0, (r i).first + k⟩
  | none => bre0
def staffP (h : Hall) (_ : Run) (t : Int) : Bool := h.st t.toNat == 0
def weakP (h : Hall) (r : Run) (t : Int) : Bool := decide (h.en t.toNat < r.c.en)

theorem hour80_alone (h : Hall) (n : Nat) (x : Nat → Run) (rule : Int) (hin : inC h.n n x) (hn : n ≤ 1000000 ∧ h.n ≤ 1000000) : Alone PG 85 [rowR n x, .val (.int .u8 rule), .fn 80 [] [.ref (hallD h) 0]] (.agg (breD (hourB rule (staffP h) n x))) :=
  Alone.ofW (cl := T81) (raw := false) hm0 T81_ok cf_85 fun K w => by
    refine aw_reg0 (aw_assoc (aw_reg0 (?_)))
    refine aw_loopV (ι := {i : Nat // i ≤ n ∧ ∀ j, j < i → ∀ l, l < (x j).c.ho.toNat → staffP h (x j) ((x j).first + l) = false}) hm0 (T81_ok K) (fun z => [(13, i6 z.1)]) (fun _ => []) (fun z => n - z.1) ⟨0, Nat.zero_le n, fun j hj => by omega⟩ (fun z => ?_)
    obtain ⟨i, hi, hall⟩ := z
    refine aw_reg0 (aw_ifsd ((↑i : Int) < (↑n : Int)) (fun h1 => aw_skips (aw_blocks (aw_reg (True ∧ (0 : Int) ≤ (↑i : Int) ∧ (↑i : Int) < (↑n : Int)) (by (simp only [inRange_i64, true_and]; omega)) (aw_reg0 (?_))))) (fun h2 => aw_exits (round_exit (blk_exit (seq_normal (aw_reg0 (aw_ret (end_d (D.agg [D.val (Value.int IntKind.u8 (0 : Int)), D.val (Value.int IntKind.i64 (0 : Int)), D.val (Value.int IntKind.i64 (0 : Int)), D.val (Value.int IntKind.i64 (0 : Int))]) ?_))))))))
    · have hx := hin i (by omega)
      refine aw_loopE (ι := {k : Nat // k ≤ (x i).c.ho.toNat ∧ ∀ l, l < k → staffP h (x i) ((x i).first + l) = false}) hm0 (T81_ok K) (fun z => [(21, i6 z.1)]) (fun _ => []) (fun z => (x i).c.ho.toNat - z.1) ⟨0, Nat.zero_le _, fun j hj => by omega⟩ (fun z => ?_)
      obtain ⟨k, hk, hall2⟩ := z
      refine aw_reg0 (aw_ifsd ((↑k : Int) < (x i).c.ho) (fun h2 => aw_skips (aw_blocks (aw_reg0 (aw_reg (True ∧ inRange IntKind.i64 ((x i).first + (↑k : Int))) (by (simp only [inRange_i64, true_and]; omega)) (aw_reg (True ∧ ((∀ (i : Nat), i < h.n → [i6 (h.st i)] = [i6 (h.st i)]) ∧ ∀ (i : Nat), i < h.m → [i6 (h.en i)] = [i6 (h.en i)]) ∧ (0 : Int) ≤ (x i).first + (↑k : Int) ∧ (x i).first + (↑k : Int) < (↑h.n : Int)) (by ((try simp only [inRange_i64] at *); (repeat' (with_reducible apply And.intro)) <;> first | exact True.intro | exact fun _ _ => rfl | omega | assumption | (intros; simp [freeL, freeD]; done))) (aw_ife (h.st (Int.toNat ((x i).first + (↑k : Int)))) ((0 : Int)) (fun h3 => aw_reg0 (aw_ret (blk_ret (seq_ret (round_ret (blk_ret (blk_ret (seq_ret (round_ret (blk_ret (seq_ret (end_d (D.agg [D.val (Value.int IntKind.u8 rule), D.val (Value.int IntKind.i64 (↑i : Int)), D.val (Value.int IntKind.i64 (0 : Int)), D.val (Value.int IntKind.i64 ((x i).first + (↑k : Int)))]) ?_)))))))))))) (fun h4 => aw_skip (blk_normal (seq_normal (aw_end (True ∧ inRange IntKind.i64 ((↑k : Int) + (1 : Int))) (by (simp only [inRange_i64, true_and]; omega)) (round_t 3 ((∀ (i : Nat), i < n → True ∧ True ∧ True ∧ True ∧ True ∧ True ∧ True ∧ True ∧ True) ∧ (True ∧ (True ∧ True ∧ (∀ (i : Nat), i < h.n → True ∧ True) ∧ (∀ (i : Nat), i < h.m → True ∧ True) ∧ True) ∧ True) ∧ (∀ (i : Nat), i < n → True ∧ True ∧ True ∧ True ∧ True ∧ True ∧ True ∧ True ∧ True) ∧ (True ∧ True ∧ True ∧ True ∧ True ∧ True ∧ True ∧ True ∧ True) ∧ (True ∧ True ∧ True ∧ True ∧ True ∧ True ∧ True ∧ True ∧ True) ∧ True) (True ∧ True ∧ True) (by (simp)) (by trivial) ?_))))))))))) (fun h5 => aw_exits (round_exit (blk_exit (blk_normal (seq_normal (aw_end (True ∧ inRange IntKind.i64 ((↑i : Int) + (1 : Int))) (by (simp only [inRange_i64, true_and]; omega)) (round_t 2 ((∀ (i : Nat), i < n → True ∧ True ∧ True ∧ True ∧ True ∧ True ∧ True ∧ True ∧ True) ∧ (True ∧ (True ∧ True ∧ (∀ (i : Nat), i < h.n → True ∧ True) ∧ (∀ (i : Nat), i < h.m → True ∧ True) ∧ True) ∧ True) ∧ (∀ (i : Nat), i < n → True ∧ True ∧ True ∧ True ∧ True ∧ True ∧ True ∧ True ∧ True) ∧ True) (True ∧ True) (by (simp)) (by trivial) ?_))))))))
      · have e := fst2_at (p := fun i k => staffP h (x i) ((x i).first + k)) (m := fun i => (x i).c.ho.toNat) (n := n) (i := i) (k := k) (by omega) (by omega) (by simp_all [staffP, weakP]) hall2 hall
        simp [hourB, e, breD]
      · exact round_v ⟨k + 1, by omega, fun l hl => by
          rcases Nat.lt_or_ge l k with h | h
          · exact hall2 l h
          · have : l = k := by omega
            subst this; simp_all [staffP, weakP]⟩ (by show (x i).c.ho.toNat - (k + 1) < (x i).c.ho.toNat - k; omega)
      · exact round_v ⟨i + 1, by omega, fun j hj l hl => by
          rcases Nat.lt_or_ge j i with h | h
          · exact hall j h l hl
          · have : j = i := by omega
            subst this; exact hall2 l (by omega)⟩ (by show n - (i + 1) < n - i; omega)
    · have hin' : i = n := by omega
      subst hin'
      have e := fst2_none (p := fun i k => staffP h (x i) ((x i).first + k)) (m := fun i => (x i).c.ho.toNat) hall
      simp [hourB, e, breD, bre0]

theorem hour81_alone (h : Hall) (n : Nat) (x : Nat → Run) (rule : Int) (hin : inC h.m n x) (hn : n ≤ 1000000 ∧ h.m ≤ 1000000) : Alone PG 85 [rowR n x, .val (.int .u8 rule), .fn 81 [] [.ref (hallD h) 0]] (.agg (breD (hourB rule (weakP h) n x))) :=
  Alone.ofW (cl := T81) (raw := false) hm0 T81_ok cf_85 fun K w => by
    refine aw_reg0 (aw_assoc (aw_reg0 (?_)))
    refine aw_loopV (ι := {i : Nat // i ≤ n ∧ ∀ j, j < i → ∀ l, l < (x j).c.ho.toNat → weakP h (x j) ((x j).first + l) = false}) hm0 (T81_ok K) (fun z => [(13, i6 z.1)]) (fun _ => []) (fun z => n - z.1) ⟨0, Nat.zero_le n, fun j hj => by omega⟩ (fun z => ?_)
    obtain ⟨i, hi, hall⟩ := z
    refine aw_reg0 (aw_ifsd ((↑i : Int) < (↑n : Int)) (fun h1 => aw_skips (aw_blocks (aw_reg (True ∧ (0 : Int) ≤ (↑i : Int) ∧ (↑i : Int) < (↑n : Int)) (by (simp only [inRange_i64, true_and]; omega)) (aw_reg0 (?_))))) (fun h2 => aw_exits (round_exit (blk_exit (seq_normal (aw_reg0 (aw_ret (end_d (D.agg [D.val (Value.int IntKind.u8 (0 : Int)), D.val (Value.int IntKind.i64 (0 : Int)), D.val (Value.int IntKind.i64 (0 : Int)), D.val (Value.int IntKind.i64 (0 : Int))]) ?_))))))))
    · have hx := hin i (by omega)
      refine aw_loopE (ι := {k : Nat // k ≤ (x i).c.ho.toNat ∧ ∀ l, l < k → weakP h (x i) ((x i).first + l) = false}) hm0 (T81_ok K) (fun z => [(21, i6 z.1)]) (fun _ => []) (fun z => (x i).c.ho.toNat - z.1) ⟨0, Nat.zero_le _, fun j hj => by omega⟩ (fun z => ?_)
      obtain ⟨k, hk, hall2⟩ := z
      refine aw_reg0 (aw_ifsd ((↑k : Int) < (x i).c.ho) (fun h2 => aw_skips (aw_blocks (aw_reg0 (aw_reg (True ∧ inRange IntKind.i64 ((x i).first + (↑k : Int))) (by (simp only [inRange_i64, true_and]; omega)) (aw_reg (True ∧ ((∀ (i : Nat), i < h.n → [i6 (h.st i)] = [i6 (h.st i)]) ∧ ∀ (i : Nat), i < h.m → [i6 (h.en i)] = [i6 (h.en i)]) ∧ (0 : Int) ≤ (x i).first + (↑k : Int) ∧ (x i).first + (↑k : Int) < (↑h.m : Int)) (by ((try simp only [inRange_i64] at *); (repeat' (with_reducible apply And.intro)) <;> first | exact True.intro | exact fun _ _ => rfl | omega | assumption | (intros; simp [freeL, freeD]; done))) (aw_ifd (h.en (Int.toNat ((x i).first + (↑k : Int))) < (x i).c.en) (fun h3 => aw_reg0 (aw_ret (blk_ret (seq_ret (round_ret (blk_ret (blk_ret (seq_ret (round_ret (blk_ret (seq_ret (end_d (D.agg [D.val (Value.int IntKind.u8 rule), D.val (Value.int IntKind.i64 (↑i : Int)), D.val (Value.int IntKind.i64 (0 : Int)), D.val (Value.int IntKind.i64 ((x i).first + (↑k : Int)))]) ?_)))))))))))) (fun h4 => aw_skip (blk_normal (seq_normal (aw_end (True ∧ inRange IntKind.i64 ((↑k : Int) + (1 : Int))) (by (simp only [inRange_i64, true_and]; omega)) (round_t 3 ((∀ (i : Nat), i < n → True ∧ True ∧ True ∧ True ∧ True ∧ True ∧ True ∧ True ∧ True) ∧ (True ∧ (True ∧ True ∧ (∀ (i : Nat), i < h.n → True ∧ True) ∧ (∀ (i : Nat), i < h.m → True ∧ True) ∧ True) ∧ True) ∧ (∀ (i : Nat), i < n → True ∧ True ∧ True ∧ True ∧ True ∧ True ∧ True ∧ True ∧ True) ∧ (True ∧ True ∧ True ∧ True ∧ True ∧ True ∧ True ∧ True ∧ True) ∧ (True ∧ True ∧ True ∧ True ∧ True ∧ True ∧ True ∧ True ∧ True) ∧ True) (True ∧ True ∧ True) (by (simp)) (by trivial) ?_))))))))))) (fun h5 => aw_exits (round_exit (blk_exit (blk_normal (seq_normal (aw_end (True ∧ inRange IntKind.i64 ((↑i : Int) + (1 : Int))) (by (simp only [inRange_i64, true_and]; omega)) (round_t 2 ((∀ (i : Nat), i < n → True ∧ True ∧ True ∧ True ∧ True ∧ True ∧ True ∧ True ∧ True) ∧ (True ∧ (True ∧ True ∧ (∀ (i : Nat), i < h.n → True ∧ True) ∧ (∀ (i : Nat), i < h.m → True ∧ True) ∧ True) ∧ True) ∧ (∀ (i : Nat), i < n → True ∧ True ∧ True ∧ True ∧ True ∧ True ∧ True ∧ True ∧ True) ∧ True) (True ∧ True) (by (simp)) (by trivial) ?_))))))))
      · have e := fst2_at (p := fun i k => weakP h (x i) ((x i).first + k)) (m := fun i => (x i).c.ho.toNat) (n := n) (i := i) (k := k) (by omega) (by omega) (by simp_all [staffP, weakP]) hall2 hall
        simp [hourB, e, breD]
      · exact round_v ⟨k + 1, by omega, fun l hl => by
          rcases Nat.lt_or_ge l k with h | h
          · exact hall2 l h
          · have : l = k := by omega
            subst this; simp_all [staffP, weakP]⟩ (by show (x i).c.ho.toNat - (k + 1) < (x i).c.ho.toNat - k; omega)
      · exact round_v ⟨i + 1, by omega, fun j hj l hl => by
          rcases Nat.lt_or_ge j i with h | h
          · exact hall j h l hl
          · have : j = i := by omega
            subst this; exact hall2 l (by omega)⟩ (by show n - (i + 1) < n - i; omega)
    · have hin' : i = n := by omega
      subst hin'
      have e := fst2_none (p := fun i k => weakP h (x i) ((x i).first + k)) (m := fun i => (x i).c.ho.toNat) hall
      simp [hourB, e, breD, bre0]

def u8O : D → Option Int
  | .val (.int .u8 x) => some x
  | _ => none
theorem u8O_eq {d : D} {b : Int} (h : u8O d = some b) : d = .val (.int .u8 b) := by
  unfold u8O at h
  split at h
  · cases h; rfl
  · cases h

def R85_80 : List D → Option (Option Prop × D)
  | [d0, d1, .fn 80 [] [d2]] => match runsO d0, u8O d1, hallR d2 with
    | some (p, n, x), some rule, some (q, h) => some (some (p ∧ q ∧ inC h.n n x ∧ n ≤ 1000000 ∧ h.n ≤ 1000000), .agg (breD (hourB rule (staffP h) n x)))
    | _, _, _ => none
  | _ => none
noncomputable def T85_80 := orCl (aloC 85 R85_80) T81
theorem T85_80_ok (K : Cust) : ClOK K PG T85_80 := tab_cons cf_85 (fun ds p d h hp => by
    unfold R85_80 at h
    split at h
    · split at h
      · rename_i e0 e1 e2
        obtain rfl := u8O_eq e1
        cases h
        obtain ⟨h1, h2, h3, h4⟩ := hp _ rfl
        exact ⟨_, less_cons (runsO_less e0 h1) (less_cons (LessD.refl _) (less_cons (less_fn (Less.refl _) (less_cons (hallR_less e2 h2) (Less.refl _))) (Less.refl _))), by simp [freeL, freeD, rowR_free, hallD_free], by simp [freeD, breD_free], hour80_alone _ _ _ _ h3 h4⟩
      · cases h
    · cases h) (T81_ok K)
def R85_81 : List D → Option (Option Prop × D)
  | [d0, d1, .fn 81 [] [d2]] => match runsO d0, u8O d1, hallR d2 with
    | some (p, n, x), some rule, some (q, h) => some (some (p ∧ q ∧ inC h.m n x ∧ n ≤ 1000000 ∧ h.m ≤ 1000000), .agg (breD (hourB rule (weakP h) n x)))
    | _, _, _ => none
  | _ => none
noncomputable def T85_81 := orCl (aloC 85 R85_81) T85_80
theorem T85_81_ok (K : Cust) : ClOK K PG T85_81 := tab_cons cf_85 (fun ds p d h hp => by
    unfold R85_81 at h
    split at h
    · split at h
      · rename_i e0 e1 e2
        obtain rfl := u8O_eq e1
        cases h
        obtain ⟨h1, h2, h3, h4⟩ := hp _ rfl
        exact ⟨_, less_cons (runsO_less e0 h1) (less_cons (LessD.refl _) (less_cons (less_fn (Less.refl _) (less_cons (hallR_less e2 h2) (Less.refl _))) (Less.refl _))), by simp [freeL, freeD, rowR_free, hallD_free], by simp [freeD, breD_free], hour81_alone _ _ _ _ h3 h4⟩
      · cases h
    · cases h) (T85_80_ok K)
def clashB (h : Hall) (a b : Run) : Bool := decide (a.first < b.first + b.c.ho + (bif decide (a.c.cu = b.c.cu) then 0 else h.cl) ∧ b.first < a.first + a.c.ho + (bif decide (a.c.cu = b.c.cu) then 0 else h.cl))
def smallR (r : Run) : Prop := -1000000 ≤ r.first ∧ r.first ≤ 1000000 ∧ 0 ≤ r.c.ho ∧ r.c.ho ≤ 1000000 ∧ 0 ≤ r.c.pr ∧ r.c.pr ≤ 1000000

theorem clash_alone (h : Hall) (a b : Run) (hc : -1000000 ≤ h.cl ∧ h.cl ≤ 1000000) (ha : smallR a) (hb : smallR b) : Alone PG 106 [.agg (hallD h), .agg (runD a), .agg (runD b)] (bD (clashB h a b)) :=
  Alone.ofW (cl := T85_81) (raw := false) hm0 T85_81_ok cf_106 fun K w => by
    refine aw_reg0 (aw_reg0 (aw_assoc (aw_reg0 (aw_ifsne (a.c.cu) (b.c.cu) (fun h1 => aw_reg0 (aw_opens (awr_testd 8 (24 : Nat) ((True ∧ inRange IntKind.i64 (b.first + b.c.ho)) ∧ inRange IntKind.i64 (b.first + b.c.ho + h.cl)) (by (unfold smallR at ha hb; simp only [inRange_i64, true_and]; omega)) (a.first < b.first + b.c.ho + h.cl) (fun h2 => awr_end ((True ∧ inRange IntKind.i64 (a.first + a.c.ho)) ∧ inRange IntKind.i64 (a.first + a.c.ho + h.cl)) (by (unfold smallR at ha hb; simp only [inRange_i64, true_and]; omega)) (aw_ret (end_b (decide (b.first < a.first + a.c.ho + h.cl)) ?_))) (fun h3 => awr_end0 (aw_ret (end_b (false) ?_)))))) (fun h4 => aw_skips (aw_opens (awr_testd 8 (24 : Nat) ((True ∧ inRange IntKind.i64 (b.first + b.c.ho)) ∧ inRange IntKind.i64 (b.first + b.c.ho + (0 : Int))) (by (unfold smallR at ha hb; simp only [inRange_i64, true_and]; omega)) (a.first < b.first + b.c.ho + (0 : Int)) (fun h5 => awr_end ((True ∧ inRange IntKind.i64 (a.first + a.c.ho)) ∧ inRange IntKind.i64 (a.first + a.c.ho + (0 : Int))) (by (unfold smallR at ha hb; simp only [inRange_i64, true_and]; omega)) (aw_ret (end_b (decide (b.first < a.first + a.c.ho + (0 : Int))) ?_))) (fun h6 => awr_end0 (aw_ret (end_b (false) ?_))))))))))
    all_goals (simp_all [clashB]; try omega)

def R106 : List D → Option (Option Prop × D)
  | [d0, d1, d2] => match hallO d0, runO d1, runO d2 with
    | some (p, h), some a, some b => some (some (p ∧ (-1000000 ≤ h.cl ∧ h.cl ≤ 1000000) ∧ smallR a ∧ smallR b), bD (clashB h a b))
    | _, _, _ => none
  | _ => none
noncomputable def T106 := orCl (aloC 106 R106) T85_81
theorem T106_ok (K : Cust) : ClOK K PG T106 := tab_cons cf_106 (fun ds p d h hp => by
    unfold R106 at h
    split at h
    · split at h
      · rename_i e0 e1 e2
        obtain rfl := runO_eq e1
        obtain rfl := runO_eq e2
        cases h
        obtain ⟨h1, h2, h3, h4⟩ := hp _ rfl
        exact ⟨_, less_cons (hallO_less e0 h1) (Less.refl _), by simp [freeL, freeD, runD_free, hallD_free], by simp [freeD], clash_alone _ _ _ h2 h3 h4⟩
      · cases h
    · cases h) (T85_81_ok K)
def tunP (h : Hall) (r : Nat → Run) (i k : Nat) : Bool := decide (i < k) && clashB h (r i) (r k)
def tunB (h : Hall) (n : Nat) (r : Nat → Run) : Bre := match fst2 (tunP h r) (fun _ => n) n with
  | some (i, k) => ⟨4, i, k, 0⟩
  | none => bre0

theorem tunnel_alone (h : Hall) (n : Nat) (x : Nat → Run) (hc : -1000000 ≤ h.cl ∧ h.cl ≤ 1000000) (hs : ∀ i, i < n → smallR (x i)) (hn : n ≤ 1000000) : Alone PG 88 [.agg (hallD h), rowR n x] (.agg (breD (tunB h n x))) :=
  Alone.ofW (cl := T106) (raw := false) hm0 T106_ok cf_88 fun K w => by
    refine aw_reg0 (aw_assoc (aw_reg0 (?_)))
    refine aw_loopV (ι := {i : Nat // i ≤ n ∧ ∀ j, j < i → ∀ l, l < n → tunP h x j l = false}) hm0 (T106_ok K) (fun z => [(10, i6 z.1)]) (fun _ => []) (fun z => n - z.1) ⟨0, Nat.zero_le n, fun j hj => by omega⟩ (fun z => ?_)
    obtain ⟨i, hi, hall⟩ := z
    refine aw_reg0 (aw_ifsd ((↑i : Int) < (↑n : Int)) (fun h1 => aw_skips (aw_blocks (aw_reg (True ∧ (0 : Int) ≤ (↑i : Int) ∧ (↑i : Int) < (↑n : Int)) (by (simp only [inRange_i64, true_and]; omega)) (aw_reg (True ∧ inRange IntKind.i64 ((↑i : Int) + (1 : Int))) (by (simp only [inRange_i64, true_and]; omega)) (?_))))) (fun h2 => aw_exits (round_exit (blk_exit (seq_normal (aw_reg0 (aw_ret (end_d (D.agg [D.val (Value.int IntKind.u8 (0 : Int)), D.val (Value.int IntKind.i64 (0 : Int)), D.val (Value.int IntKind.i64 (0 : Int)), D.val (Value.int IntKind.i64 (0 : Int))]) ?_))))))))
    · have hin : i < n := by omega
      refine aw_loopE (ι := {k : Nat // i + 1 ≤ k ∧ k ≤ n ∧ ∀ l, l < k → tunP h x i l = false}) hm0 (T106_ok K) (fun z => [(7, i6 z.1)]) (fun _ => []) (fun z => n - z.1) ⟨i + 1, Nat.le_refl _, by omega, fun j hj => by simp [tunP]; omega⟩ (fun z => ?_)
      obtain ⟨k, hik, hk, hall2⟩ := z
      refine aw_assoc (aw_reg0 (aw_ifsd ((↑k : Int) < (↑n : Int)) (fun h2 => aw_skips (aw_blocks (aw_reg ((True ∧ (0 : Int) ≤ (↑k : Int) ∧ (↑k : Int) < (↑n : Int)) ∧ ((∀ (i : Nat), i < h.n → [i6 (h.st i)] = [i6 (h.st i)]) ∧ ∀ (i : Nat), i < h.m → [i6 (h.en i)] = [i6 (h.en i)]) ∧ ((-1000000 : Int) ≤ h.cl ∧ h.cl ≤ (1000000 : Int)) ∧ smallR (x i) ∧ smallR (x k)) (by (have q0 := hs i hin; have q1 := hs k (by omega); (try simp only [inRange_i64] at *); (repeat' (with_reducible apply And.intro)) <;> first | exact True.intro | exact fun _ _ => rfl | omega | assumption | (intros; simp [freeL, freeD]; done))) (aw_if (clashB h (x i) (x k)) (fun h3 => aw_reg0 (aw_ret (blk_ret (seq_ret (round_ret (blk_ret (blk_ret (seq_ret (round_ret (blk_ret (seq_ret (end_d (D.agg [D.val (Value.int IntKind.u8 (4 : Int)), D.val (Value.int IntKind.i64 (↑i : Int)), D.val (Value.int IntKind.i64 (↑k : Int)), D.val (Value.int IntKind.i64 (0 : Int))]) ?_)))))))))))) (fun h4 => aw_skip (blk_normal (seq_normal (aw_end (True ∧ inRange IntKind.i64 ((↑k : Int) + (1 : Int))) (by (have q0 := hs i hin; have q1 := hs k (by omega); (try simp only [inRange_i64] at *); (repeat' (with_reducible apply And.intro)) <;> first | exact True.intro | exact fun _ _ => rfl | omega | assumption | (intros; simp [freeL, freeD]; done))) (round_t 4 ((True ∧ True ∧ (∀ (i : Nat), i < h.n → True ∧ True) ∧ (∀ (i : Nat), i < h.m → True ∧ True) ∧ True) ∧ (∀ (i : Nat), i < n → True ∧ True ∧ True ∧ True ∧ True ∧ True ∧ True ∧ True ∧ True) ∧ (∀ (i : Nat), i < n → True ∧ True ∧ True ∧ True ∧ True ∧ True ∧ True ∧ True ∧ True) ∧ (True ∧ True ∧ True ∧ True ∧ True ∧ True ∧ True ∧ True ∧ True) ∧ (True ∧ True ∧ True ∧ True ∧ True ∧ True ∧ True ∧ True ∧ True) ∧ True) (((∀ (i : Nat), i < h.n → True ∧ True) ∧ (∀ (i : Nat), i < h.m → True ∧ True) ∧ True) ∧ True ∧ True ∧ True) (by (simp)) (by (simp)) ?_))))))))) (fun h5 => aw_exits (round_exit (blk_exit (blk_normal (seq_normal (aw_end (True ∧ inRange IntKind.i64 ((↑i : Int) + (1 : Int))) (by (simp only [inRange_i64, true_and]; omega)) (round_t 3 ((True ∧ True ∧ (∀ (i : Nat), i < h.n → True ∧ True) ∧ (∀ (i : Nat), i < h.m → True ∧ True) ∧ True) ∧ (∀ (i : Nat), i < n → True ∧ True ∧ True ∧ True ∧ True ∧ True ∧ True ∧ True ∧ True) ∧ (∀ (i : Nat), i < n → True ∧ True ∧ True ∧ True ∧ True ∧ True ∧ True ∧ True ∧ True) ∧ True) (((∀ (i : Nat), i < h.n → True ∧ True) ∧ (∀ (i : Nat), i < h.m → True ∧ True) ∧ True) ∧ True ∧ True) (by (simp)) (by (simp)) ?_)))))))))
      · have e := fst2_at (p := tunP h x) (m := fun _ => n) (n := n) (i := i) (k := k) (by omega) (by omega) (by simp_all [tunP]; omega) hall2 hall
        simp [tunB, e, breD]
      · exact round_v ⟨k + 1, by omega, by omega, fun l hl => by
          rcases Nat.lt_or_ge l k with h | h
          · exact hall2 l h
          · have : l = k := by omega
            subst this; simp_all [tunP]⟩ (by show n - (k + 1) < n - k; omega)
      · exact round_v ⟨i + 1, by omega, fun j hj l hl => by
          rcases Nat.lt_or_ge j i with h | h
          · exact hall j h l hl
          · have : j = i := by omega
            subst this; exact hall2 l (by omega)⟩ (by show n - (i + 1) < n - i; omega)
    · have hin' : i = n := by omega
      subst hin'
      have e := fst2_none (p := tunP h x) (m := fun _ => i) hall
      simp [tunB, e, breD, bre0]

def R88 : List D → Option (Option Prop × D)
  | [d0, d1] => match hallO d0, runsO d1 with
    | some (p, h), some (q, n, x) => some (some (p ∧ q ∧ (-1000000 ≤ h.cl ∧ h.cl ≤ 1000000) ∧ (∀ i, i < n → smallR (x i)) ∧ n ≤ 1000000), .agg (breD (tunB h n x)))
    | _, _ => none
  | _ => none
noncomputable def T88 := orCl (aloC 88 R88) T106
theorem T88_ok (K : Cust) : ClOK K PG T88 := tab_cons cf_88 (fun ds p d h hp => by
    unfold R88 at h
    split at h
    · split at h
      · rename_i e0 e1
        cases h
        obtain ⟨h1, h2, h3, h4, h5⟩ := hp _ rfl
        exact ⟨_, less_cons (hallO_less e0 h1) (less_cons (runsO_less e1 h2) (Less.refl _)), by simp [freeL, freeD, rowR_free, hallD_free], by simp [freeD, breD_free], tunnel_alone _ _ _ h3 h4 h5⟩
      · cases h
    · cases h) (T106_ok K)
end Go.Ev

open Go Go.Ev Go.RowKit
namespace Go.Ev
set_option maxRecDepth 100000
set_option linter.all false

def bump (b f add : Int) (c : Nat → Int) (j : Nat) : Int := if b ≤ (j : Int) ∧ (j : Int) < f then c j + add else c j
def arrI (c : Nat → Int) : Nat → Value := fun j => .int .i64 (c j)
theorem bump_set {b t add : Int} {c : Nat → Int} (h0 : 0 ≤ t) (hb : b ≤ t) : (fun j => D.val (.int .i64 (bump b (t + 1) add c j))) = updF (fun j => D.val (.int .i64 (bump b t add c j))) t.toNat [D.val (.int .i64 (bump b t add c t.toNat + add))] := by
  funext j
  show _ = (match Nat.beq j t.toNat with | true => _ | false => _)
  cases h : Nat.beq j t.toNat with
  | true =>
    have e := Nat.eq_of_beq_eq_true h
    subst e
    simp only [bump]
    congr 2
    rw [if_pos (by omega), if_neg (by omega)]
  | false =>
    have e := Nat.ne_of_beq_eq_false h
    simp only [bump]
    congr 2
    by_cases hj : b ≤ (j : Int) ∧ (j : Int) < t
    · rw [if_pos hj, if_pos (by omega)]
    · rw [if_neg hj, if_neg (by omega)]
theorem bump_0 {b add : Int} {c : Nat → Int} : (fun j => D.val (.int .i64 (c j))) = fun j => D.val (.int .i64 (bump b b add c j)) := by
  funext j
  simp only [bump]
  rw [if_neg (by omega)]

theorem count_alone (n : Nat) (r : Run) (add : Int) (c : Nat → Int) (hr : smallR r) (hb : 0 ≤ r.first - r.c.pr ∧ r.first ≤ n) (hc : ∀ j, j < n → -1000000 ≤ c j ∧ c j ≤ 1000000) (ha : -1000000 ≤ add ∧ add ≤ 1000000) (hn : n ≤ 1000000) :
    AloneB PG 92 [.sl 1 0 n 1 none, .agg (runD r), i6 add] (n * 1) (arrI c) (.tup []) (arrI (bump (r.first - r.c.pr) r.first add c)) :=
  AloneB.ofW (cl := T88) hm0 T88_ok cf_92 fun K w b N => by
    have hr' := hr
    unfold smallR at hr'
    refine aw_reg0 (aw_reg (True ∧ inRange IntKind.i64 (r.first - r.c.pr)) (by (simp only [inRange_i64, true_and]; omega)) (?_))
    refine aw_loopE (ι := {t : Int // r.first - r.c.pr ≤ t ∧ t ≤ r.first}) hm0 (T88_ok K) (fun z => [(6, i6 z.1)]) (fun z => [(1, .arr (n * 1) fun j => .val (arrI (bump (r.first - r.c.pr) z.1 add c) j))]) (fun z => (r.first - z.1).toNat) ⟨r.first - r.c.pr, by omega, by omega⟩ (fun z => ?_) (by
      show _ = lst _ _ [(1, .arr (n * 1) fun j => D.val (.int .i64 (bump (r.first - r.c.pr) (r.first - r.c.pr) add c j)))] _
      rw [← bump_0]
      kernel_rfl)
    obtain ⟨t, ht1, ht2⟩ := z
    have hct : t < r.first → -2000000 ≤ bump (r.first - r.c.pr) t add c t.toNat ∧ bump (r.first - r.c.pr) t add c t.toNat ≤ 2000000 := fun h => by
      have := hc t.toNat (by omega)
      unfold bump
      split <;> omega
    refine aw_assoc (aw_reg0 (aw_ifsd (t < r.first) (fun h1 => aw_skips (aw_blocks (aw_end (((((True ∧ (0 : Int) ≤ t ∧ t < (↑n : Int)) ∧ Int.toNat t < n * (1 : Nat)) ∧ inRange IntKind.i64 (bump (r.first - r.c.pr) t add c (Int.toNat t) + add)) ∧ (0 : Int) ≤ t ∧ t < (↑n : Int)) ∧ Int.toNat t + (1 : Nat) ≤ n * (1 : Nat)) (by (have q := hct (by assumption); simp only [arrI, inRange_i64, true_and]; omega)) (blk_normal (seq_normal (aw_end (True ∧ inRange IntKind.i64 (t + (1 : Int))) (by (have q := hct (by assumption); simp only [arrI, inRange_i64, true_and]; omega)) (?_))))))) (fun h2 => aw_exits (round_exit (blk_exit (end_w (fun (j : Nat) => D.val (arrI (bump (r.first - r.c.pr) t add c) j)) ?_))))))
    · refine round_v ⟨t + 1, by omega, by omega⟩ (by show (r.first - (t + 1)).toNat < (r.first - t).toNat; omega) ?_
      show _ = lst _ _ [(1, .arr (n * 1) fun j => D.val (.int .i64 (bump (r.first - r.c.pr) (t + 1) add c j)))] _
      rw [bump_set (by omega) ht1]
      kernel_rfl
    · have : t = r.first := by omega
      subst this
      exact fun j _ => rfl

def valI : Value → Int
  | .int .i64 x => x
  | _ => 0
def R92 (len k : Nat) (c : Nat → Value) : List D → Option (Option Prop × D × (Nat → Value))
  | [d0, d1] => match runO d0, inO d1 with
    | some r, some add => match Nat.beq k 1 with
      | true => some (some ((∀ j, j < len → c j = .int .i64 (valI (c j))) ∧ smallR r ∧ (0 ≤ r.first - r.c.pr ∧ r.first ≤ len) ∧ (∀ j, j < len → -1000000 ≤ valI (c j) ∧ valI (c j) ≤ 1000000) ∧ (-1000000 ≤ add ∧ add ≤ 1000000) ∧ len ≤ 1000000), .tup [], arrI (bump (r.first - r.c.pr) r.first add fun j => valI (c j)))
      | false => none
    | _, _ => none
  | _ => none
noncomputable def T92 := orCl (chgC 92 R92) T88
theorem T92_ok (K : Cust) : ClOK K PG T92 := ClOK.or (chgC_ok (ent cf_92) fun len k c ds p d g' h hp => by
    unfold R92 at h
    split at h
    · split at h
      · rename_i e0 e1
        split at h
        · rename_i hk
          obtain rfl := Nat.eq_of_beq_eq_true hk
          obtain rfl := runO_eq e0
          obtain rfl := inO_eq e1
          cases h
          obtain ⟨h1, h2, h3, h4, h5, h6⟩ := hp _ rfl
          refine ⟨_, Less.refl _, by simp [freeL, freeD, runD_free], ?_⟩
          exact AloneB.congr (fun j hj => h1 j (by omega)) (count_alone len _ _ _ h2 h3 h4 h5 h6)
        · cases h
      · cases h
    · cases h) (T88_ok K)
def prepI (x : Nat → Run) : Nat → Nat → Int
  | 0, _ => 0
  | i + 1, j => bump ((x i).first - (x i).c.pr) (x i).first 1 (prepI x i) j
theorem prepI_bound (x : Nat → Run) : ∀ i j, 0 ≤ prepI x i j ∧ prepI x i j ≤ i
  | 0, j => by simp [prepI]
  | i + 1, j => by
    have := prepI_bound x i j
    simp only [prepI, bump]
    split <;> omega
theorem frz_ints {hp : List Blk} {id n m : Nat} {cap : Option Nat} {f : Nat → D} {c : Nat → Int} (hb : getG hp id = some (.arr m f)) (hm : n ≤ m) (hf : ∀ j, j < n → f j = i6 (c j)) : FrzP hp (.sl id 0 n 1 cap) (rowI n c) :=
  frz_arr hb fun i hi j e hj => by
    cases j with
    | zero =>
      simp at hj
      subst hj
      refine ⟨by omega, ?_⟩
      have : 0 + i * 1 + 0 = i := by omega
      rw [this, hf i hi]
      exact frz_free (by simp [freeD])
    | succ j => simp at hj
def prepC (N n : Nat) (x : Nat → Run) : Prop := ∀ i, i < n → smallR (x i) ∧ 0 ≤ (x i).first - (x i).c.pr ∧ (x i).first ≤ N

theorem prep_alone (h : Hall) (n : Nat) (x : Nat → Run) (hx : prepC h.n n x) (hn : n ≤ 1000000 ∧ h.n ≤ 1000000) : Alone PG 61 [.agg (hallD h), rowR n x] (rowI h.n (prepI x n)) :=
  Alone.ofF (cl := T92) hm0 T92_ok cf_61 fun K w => by
    refine aw_reg0 (aw_reg (True ∧ (0 : Int) ≤ (↑h.n : Int) ∧ (↑h.n : Int) ≤ (↑h.n : Int) ∧ (↑h.n : Int) ≤ (1048576 : Int) ∧ (8 : Nat) * h.n ≤ (16777216 : Nat)) (by (simp only [inRange_i64, true_and]; omega)) (aw_assoc (aw_reg0 (?_))))
    refine aw_loopV (ι := {i : Nat // i ≤ n}) hm0 (T92_ok K) (fun z => [(14, i6 z.1)]) (fun z => [(2, .arr h.n fun j => .val (arrI (prepI x z.1) j))]) (fun z => n - z.1) ⟨0, Nat.zero_le n⟩ (fun z => ?_)
    obtain ⟨i, hi⟩ := z
    refine aw_reg0 (aw_ifsd ((↑i : Int) < (↑n : Int)) (fun h1 => aw_skips (aw_blocks (aw_reg (True ∧ (0 : Int) ≤ (↑i : Int) ∧ (↑i : Int) < (↑n : Int)) (by (simp only [inRange_i64, true_and]; omega)) (aw_end (True ∧ (∀ (j : Nat), j < h.n → ∃ (v : Value), D.val (arrI (prepI x i) j) = D.val v) ∧ h.n * (1 : Nat) = h.n ∧ (∀ (j : Nat), j < h.n → arrI (prepI x i) j = Value.int IntKind.i64 (valI (arrI (prepI x i) j))) ∧ smallR (x i) ∧ ((0 : Int) ≤ (x i).first - (x i).c.pr ∧ (x i).first ≤ (↑h.n : Int)) ∧ (∀ (j : Nat), j < h.n → (-1000000 : Int) ≤ valI (arrI (prepI x i) j) ∧ valI (arrI (prepI x i) j) ≤ (1000000 : Int)) ∧ ((-1000000 : Int) ≤ (1 : Int) ∧ (1 : Int) ≤ (1000000 : Int)) ∧ h.n ≤ (1000000 : Nat)) ?_ (blk_normal (seq_normal (aw_end (True ∧ inRange IntKind.i64 ((↑i : Int) + (1 : Int))) (by (simp only [inRange_i64, true_and]; omega)) (round_t 3 ((True ∧ True ∧ (∀ (i : Nat), i < h.n → True ∧ True) ∧ (∀ (i : Nat), i < h.m → True ∧ True) ∧ True) ∧ (∀ (i : Nat), i < n → True ∧ True ∧ True ∧ True ∧ True ∧ True ∧ True ∧ True ∧ True) ∧ (∀ (i : Nat), i < h.n → True ∧ True) ∧ (∀ (i : Nat), i < n → True ∧ True ∧ True ∧ True ∧ True ∧ True ∧ True ∧ True ∧ True) ∧ True) (((∀ (i : Nat), i < h.n → True ∧ True) ∧ (∀ (i : Nat), i < h.m → True ∧ True) ∧ True) ∧ (∀ (j : Nat), j < h.n → True) ∧ True) (by (simp)) (by (simp)) ?_)))))))) (fun h2 => aw_exits (round_exit (blk_exit (seq_normal (aw_reg0 (aw_ret (end_f (D.sl (2 : Nat) (0 : Nat) h.n (1 : Nat) none) ?_))))))))
    · exact ⟨trivial, fun j _ => ⟨_, rfl⟩, by omega, fun _ _ => rfl, (hx i (by omega)).1, (hx i (by omega)).2, fun j _ => by have := prepI_bound x i j; simp only [arrI, valI]; omega, ⟨by omega, by omega⟩, hn.2⟩
    · exact round_v ⟨i + 1, by omega⟩ (by show n - (i + 1) < n - i; omega)
    · have : i = n := by omega
      subst this
      exact frz_ints (m := h.n) (f := fun j => D.val (arrI (prepI x i) j)) (by kernel_rfl) (Nat.le_refl _) (fun j _ => rfl)

def R61 : List D → Option (Option Prop × D)
  | [d0, d1] => match hallO d0, runsO d1 with
    | some (p, h), some (q, n, x) => some (some (p ∧ q ∧ prepC h.n n x ∧ n ≤ 1000000 ∧ h.n ≤ 1000000), rowI h.n (prepI x n))
    | _, _ => none
  | _ => none
noncomputable def T61 := orCl (aloC 61 R61) T92
theorem T61_ok (K : Cust) : ClOK K PG T61 := tab_cons cf_61 (fun ds p d h hp => by
    unfold R61 at h
    split at h
    · split at h
      · rename_i e0 e1
        cases h
        obtain ⟨h1, h2, h3, h4⟩ := hp _ rfl
        exact ⟨_, less_cons (hallO_less e0 h1) (less_cons (runsO_less e1 h2) (Less.refl _)), by simp [freeL, freeD, rowR_free, hallD_free], rowI_free _ _, prep_alone _ _ _ h3 h4⟩
      · cases h
    · cases h) (T92_ok K)
theorem many_alone (h : Hall) (t : Int) : Alone PG 107 [i6 t, .ref (hallD h) 0] (bD (decide (t > h.ro))) :=
  Alone.ofW (cl := T61) (raw := false) hm0 T61_ok cf_107 fun K w => by
    refine aw_reg0 (aw_reg0 (aw_ret (end_b (decide (t > h.ro)) ?_)))
    rfl

def R107 : List D → Option (Option Prop × D)
  | [d0, d1] => match inO d0, hallR d1 with
    | some t, some (p, h) => some (some p, bD (decide (t > h.ro)))
    | _, _ => none
  | _ => none
noncomputable def T107 := orCl (aloC 107 R107) T61
theorem T107_ok (K : Cust) : ClOK K PG T107 := tab_cons cf_107 (fun ds p d h hp => by
    unfold R107 at h
    split at h
    · split at h
      · rename_i e0 e1
        obtain rfl := inO_eq e0
        cases h
        exact ⟨_, less_cons (LessD.refl _) (less_cons (hallR_less e1 (hp _ rfl)) (Less.refl _)), by simp [freeL, freeD, hallD_free], by simp [freeD], many_alone _ _⟩
      · cases h
    · cases h) (T61_ok K)
theorem ix107 (h : Hall) (n : Nat) (x : Nat → Int) (hn : n ≤ 1000000) : Alone PG 66 [rowI n x, .fn 107 [] [.ref (hallD h) 0]] (i6 (findI (fun i => decide (x i > h.ro)) n)) :=
  Alone.ofW (cl := T107) (raw := false) hm0 T107_ok cf_66 fun K w => by
    refine aw_reg0 (aw_assoc (aw_reg0 (?_)))
    refine aw_loopV (ι := {i : Nat // i ≤ n ∧ ∀ j, j < i → (decide (x j > h.ro)) = false}) hm0 (T107_ok K) (fun z => [(8, i6 z.1)]) (fun _ => []) (fun z => n - z.1) ⟨0, Nat.zero_le n, fun j hj => by omega⟩ (fun z => ?_)
    obtain ⟨i, hin, hall⟩ := z
    
    refine aw_reg0 (aw_ifsd ((↑i : Int) < (↑n : Int)) (fun h1 => aw_skips (aw_blocks (aw_reg0 (aw_reg ((True ∧ (0 : Int) ≤ (↑i : Int) ∧ (↑i : Int) < (↑n : Int)) ∧ (∀ (i : Nat), i < h.n → [i6 (h.st i)] = [i6 (h.st i)]) ∧ ∀ (i : Nat), i < h.m → [i6 (h.en i)] = [i6 (h.en i)]) (by ((try simp only [inRange_i64] at *); (repeat' (with_reducible apply And.intro)) <;> first | exact True.intro | exact fun _ _ => rfl | omega | assumption | (intros; simp [freeL, freeD]; done))) (aw_ifd (x i > h.ro) (fun h2 => aw_reg0 (aw_ret (blk_ret (seq_ret (round_ret (blk_ret (seq_ret (end_i ((↑i : Int)) ?_)))))))) (fun h3 => aw_skip (blk_normal (seq_normal (aw_end (True ∧ inRange IntKind.i64 ((↑i : Int) + (1 : Int))) (by (simp only [inRange_i64, true_and]; omega)) (round_t 1 ((∀ (i : Nat), i < n → True ∧ True) ∧ (True ∧ (True ∧ True ∧ (∀ (i : Nat), i < h.n → True ∧ True) ∧ (∀ (i : Nat), i < h.m → True ∧ True) ∧ True) ∧ True) ∧ (∀ (i : Nat), i < n → True ∧ True) ∧ True) (True) (by (simp)) (by trivial) ?_)))))))))) (fun h4 => aw_exits (round_exit (blk_exit (seq_normal (aw_reg0 (aw_ret (end_i ((-1 : Int)) ?_))))))))
    · exact (findI_at (p := fun i => decide (x i > h.ro)) (by omega) (by simp_all [intL_i6]; try omega) hall).symm
    · exact round_v ⟨i + 1, by omega, fun j hj => by
        rcases Nat.lt_or_ge j i with h | h
        · exact hall j h
        · have : j = i := by omega
          subst this; simp_all [intL_i6]; try omega⟩ (by show n - (i + 1) < n - i; omega)
    · have hin' : i = n := by omega
      subst hin'
      exact (findI_none hall).symm

def R66_107 : List D → Option (Option Prop × D)
  | [d0, .fn 107 [] [d1]] => match intsO d0, hallR d1 with
    | some (p, n, x), some (q, h) => some (some (p ∧ q ∧ n ≤ 1000000), i6 (findI (fun i => decide (x i > h.ro)) n))
    | _, _ => none
  | _ => none
noncomputable def T66_107 := orCl (seeC 66 R66_107) T107
theorem T66_107_ok (K : Cust) : ClOK K PG T66_107 := tab_see cf_66 (fun ds p d h hp => by
    unfold R66_107 at h
    split at h
    · split at h
      · rename_i e0 e1
        cases h
        obtain ⟨h1, h2, h3⟩ := hp _ rfl
        exact ⟨_, less_cons (intsO_less e0 h1) (less_cons (less_fn (Less.refl _) (less_cons (hallR_less e1 h2) (Less.refl _))) (Less.refl _)), ix107 _ _ _ h3⟩
      · cases h
    · cases h) (T107_ok K)
def roomB (h : Hall) (n : Nat) (x : Nat → Run) : Bre := bif decide (findI (fun i => decide (prepI x n i > h.ro)) h.n ≥ 0) then ⟨5, 0, 0, findI (fun i => decide (prepI x n i > h.ro)) h.n⟩ else bre0

theorem room_alone (h : Hall) (n : Nat) (x : Nat → Run) (hx : prepC h.n n x) (hn : n ≤ 1000000 ∧ h.n ≤ 1000000) : Alone PG 90 [.agg (hallD h), rowR n x] (.agg (breD (roomB h n x))) :=
  Alone.ofW (cl := T66_107) (raw := false) hm0 T66_107_ok cf_90 fun K w => by
    refine aw_reg0 (aw_reg0 (aw_assoc (aw_reg ((True ∧ ((∀ (i : Nat), i < h.n → [i6 (h.st i)] = [i6 (h.st i)]) ∧ ∀ (i : Nat), i < h.m → [i6 (h.en i)] = [i6 (h.en i)]) ∧ (∀ (i : Nat), i < n → runD (x i) = runD (x i)) ∧ prepC h.n n x ∧ n ≤ (1000000 : Nat) ∧ h.n ≤ (1000000 : Nat)) ∧ ((∀ (i : Nat), i < h.n → True ∧ True) ∧ (∀ (i : Nat), i < h.n → True ∧ True) ∧ ∀ (i : Nat), i < h.m → True ∧ True) ∧ (∀ (i : Nat), i < h.n → [i6 (prepI x n i)] = [i6 (prepI x n i)]) ∧ ((∀ (i : Nat), i < h.n → [i6 (h.st i)] = [i6 (h.st i)]) ∧ ∀ (i : Nat), i < h.m → [i6 (h.en i)] = [i6 (h.en i)]) ∧ h.n ≤ (1000000 : Nat)) (by ((try simp only [inRange_i64] at *); (repeat' (with_reducible apply And.intro)) <;> first | exact True.intro | exact fun _ _ => rfl | omega | assumption | (intros; simp [freeL, freeD]; done))) (aw_assoc (aw_reg0 (aw_ifsd (findI (fun (i : Nat) => decide (prepI x n i > h.ro)) h.n ≥ (0 : Int)) (fun h1 => aw_assoc (aw_reg0 (aw_rets (end_d (D.agg [D.val (Value.int IntKind.u8 (5 : Int)), D.val (Value.int IntKind.i64 (0 : Int)), D.val (Value.int IntKind.i64 (0 : Int)), D.val (Value.int IntKind.i64 (findI (fun (i : Nat) => decide (prepI x n i > h.ro)) h.n))]) ?_)))) (fun h2 => aw_skips (aw_reg0 (aw_ret (end_d (D.agg [D.val (Value.int IntKind.u8 (0 : Int)), D.val (Value.int IntKind.i64 (0 : Int)), D.val (Value.int IntKind.i64 (0 : Int)), D.val (Value.int IntKind.i64 (0 : Int))]) ?_))))))))))
    · unfold roomB; rw [decide_eq_true h1]; rfl
    · unfold roomB; rw [decide_eq_false h2]; rfl

def R90 : List D → Option (Option Prop × D)
  | [d0, d1] => match hallO d0, runsO d1 with
    | some (p, h), some (q, n, x) => some (some (p ∧ q ∧ prepC h.n n x ∧ n ≤ 1000000 ∧ h.n ≤ 1000000), .agg (breD (roomB h n x)))
    | _, _ => none
  | _ => none
noncomputable def T90 := orCl (aloC 90 R90) T66_107
theorem T90_ok (K : Cust) : ClOK K PG T90 := tab_cons cf_90 (fun ds p d h hp => by
    unfold R90 at h
    split at h
    · split at h
      · rename_i e0 e1
        cases h
        obtain ⟨h1, h2, h3, h4⟩ := hp _ rfl
        exact ⟨_, less_cons (hallO_less e0 h1) (less_cons (runsO_less e1 h2) (Less.refl _)), by simp [freeL, freeD, rowR_free, hallD_free], by simp [freeD, breD_free], room_alone _ _ _ h3 h4⟩
      · cases h
    · cases h) (T66_107_ok K)
end Go.Ev

open Go Go.Ev Go.RowKit
namespace Go.Ev
set_option maxRecDepth 100000
set_option linter.all false

def runsR : D → Option (Prop × Nat × (Nat → Run))
  | .ref [d] 0 => runsO d
  | _ => none
theorem runsR_less {d : D} {p : Prop} {n : Nat} {f : Nat → Run} (h : runsR d = some (p, n, f)) (hp : p) : LessD d (.ref [rowR n f] 0) := by
  unfold runsR at h
  split at h
  · exact lessC (less_cons (runsO_less h hp) (Less.refl _))
  · cases h

theorem b3_alone (n : Nat) (x : Nat → Run) (hr : lateC n x) (hn : n ≤ 1000000) : Alone PG 82 [.ref [rowR n x] 0] (.agg (breD (timeB n x))) :=
  Alone.ofW (cl := T90) (raw := false) hm0 T90_ok cf_82 fun K w => by
    refine aw_reg0 (aw_reg (True ∧ (∀ (i : Nat), i < n → runD (x i) = runD (x i)) ∧ lateC n x ∧ n ≤ (1000000 : Nat)) (by ((try simp only [inRange_i64] at *); (try simp only [implies_true, and_self, true_and, and_true]); (repeat' (with_reducible apply And.intro)) <;> first | exact True.intro | exact fun _ _ => rfl | omega | assumption | (intros; simp [freeL, freeD]; done))) (aw_ret (end_d (D.agg [D.val (Value.int IntKind.u8 (timeB n x).rule), D.val (Value.int IntKind.i64 (timeB n x).a), D.val (Value.int IntKind.i64 (timeB n x).b), D.val (Value.int IntKind.i64 (timeB n x).hour)]) ?_)))
    rfl

def R82 : List D → Option (Option Prop × D)
  | [d0] => match runsR d0 with
    | some (p, n, x) => some (some (p ∧ lateC n x ∧ n ≤ 1000000), .agg (breD (timeB n x)))
    | _ => none
  | _ => none
noncomputable def T82 := orCl (seeC 82 R82) T90
theorem T82_ok (K : Cust) : ClOK K PG T82 := tab_see cf_82 (fun ds p d h hp => by
    unfold R82 at h
    split at h
    · split at h
      · rename_i e0
        cases h
        obtain ⟨h1, h2, h3⟩ := hp _ rfl
        exact ⟨_, less_cons (runsR_less e0 h1) (Less.refl _), b3_alone _ _ h2 h3⟩
      · cases h
    · cases h) (T90_ok K)
theorem b84_alone (h : Hall) (n : Nat) (x : Nat → Run) (hin : inC h.n n x) (hn : n ≤ 1000000 ∧ h.n ≤ 1000000) : Alone PG 84 [.ref [rowR n x] 0, .ref [.fn 80 [] [.ref (hallD h) 0]] 0] (.agg (breD (hourB 2 (staffP h) n x))) :=
  Alone.ofW (cl := T82) (raw := false) hm0 T82_ok cf_84 fun K w => by
    refine aw_reg0 (aw_reg (True ∧ (∀ (i : Nat), i < n → runD (x i) = runD (x i)) ∧ ((∀ (i : Nat), i < h.n → [i6 (h.st i)] = [i6 (h.st i)]) ∧ ∀ (i : Nat), i < h.m → [i6 (h.en i)] = [i6 (h.en i)]) ∧ inC h.n n x ∧ n ≤ (1000000 : Nat) ∧ h.n ≤ (1000000 : Nat)) (by ((try simp only [inRange_i64] at *); (try simp only [implies_true, and_self, true_and, and_true]); (repeat' (with_reducible apply And.intro)) <;> first | exact True.intro | exact fun _ _ => rfl | omega | assumption | (intros; simp [freeL, freeD]; done))) (aw_ret (end_d (D.agg [D.val (Value.int IntKind.u8 (hourB (2 : Int) (staffP h) n x).rule), D.val (Value.int IntKind.i64 (hourB (2 : Int) (staffP h) n x).a), D.val (Value.int IntKind.i64 (hourB (2 : Int) (staffP h) n x).b), D.val (Value.int IntKind.i64 (hourB (2 : Int) (staffP h) n x).hour)]) ?_)))
    rfl

def R84 : List D → Option (Option Prop × D)
  | [d0, .ref [.fn 80 [] [d1]] 0] => match runsR d0, hallR d1 with
    | some (p, n, x), some (q, h) => some (some (p ∧ q ∧ inC h.n n x ∧ n ≤ 1000000 ∧ h.n ≤ 1000000), .agg (breD (hourB 2 (staffP h) n x)))
    | _, _ => none
  | _ => none
noncomputable def T84 := orCl (seeC 84 R84) T82
theorem T84_ok (K : Cust) : ClOK K PG T84 := tab_see cf_84 (fun ds p d h hp => by
    unfold R84 at h
    split at h
    · split at h
      · rename_i e0 e1
        cases h
        obtain ⟨h1, h2, h3, h4⟩ := hp _ rfl
        exact ⟨_, less_cons (runsR_less e0 h1) (less_cons (lessC (less_cons (less_fn (Less.refl _) (less_cons (hallR_less e1 h2) (Less.refl _))) (Less.refl _))) (Less.refl _)), b84_alone _ _ _ h3 h4⟩
      · cases h
    · cases h) (T82_ok K)
theorem b86_alone (h : Hall) (n : Nat) (x : Nat → Run) (hin : inC h.m n x) (hn : n ≤ 1000000 ∧ h.m ≤ 1000000) : Alone PG 86 [.ref [rowR n x] 0, .ref [.fn 81 [] [.ref (hallD h) 0]] 0] (.agg (breD (hourB 3 (weakP h) n x))) :=
  Alone.ofW (cl := T84) (raw := false) hm0 T84_ok cf_86 fun K w => by
    refine aw_reg0 (aw_reg (True ∧ (∀ (i : Nat), i < n → runD (x i) = runD (x i)) ∧ ((∀ (i : Nat), i < h.n → [i6 (h.st i)] = [i6 (h.st i)]) ∧ ∀ (i : Nat), i < h.m → [i6 (h.en i)] = [i6 (h.en i)]) ∧ inC h.m n x ∧ n ≤ (1000000 : Nat) ∧ h.m ≤ (1000000 : Nat)) (by ((try simp only [inRange_i64] at *); (try simp only [implies_true, and_self, true_and, and_true]); (repeat' (with_reducible apply And.intro)) <;> first | exact True.intro | exact fun _ _ => rfl | omega | assumption | (intros; simp [freeL, freeD]; done))) (aw_ret (end_d (D.agg [D.val (Value.int IntKind.u8 (hourB (3 : Int) (weakP h) n x).rule), D.val (Value.int IntKind.i64 (hourB (3 : Int) (weakP h) n x).a), D.val (Value.int IntKind.i64 (hourB (3 : Int) (weakP h) n x).b), D.val (Value.int IntKind.i64 (hourB (3 : Int) (weakP h) n x).hour)]) ?_)))
    rfl

def R86 : List D → Option (Option Prop × D)
  | [d0, .ref [.fn 81 [] [d1]] 0] => match runsR d0, hallR d1 with
    | some (p, n, x), some (q, h) => some (some (p ∧ q ∧ inC h.m n x ∧ n ≤ 1000000 ∧ h.m ≤ 1000000), .agg (breD (hourB 3 (weakP h) n x)))
    | _, _ => none
  | _ => none
noncomputable def T86 := orCl (seeC 86 R86) T84
theorem T86_ok (K : Cust) : ClOK K PG T86 := tab_see cf_86 (fun ds p d h hp => by
    unfold R86 at h
    split at h
    · split at h
      · rename_i e0 e1
        cases h
        obtain ⟨h1, h2, h3, h4⟩ := hp _ rfl
        exact ⟨_, less_cons (runsR_less e0 h1) (less_cons (lessC (less_cons (less_fn (Less.refl _) (less_cons (hallR_less e1 h2) (Less.refl _))) (Less.refl _))) (Less.refl _)), b86_alone _ _ _ h3 h4⟩
      · cases h
    · cases h) (T84_ok K)
theorem b87_alone (h : Hall) (n : Nat) (x : Nat → Run) (hc : -1000000 ≤ h.cl ∧ h.cl ≤ 1000000) (hs : ∀ i, i < n → smallR (x i)) (hn : n ≤ 1000000) : Alone PG 87 [.ref (hallD h) 0, .ref [rowR n x] 0] (.agg (breD (tunB h n x))) :=
  Alone.ofW (cl := T86) (raw := false) hm0 T86_ok cf_87 fun K w => by
    refine aw_reg0 (aw_reg (True ∧ ((∀ (i : Nat), i < h.n → [i6 (h.st i)] = [i6 (h.st i)]) ∧ ∀ (i : Nat), i < h.m → [i6 (h.en i)] = [i6 (h.en i)]) ∧ (∀ (i : Nat), i < n → runD (x i) = runD (x i)) ∧ ((-1000000 : Int) ≤ h.cl ∧ h.cl ≤ (1000000 : Int)) ∧ (∀ (i : Nat), i < n → smallR (x i)) ∧ n ≤ (1000000 : Nat)) (by ((try simp only [inRange_i64] at *); (try simp only [implies_true, and_self, true_and, and_true]); (repeat' (with_reducible apply And.intro)) <;> first | exact True.intro | exact fun _ _ => rfl | omega | assumption | (intros; simp [freeL, freeD]; done))) (aw_ret (end_d (D.agg [D.val (Value.int IntKind.u8 (tunB h n x).rule), D.val (Value.int IntKind.i64 (tunB h n x).a), D.val (Value.int IntKind.i64 (tunB h n x).b), D.val (Value.int IntKind.i64 (tunB h n x).hour)]) ?_)))
    rfl

def R87 : List D → Option (Option Prop × D)
  | [d0, d1] => match hallR d0, runsR d1 with
    | some (p, h), some (q, n, x) => some (some (p ∧ q ∧ (-1000000 ≤ h.cl ∧ h.cl ≤ 1000000) ∧ (∀ i, i < n → smallR (x i)) ∧ n ≤ 1000000), .agg (breD (tunB h n x)))
    | _, _ => none
  | _ => none
noncomputable def T87 := orCl (seeC 87 R87) T86
theorem T87_ok (K : Cust) : ClOK K PG T87 := tab_see cf_87 (fun ds p d h hp => by
    unfold R87 at h
    split at h
    · split at h
      · rename_i e0 e1
        cases h
        obtain ⟨h1, h2, h3, h4, h5⟩ := hp _ rfl
        exact ⟨_, less_cons (hallR_less e0 h1) (less_cons (runsR_less e1 h2) (Less.refl _)), b87_alone _ _ _ h3 h4 h5⟩
      · cases h
    · cases h) (T86_ok K)
theorem b89_alone (h : Hall) (n : Nat) (x : Nat → Run) (hx : prepC h.n n x) (hn : n ≤ 1000000 ∧ h.n ≤ 1000000) : Alone PG 89 [.ref (hallD h) 0, .ref [rowR n x] 0] (.agg (breD (roomB h n x))) :=
  Alone.ofW (cl := T87) (raw := false) hm0 T87_ok cf_89 fun K w => by
    refine aw_reg0 (aw_reg (True ∧ ((∀ (i : Nat), i < h.n → [i6 (h.st i)] = [i6 (h.st i)]) ∧ ∀ (i : Nat), i < h.m → [i6 (h.en i)] = [i6 (h.en i)]) ∧ (∀ (i : Nat), i < n → runD (x i) = runD (x i)) ∧ prepC h.n n x ∧ n ≤ (1000000 : Nat) ∧ h.n ≤ (1000000 : Nat)) (by ((try simp only [inRange_i64] at *); (try simp only [implies_true, and_self, true_and, and_true]); (repeat' (with_reducible apply And.intro)) <;> first | exact True.intro | exact fun _ _ => rfl | omega | assumption | (intros; simp [freeL, freeD]; done))) (aw_ret (end_d (D.agg [D.val (Value.int IntKind.u8 (roomB h n x).rule), D.val (Value.int IntKind.i64 (roomB h n x).a), D.val (Value.int IntKind.i64 (roomB h n x).b), D.val (Value.int IntKind.i64 (roomB h n x).hour)]) ?_)))
    rfl

def R89 : List D → Option (Option Prop × D)
  | [d0, d1] => match hallR d0, runsR d1 with
    | some (p, h), some (q, n, x) => some (some (p ∧ q ∧ prepC h.n n x ∧ n ≤ 1000000 ∧ h.n ≤ 1000000), .agg (breD (roomB h n x)))
    | _, _ => none
  | _ => none
noncomputable def T89 := orCl (seeC 89 R89) T87
theorem T89_ok (K : Cust) : ClOK K PG T89 := tab_see cf_89 (fun ds p d h hp => by
    unfold R89 at h
    split at h
    · split at h
      · rename_i e0 e1
        cases h
        obtain ⟨h1, h2, h3, h4⟩ := hp _ rfl
        exact ⟨_, less_cons (hallR_less e0 h1) (less_cons (runsR_less e1 h2) (Less.refl _)), b89_alone _ _ _ h3 h4⟩
      · cases h
    · cases h) (T87_ok K)
def breB (h : Hall) (n : Nat) (x : Nat → Run) : Bre :=
  if (timeB n x).rule ≠ 0 then timeB n x else if (hourB 2 (staffP h) n x).rule ≠ 0 then hourB 2 (staffP h) n x else if (hourB 3 (weakP h) n x).rule ≠ 0 then hourB 3 (weakP h) n x else
  if (tunB h n x).rule ≠ 0 then tunB h n x else if (roomB h n x).rule ≠ 0 then roomB h n x else bre0
/-- what is valid -/
def runsC (h : Hall) (n : Nat) (x : Nat → Run) : Prop := h.m = h.n ∧ h.n ≤ 96 ∧ n ≤ 1000 ∧ (0 ≤ h.cl ∧ h.cl ≤ 6) ∧ ∀ i, i < n → campB h.n (x i).c = true
theorem runsC_late {h : Hall} {n : Nat} {x : Nat → Run} (hv : runsC h n x) : lateC n x := fun i hi => by
  have := hv.2.2.2.2 i hi
  have hn := hv.2.1
  simp only [campB, decide_eq_true_eq] at this
  simp only [inRange_i64]
  omega
theorem time_none {n : Nat} {x : Nat → Run} (h : (timeB n x).rule = 0) : ∀ i, i < n → lateB (x i) = false := by
  rcases findI_cases (fun i => lateB (x i)) n with ⟨i, h1, h2, h3, h4⟩ | ⟨h1, h2⟩
  · unfold timeB at h
    rw [h4] at h
    rw [decide_eq_true (by omega)] at h
    cases h
  · exact h1
theorem runsC_in {h : Hall} {n : Nat} {x : Nat → Run} (hv : runsC h n x) (ht : (timeB n x).rule = 0) : inC h.n n x := fun i hi => by
  have := hv.2.2.2.2 i hi
  have h2 := time_none ht i hi
  simp only [campB, decide_eq_true_eq] at this
  simp only [lateB, decide_eq_false_iff_not] at h2
  omega
theorem runsC_small {h : Hall} {n : Nat} {x : Nat → Run} (hv : runsC h n x) (ht : (timeB n x).rule = 0) : ∀ i, i < n → smallR (x i) := fun i hi => by
  have := hv.2.2.2.2 i hi
  have h2 := time_none ht i hi
  have hn := hv.2.1
  simp only [campB, decide_eq_true_eq] at this
  simp only [lateB, decide_eq_false_iff_not] at h2
  unfold smallR
  omega
theorem runsC_prep {h : Hall} {n : Nat} {x : Nat → Run} (hv : runsC h n x) (ht : (timeB n x).rule = 0) : prepC h.n n x := fun i hi => by
  have := hv.2.2.2.2 i hi
  have h2 := time_none ht i hi
  have hn := hv.2.1
  refine ⟨runsC_small hv ht i hi, ?_⟩
  simp only [campB, decide_eq_true_eq] at this
  simp only [lateB, decide_eq_false_iff_not] at h2
  omega

theorem breach_alone (h : Hall) (n : Nat) (x : Nat → Run) (hv : runsC h n x) : Alone PG 58 [.agg (hallD h), rowR n x] (.agg (breD (breB h n x))) :=
  Alone.ofW (cl := T89) (raw := false) hm0 T89_ok cf_58 fun K w => by
    obtain ⟨v1, v2, v3, v4, v5⟩ := id hv
    have hn : n ≤ 1000000 := by omega
    have hN : h.n ≤ 1000000 := by omega
    have hM : h.m ≤ 1000000 := by omega
    refine aw_reg0 (aw_reg0 (aw_reg0 (aw_reg0 (aw_assoc (aw_reg0 (aw_unroll 7 hm0 (T89_ok K) (unr_step (aw_reg0 (aw_yes (aw_skips (aw_blocks (aw_reg (True ∧ (0 : Int) ≤ (0 : Int) ∧ (0 : Int) < (5 : Int)) (by (have q0 := runsC_late hv; ((try simp only [inRange_i64] at *); (try simp only [implies_true, and_self, true_and, and_true]); (repeat' (with_reducible apply And.intro)) <;> first | exact True.intro | exact fun _ _ => rfl | omega | assumption | (intros; simp [freeL, freeD]; done)))) (aw_reg (True ∧ (∀ (i : Nat), i < n → True ∧ True ∧ True ∧ True ∧ True ∧ True ∧ True ∧ True ∧ True) ∧ (∀ (i : Nat), i < n → runD (x i) = runD (x i)) ∧ lateC n x ∧ n ≤ (1000000 : Nat)) (by (have q0 := runsC_late hv; ((try simp only [inRange_i64] at *); (try simp only [implies_true, and_self, true_and, and_true]); (repeat' (with_reducible apply And.intro)) <;> first | exact True.intro | exact fun _ _ => rfl | omega | assumption | (intros; simp [freeL, freeD]; done)))) (aw_reg0 (aw_ifne ((timeB n x).rule) ((0 : Int)) (fun h1 => aw_reg0 (aw_ret (blk_ret (seq_ret (unr_ret (blk_ret (seq_ret (end_d (D.agg [D.val (Value.int IntKind.u8 (timeB n x).rule), D.val (Value.int IntKind.i64 (timeB n x).a), D.val (Value.int IntKind.i64 (timeB n x).b), D.val (Value.int IntKind.i64 (timeB n x).hour)]) ?_)))))))) (fun h2 => aw_skip (blk_normal (seq_normal (aw_end (True ∧ inRange IntKind.i64 ((0 : Int) + (1 : Int))) (by (have q0 := runsC_late hv; ((try simp only [inRange_i64] at *); (try simp only [implies_true, and_self, true_and, and_true]); (repeat' (with_reducible apply And.intro)) <;> first | exact True.intro | exact fun _ _ => rfl | omega | assumption | (intros; simp [freeL, freeD]; done)))) (unr_next (unr_step (aw_reg0 (aw_yes (aw_skips (aw_blocks (aw_reg (True ∧ (0 : Int) ≤ (0 : Int) + (1 : Int) ∧ (0 : Int) + (1 : Int) < (5 : Int)) (by (have q0 := runsC_late hv; ((try simp only [inRange_i64] at *); (try simp only [implies_true, and_self, true_and, and_true]); (repeat' (with_reducible apply And.intro)) <;> first | exact True.intro | exact fun _ _ => rfl | omega | assumption | (intros; simp [freeL, freeD]; done)))) (aw_reg (True ∧ ((∀ (i : Nat), i < n → True ∧ True ∧ True ∧ True ∧ True ∧ True ∧ True ∧ True ∧ True) ∧ (∀ (i : Nat), i < h.n → True ∧ True) ∧ ∀ (i : Nat), i < h.m → True ∧ True) ∧ (∀ (i : Nat), i < n → runD (x i) = runD (x i)) ∧ ((∀ (i : Nat), i < h.n → [i6 (h.st i)] = [i6 (h.st i)]) ∧ ∀ (i : Nat), i < h.m → [i6 (h.en i)] = [i6 (h.en i)]) ∧ inC h.n n x ∧ n ≤ (1000000 : Nat) ∧ h.n ≤ (1000000 : Nat)) (by (have q1 := runsC_in hv (by assumption); have q2 : inC h.m n x := v1 ▸ q1; have q3 := runsC_small hv (by assumption); have q4 := runsC_prep hv (by assumption); ((try simp only [inRange_i64] at *); (try simp only [implies_true, and_self, true_and, and_true]); (repeat' (with_reducible apply And.intro)) <;> first | exact True.intro | exact fun _ _ => rfl | omega | assumption | (intros; simp [freeL, freeD]; done)))) (aw_reg0 (aw_ifne ((hourB (2 : Int) (staffP h) n x).rule) ((0 : Int)) (fun h3 => aw_reg0 (aw_ret (blk_ret (seq_ret (unr_ret (blk_ret (seq_ret (end_d (D.agg [D.val (Value.int IntKind.u8 (hourB (2 : Int) (staffP h) n x).rule), D.val (Value.int IntKind.i64 (hourB (2 : Int) (staffP h) n x).a), D.val (Value.int IntKind.i64 (hourB (2 : Int) (staffP h) n x).b), D.val (Value.int IntKind.i64 (hourB (2 : Int) (staffP h) n x).hour)]) ?_)))))))) (fun h4 => aw_skip (blk_normal (seq_normal (aw_end (True ∧ inRange IntKind.i64 ((0 : Int) + (1 : Int) + (1 : Int))) (by (have q0 := runsC_late hv; ((try simp only [inRange_i64] at *); (try simp only [implies_true, and_self, true_and, and_true]); (repeat' (with_reducible apply And.intro)) <;> first | exact True.intro | exact fun _ _ => rfl | omega | assumption | (intros; simp [freeL, freeD]; done)))) (unr_next (unr_step (aw_reg0 (aw_yes (aw_skips (aw_blocks (aw_reg (True ∧ (0 : Int) ≤ (0 : Int) + (1 : Int) + (1 : Int) ∧ (0 : Int) + (1 : Int) + (1 : Int) < (5 : Int)) (by (have q0 := runsC_late hv; ((try simp only [inRange_i64] at *); (try simp only [implies_true, and_self, true_and, and_true]); (repeat' (with_reducible apply And.intro)) <;> first | exact True.intro | exact fun _ _ => rfl | omega | assumption | (intros; simp [freeL, freeD]; done)))) (aw_reg (True ∧ ((∀ (i : Nat), i < n → True ∧ True ∧ True ∧ True ∧ True ∧ True ∧ True ∧ True ∧ True) ∧ (∀ (i : Nat), i < h.n → True ∧ True) ∧ ∀ (i : Nat), i < h.m → True ∧ True) ∧ (∀ (i : Nat), i < n → runD (x i) = runD (x i)) ∧ ((∀ (i : Nat), i < h.n → [i6 (h.st i)] = [i6 (h.st i)]) ∧ ∀ (i : Nat), i < h.m → [i6 (h.en i)] = [i6 (h.en i)]) ∧ inC h.m n x ∧ n ≤ (1000000 : Nat) ∧ h.m ≤ (1000000 : Nat)) (by (have q1 := runsC_in hv (by assumption); have q2 : inC h.m n x := v1 ▸ q1; have q3 := runsC_small hv (by assumption); have q4 := runsC_prep hv (by assumption); ((try simp only [inRange_i64] at *); (try simp only [implies_true, and_self, true_and, and_true]); (repeat' (with_reducible apply And.intro)) <;> first | exact True.intro | exact fun _ _ => rfl | omega | assumption | (intros; simp [freeL, freeD]; done)))) (aw_reg0 (aw_ifne ((hourB (3 : Int) (weakP h) n x).rule) ((0 : Int)) (fun h5 => aw_reg0 (aw_ret (blk_ret (seq_ret (unr_ret (blk_ret (seq_ret (end_d (D.agg [D.val (Value.int IntKind.u8 (hourB (3 : Int) (weakP h) n x).rule), D.val (Value.int IntKind.i64 (hourB (3 : Int) (weakP h) n x).a), D.val (Value.int IntKind.i64 (hourB (3 : Int) (weakP h) n x).b), D.val (Value.int IntKind.i64 (hourB (3 : Int) (weakP h) n x).hour)]) ?_)))))))) (fun h6 => aw_skip (blk_normal (seq_normal (aw_end (True ∧ inRange IntKind.i64 ((0 : Int) + (1 : Int) + (1 : Int) + (1 : Int))) (by (have q0 := runsC_late hv; ((try simp only [inRange_i64] at *); (try simp only [implies_true, and_self, true_and, and_true]); (repeat' (with_reducible apply And.intro)) <;> first | exact True.intro | exact fun _ _ => rfl | omega | assumption | (intros; simp [freeL, freeD]; done)))) (unr_next (unr_step (aw_reg0 (aw_yes (aw_skips (aw_blocks (aw_reg (True ∧ (0 : Int) ≤ (0 : Int) + (1 : Int) + (1 : Int) + (1 : Int) ∧ (0 : Int) + (1 : Int) + (1 : Int) + (1 : Int) < (5 : Int)) (by (have q0 := runsC_late hv; ((try simp only [inRange_i64] at *); (try simp only [implies_true, and_self, true_and, and_true]); (repeat' (with_reducible apply And.intro)) <;> first | exact True.intro | exact fun _ _ => rfl | omega | assumption | (intros; simp [freeL, freeD]; done)))) (aw_reg (True ∧ (((∀ (i : Nat), i < h.n → True ∧ True) ∧ ∀ (i : Nat), i < h.m → True ∧ True) ∧ ∀ (i : Nat), i < n → True ∧ True ∧ True ∧ True ∧ True ∧ True ∧ True ∧ True ∧ True) ∧ ((∀ (i : Nat), i < h.n → [i6 (h.st i)] = [i6 (h.st i)]) ∧ ∀ (i : Nat), i < h.m → [i6 (h.en i)] = [i6 (h.en i)]) ∧ (∀ (i : Nat), i < n → runD (x i) = runD (x i)) ∧ ((-1000000 : Int) ≤ h.cl ∧ h.cl ≤ (1000000 : Int)) ∧ (∀ (i : Nat), i < n → smallR (x i)) ∧ n ≤ (1000000 : Nat)) (by (have q1 := runsC_in hv (by assumption); have q2 : inC h.m n x := v1 ▸ q1; have q3 := runsC_small hv (by assumption); have q4 := runsC_prep hv (by assumption); ((try simp only [inRange_i64] at *); (try simp only [implies_true, and_self, true_and, and_true]); (repeat' (with_reducible apply And.intro)) <;> first | exact True.intro | exact fun _ _ => rfl | omega | assumption | (intros; simp [freeL, freeD]; done)))) (aw_reg0 (aw_ifne ((tunB h n x).rule) ((0 : Int)) (fun h7 => aw_reg0 (aw_ret (blk_ret (seq_ret (unr_ret (blk_ret (seq_ret (end_d (D.agg [D.val (Value.int IntKind.u8 (tunB h n x).rule), D.val (Value.int IntKind.i64 (tunB h n x).a), D.val (Value.int IntKind.i64 (tunB h n x).b), D.val (Value.int IntKind.i64 (tunB h n x).hour)]) ?_)))))))) (fun h8 => aw_skip (blk_normal (seq_normal (aw_end (True ∧ inRange IntKind.i64 ((0 : Int) + (1 : Int) + (1 : Int) + (1 : Int) + (1 : Int))) (by (have q0 := runsC_late hv; ((try simp only [inRange_i64] at *); (try simp only [implies_true, and_self, true_and, and_true]); (repeat' (with_reducible apply And.intro)) <;> first | exact True.intro | exact fun _ _ => rfl | omega | assumption | (intros; simp [freeL, freeD]; done)))) (unr_next (unr_step (aw_reg0 (aw_yes (aw_skips (aw_blocks (aw_reg (True ∧ (0 : Int) ≤ (0 : Int) + (1 : Int) + (1 : Int) + (1 : Int) + (1 : Int) ∧ (0 : Int) + (1 : Int) + (1 : Int) + (1 : Int) + (1 : Int) < (5 : Int)) (by (have q0 := runsC_late hv; ((try simp only [inRange_i64] at *); (try simp only [implies_true, and_self, true_and, and_true]); (repeat' (with_reducible apply And.intro)) <;> first | exact True.intro | exact fun _ _ => rfl | omega | assumption | (intros; simp [freeL, freeD]; done)))) (aw_reg (True ∧ (((∀ (i : Nat), i < h.n → True ∧ True) ∧ ∀ (i : Nat), i < h.m → True ∧ True) ∧ ∀ (i : Nat), i < n → True ∧ True ∧ True ∧ True ∧ True ∧ True ∧ True ∧ True ∧ True) ∧ ((∀ (i : Nat), i < h.n → [i6 (h.st i)] = [i6 (h.st i)]) ∧ ∀ (i : Nat), i < h.m → [i6 (h.en i)] = [i6 (h.en i)]) ∧ (∀ (i : Nat), i < n → runD (x i) = runD (x i)) ∧ prepC h.n n x ∧ n ≤ (1000000 : Nat) ∧ h.n ≤ (1000000 : Nat)) (by (have q1 := runsC_in hv (by assumption); have q2 : inC h.m n x := v1 ▸ q1; have q3 := runsC_small hv (by assumption); have q4 := runsC_prep hv (by assumption); ((try simp only [inRange_i64] at *); (try simp only [implies_true, and_self, true_and, and_true]); (repeat' (with_reducible apply And.intro)) <;> first | exact True.intro | exact fun _ _ => rfl | omega | assumption | (intros; simp [freeL, freeD]; done)))) (aw_reg0 (aw_ifne ((roomB h n x).rule) ((0 : Int)) (fun h9 => aw_reg0 (aw_ret (blk_ret (seq_ret (unr_ret (blk_ret (seq_ret (end_d (D.agg [D.val (Value.int IntKind.u8 (roomB h n x).rule), D.val (Value.int IntKind.i64 (roomB h n x).a), D.val (Value.int IntKind.i64 (roomB h n x).b), D.val (Value.int IntKind.i64 (roomB h n x).hour)]) ?_)))))))) (fun h10 => aw_skip (blk_normal (seq_normal (aw_end (True ∧ inRange IntKind.i64 ((0 : Int) + (1 : Int) + (1 : Int) + (1 : Int) + (1 : Int) + (1 : Int))) (by (have q0 := runsC_late hv; ((try simp only [inRange_i64] at *); (try simp only [implies_true, and_self, true_and, and_true]); (repeat' (with_reducible apply And.intro)) <;> first | exact True.intro | exact fun _ _ => rfl | omega | assumption | (intros; simp [freeL, freeD]; done)))) (unr_next (unr_step (aw_reg0 (aw_no (aw_exits (unr_exit (blk_exit (seq_normal (aw_reg0 (aw_ret (end_d (D.agg [D.val (Value.int IntKind.u8 (0 : Int)), D.val (Value.int IntKind.i64 (0 : Int)), D.val (Value.int IntKind.i64 (0 : Int)), D.val (Value.int IntKind.i64 (0 : Int))]) ?_))))))))))))))))))))))))))))))))))))))))))))))))))))))))))))))))))))))))))))))))))))))
    all_goals simp_all [breB, breD, bre0]

end Go.Ev

open Go Go.Ev Go.RowKit
namespace Go.Ev
set_option maxRecDepth 100000
set_option linter.all false

def R58 : List D → Option (Option Prop × D)
  | [d0, d1] => match hallO d0, runsO d1 with
    | some (p, h), some (q, n, x) => some (some (p ∧ q ∧ runsC h n x), .agg (breD (breB h n x)))
    | _, _ => none
  | _ => none
noncomputable def T58 := orCl (aloC 58 R58) T89
theorem T58_ok (K : Cust) : ClOK K PG T58 := tab_cons cf_58 (fun ds p d h hp => by
    unfold R58 at h
    split at h
    · split at h
      · rename_i e0 e1
        cases h
        obtain ⟨h1, h2, h3⟩ := hp _ rfl
        exact ⟨_, less_cons (hallO_less e0 h1) (less_cons (runsO_less e1 h2) (Less.refl _)), by simp [freeL, freeD, rowR_free, hallD_free], by simp [freeD, breD_free], breach_alone _ _ _ h3⟩
      · cases h
    · cases h) (T89_ok K)
theorem keep_alone (h : Hall) (n : Nat) (x : Nat → Run) (hv : runsC h n x) : Alone PG 91 [.agg (hallD h), rowR n x] (bD ((breB h n x).rule == 0)) :=
  Alone.ofW (cl := T58) (raw := false) hm0 T58_ok cf_91 fun K w => by
    refine aw_reg0 (aw_reg (True ∧ ((∀ (i : Nat), i < h.n → [i6 (h.st i)] = [i6 (h.st i)]) ∧ ∀ (i : Nat), i < h.m → [i6 (h.en i)] = [i6 (h.en i)]) ∧ (∀ (i : Nat), i < n → runD (x i) = runD (x i)) ∧ runsC h n x) (by ((try simp only [inRange_i64] at *); (try simp only [implies_true, and_self, true_and, and_true]); (repeat' (with_reducible apply And.intro)) <;> first | exact True.intro | exact fun _ _ => rfl | omega | assumption | (intros; simp [freeL, freeD]; done))) (aw_ret (end_b ((breB h n x).rule == (0 : Int)) ?_)))
    rfl

def R91 : List D → Option (Option Prop × D)
  | [d0, d1] => match hallO d0, runsO d1 with
    | some (p, h), some (q, n, x) => some (some (p ∧ q ∧ runsC h n x), bD ((breB h n x).rule == 0))
    | _, _ => none
  | _ => none
noncomputable def T91 := orCl (aloC 91 R91) T58
theorem T91_ok (K : Cust) : ClOK K PG T91 := tab_cons cf_91 (fun ds p d h hp => by
    unfold R91 at h
    split at h
    · split at h
      · rename_i e0 e1
        cases h
        obtain ⟨h1, h2, h3⟩ := hp _ rfl
        exact ⟨_, less_cons (hallO_less e0 h1) (less_cons (runsO_less e1 h2) (Less.refl _)), by simp [freeL, freeD, rowR_free, hallD_free], by simp [freeD], keep_alone _ _ _ h3⟩
      · cases h
    · cases h) (T58_ok K)
def okB (h : Hall) (n : Nat) (c : Nat → Camp) (m : Nat) : Bool := campsB h n c && decide ((m : Int) = n)
def plErr (h : Hall) (n : Nat) (c : Nat → Camp) (m : Nat) : Int := bif campsB h n c then (bif decide ((m : Int) = n) then 0 else 5) else 2
def okN (b : Bool) (n : Nat) : Nat := bif b then n else 0
def planR (c : Nat → Camp) (p : Nat → Int) (i : Nat) : Run := ⟨c i, p i⟩
theorem plErr_ok {h : Hall} {n : Nat} {c : Nat → Camp} {m : Nat} (e : plErr h n c m = 0) : okB h n c m = true := by grind [plErr, okB]
theorem plErr_bad {h : Hall} {n : Nat} {c : Nat → Camp} {m : Nat} (e : ¬ plErr h n c m = 0) : okB h n c m = false := by grind [plErr, okB]
def zero8 : List D := [i6 0, i6 0, i6 0, i6 0, i6 0, i6 0, i6 0, i6 0]
theorem frz_i {hp : List Blk} {x y : Int} (h : x = y) : FrzP hp (i6 x) (i6 y) := by
  subst h
  exact frz_free (by simp [freeD])
theorem frz_bad {hp : List Blk} {b : Bool} {n : Nat} {k : Nat} {g : Nat → List D} (h : b = false) : FrzP hp (.val (.slice none 0 0)) (.row k (okN b n) g) := by
  subst h
  exact frz_nil

theorem place_alone (h : Hall) (n : Nat) (c : Nat → Camp) (m : Nat) (p : Nat → Int) (hn : n ≤ 100000 ∧ m ≤ 100000 ∧ h.n ≤ 100000 ∧ h.m ≤ 100000) : Alone PG 57 [.agg (hallD h), rowC n c, rowI m p] (.tup [rowR (okN (okB h n c m) n) (planR c p), i6 (plErr h n c m)]) :=
  Alone.ofF (cl := T91) hm0 T91_ok cf_57 fun K w => by
    refine aw_reg0 (aw_assoc (aw_reg (True ∧ ((∀ (i : Nat), i < h.n → [i6 (h.st i)] = [i6 (h.st i)]) ∧ ∀ (i : Nat), i < h.m → [i6 (h.en i)] = [i6 (h.en i)]) ∧ (∀ (i : Nat), i < n → campD (c i) = campD (c i)) ∧ h.n ≤ (1000000 : Nat) ∧ h.m ≤ (1000000 : Nat) ∧ n ≤ (1000000 : Nat)) (by ((try simp only [inRange_i64] at *); (try simp only [implies_true, and_self, true_and, and_true]); (repeat' (with_reducible apply And.intro)) <;> first | exact True.intro | exact fun _ _ => rfl | omega | assumption | (intros; simp [freeL, freeD]; done))) (aw_assoc (aw_reg0 (aw_ifsne (bif campsB h n c then (0 : Int) else (2 : Int)) ((0 : Int)) (fun h1 => aw_assoc (aw_reg0 (aw_rets (end_f (D.tup [D.val (Value.slice none (0 : Nat) (0 : Nat)), D.val (Value.int IntKind.i64 (bif campsB h n c then (0 : Int) else (2 : Int)))]) ?_)))) (fun h2 => aw_skips (aw_assoc (aw_reg0 (aw_ifsne ((↑m : Int)) ((↑n : Int)) (fun h3 => aw_assoc (aw_reg0 (aw_rets (end_f (D.tup [D.val (Value.slice none (0 : Nat) (0 : Nat)), D.val (Value.int IntKind.i64 (5 : Int))]) ?_)))) (fun h4 => aw_skips (aw_reg (True ∧ (0 : Int) ≤ (↑n : Int) ∧ (↑n : Int) ≤ (↑n : Int) ∧ (↑n : Int) ≤ (1048576 : Int) ∧ (64 : Nat) * n ≤ (16777216 : Nat)) (by (simp only [inRange_i64, true_and]; omega)) (aw_assoc (aw_reg0 (?_))))))))))))))
    · exact frz_tup (frzL_cons (frz_bad (by grind [okB])) (frzL_cons (frz_i (by grind [plErr])) frzL_nil))
    · exact frz_tup (frzL_cons (frz_bad (by grind [okB])) (frzL_cons (frz_i (by grind [plErr])) frzL_nil))
    · have hmn : m = n := by omega
      have hok : campsB h n c = true := by grind
      refine aw_loopV (ι := {i : Nat // i ≤ n}) hm0 (T91_ok K) (fun z => [(28, i6 z.1)]) (fun z => [(3, .arr (n * 8) (rowsF 8 z.1 (fun i => runD (planR c p i)) zero8))]) (fun z => n - z.1) ⟨0, Nat.zero_le n⟩ (fun z => ?_) (by
        show _ = lst _ _ [(3, .arr (n * 8) (rowsF 8 0 (fun i => runD (planR c p i)) zero8))] _
        rw [rowsF_0]
        kernel_rfl)
      obtain ⟨i, hi⟩ := z
      refine aw_reg0 (aw_ifsd ((↑i : Int) < (↑n : Int)) (fun h5 => aw_skips (aw_blocks (aw_reg (True ∧ (0 : Int) ≤ (↑i : Int) ∧ (↑i : Int) < (↑n : Int)) (by (simp only [inRange_i64, true_and]; omega)) (aw_end (((True ∧ (0 : Int) ≤ (↑i : Int) ∧ (↑i : Int) < (↑m : Int)) ∧ (0 : Int) ≤ (↑i : Int) ∧ (↑i : Int) < (↑n : Int)) ∧ i * (8 : Nat) + (8 : Nat) ≤ n * (8 : Nat)) (by (simp only [inRange_i64, true_and]; omega)) (blk_normal (seq_normal (aw_end (True ∧ inRange IntKind.i64 ((↑i : Int) + (1 : Int))) (by (simp only [inRange_i64, true_and]; omega)) (round_t 4 ((True ∧ True ∧ (∀ (i : Nat), i < h.n → True ∧ True) ∧ (∀ (i : Nat), i < h.m → True ∧ True) ∧ True) ∧ (∀ (i : Nat), i < n → True ∧ True ∧ True ∧ True ∧ True ∧ True ∧ True ∧ True) ∧ (∀ (i : Nat), i < m → True ∧ True) ∧ (True ∧ True ∧ (∀ (i : Nat), i < h.n → True ∧ True) ∧ (∀ (i : Nat), i < h.m → True ∧ True) ∧ True) ∧ (∀ (i : Nat), i < n → True ∧ True ∧ True ∧ True ∧ True ∧ True ∧ True ∧ True) ∧ (∀ (i : Nat), i < m → True ∧ True) ∧ (∀ (i : Nat), i < n → True ∧ True ∧ True ∧ True ∧ True ∧ True ∧ True ∧ True) ∧ (∀ (i : Nat), i < n → True ∧ True ∧ True ∧ True ∧ True ∧ True ∧ True ∧ True) ∧ (∀ (i : Nat), i < n → True ∧ True ∧ True ∧ True ∧ True ∧ True ∧ True ∧ True) ∧ True) (((∀ (i : Nat), i < h.n → True ∧ True) ∧ (∀ (i : Nat), i < h.m → True ∧ True) ∧ True) ∧ (∀ (j : Nat), j < n * (8 : Nat) → needD (4 : Nat) (updF (rowsF (8 : Nat) i (fun (i : Nat) => runD (planR c p i)) zero8) (i * (8 : Nat)) [D.val (Value.int IntKind.i64 (c i).cu), D.val (Value.int IntKind.i64 (c i).pr), D.val (Value.int IntKind.i64 (c i).ho), D.val (Value.int IntKind.i64 (c i).en), D.val (Value.int IntKind.i64 (c i).ea), D.val (Value.int IntKind.i64 (c i).la), D.val (Value.int IntKind.i64 (c i).we), D.val (Value.int IntKind.i64 (p i))] j)) ∧ True) (by (simp)) (by (refine ⟨by simp, fun j _ => need_updF _ (by simp [needD]) (need_rows (by simp [runD, needD]) (by simp [zero8, needD])), trivial⟩)) ?_)))))))) (fun h6 => aw_exits (round_exit (blk_exit (seq_normal (aw_reg0 (aw_ret (end_f (D.tup [D.sl (3 : Nat) (0 : Nat) n (8 : Nat) none, D.val (Value.int IntKind.i64 (0 : Int))]) ?_))))))))
      · refine round_v ⟨i + 1, by omega⟩ (by show n - (i + 1) < n - i; omega) ?_
        show _ = lst _ _ [(3, .arr (n * 8) (rowsF 8 (i + 1) (fun i => runD (planR c p i)) zero8))] _
        rw [rowsF_set (k := 8) (i := i) (g := fun i => runD (planR c p i)) (z := zero8) (by decide) rfl]
        kernel_rfl
      · have e1 : okN (okB h n c m) n = n := by
          have : okB h n c m = true := by grind [okB]
          rw [this]; rfl
        have e2 : plErr h n c m = 0 := by grind [plErr]
        rw [e1, e2]
        exact frz_tup (frzL_cons (frz_rows (m := n * 8) (k := 8) (i0 := i) (g := fun i => runD (planR c p i)) (z := zero8) (by kernel_rfl) (Nat.le_refl _) (by omega) (by decide) (fun j _ => ⟨rfl, fun d hd => by simp [runD] at hd; rcases hd with rfl | rfl | rfl | rfl | rfl | rfl | rfl | rfl <;> simp [freeD]⟩)) (frzL_cons (frz_free (by simp [freeD])) frzL_nil))

def R57 : List D → Option (Option Prop × D)
  | [d0, d1, d2] => match hallO d0, campsO d1, intsO d2 with
    | some (q0, h), some (q1, n, c), some (q2, m, p) => some (some (q0 ∧ q1 ∧ q2 ∧ n ≤ 100000 ∧ m ≤ 100000 ∧ h.n ≤ 100000 ∧ h.m ≤ 100000), .tup [rowR (okN (okB h n c m) n) (planR c p), i6 (plErr h n c m)])
    | _, _, _ => none
  | _ => none
noncomputable def T57 := orCl (aloC 57 R57) T91
theorem T57_ok (K : Cust) : ClOK K PG T57 := tab_cons cf_57 (fun ds p d h hp => by
    unfold R57 at h
    split at h
    · split at h
      · rename_i e0 e1 e2
        cases h
        obtain ⟨h1, h2, h3, h4⟩ := hp _ rfl
        exact ⟨_, less_cons (hallO_less e0 h1) (less_cons (campsO_less e1 h2) (less_cons (intsO_less e2 h3) (Less.refl _))), by simp [freeL, freeD, rowC_free, rowI_free, hallD_free], by simp [freeD, freeL, rowR_free], place_alone _ _ _ _ _ h4⟩
      · cases h
    · cases h) (T91_ok K)
def keepB (h : Hall) (n : Nat) (c : Nat → Camp) (m : Nat) (p : Nat → Int) : Bool := okB h n c m && ((breB h n (planR c p)).rule == 0)
def obErr (h : Hall) (n : Nat) (c : Nat → Camp) (m : Nat) (p : Nat → Int) : Int := bif okB h n c m then (bif (breB h n (planR c p)).rule == 0 then 0 else 100) else plErr h n c m
theorem okB_runs {h : Hall} {n : Nat} {c : Nat → Camp} {m : Nat} {p : Nat → Int} (hk : okB h n c m = true) : runsC h n (planR c p) := by
  simp only [okB, Bool.and_eq_true, campsB, hallB, decide_eq_true_eq, Bool.not_eq_true'] at hk
  obtain ⟨⟨⟨⟨h1, h2, h3⟩, h4, h5, h6⟩, h7, h8⟩, h9⟩ := hk
  refine ⟨by omega, by omega, by omega, by omega, fun i hi => ?_⟩
  have := anyI_false.1 h8 i hi
  simpa [planR] using this

theorem obey_alone (h : Hall) (n : Nat) (c : Nat → Camp) (m : Nat) (p : Nat → Int) (hn : n ≤ 100000 ∧ m ≤ 100000 ∧ h.n ≤ 100000 ∧ h.m ≤ 100000) : Alone PG 59 [.agg (hallD h), rowC n c, rowI m p] (.tup [rowR (okN (keepB h n c m p) n) (planR c p), i6 (obErr h n c m p)]) :=
  Alone.ofF (cl := T57) hm0 T57_ok cf_59 fun K w => by
    refine aw_reg0 (aw_reg (True ∧ ((∀ (i : Nat), i < h.n → [i6 (h.st i)] = [i6 (h.st i)]) ∧ ∀ (i : Nat), i < h.m → [i6 (h.en i)] = [i6 (h.en i)]) ∧ (∀ (i : Nat), i < n → campD (c i) = campD (c i)) ∧ (∀ (i : Nat), i < m → [i6 (p i)] = [i6 (p i)]) ∧ n ≤ (100000 : Nat) ∧ m ≤ (100000 : Nat) ∧ h.n ≤ (100000 : Nat) ∧ h.m ≤ (100000 : Nat)) (by ((try simp only [inRange_i64] at *); (try simp only [implies_true, and_self, true_and, and_true]); (repeat' (with_reducible apply And.intro)) <;> first | exact True.intro | exact fun _ _ => rfl | omega | assumption | (intros; simp [freeL, freeD]; done))) (aw_assoc (aw_reg0 (aw_ifsne (plErr h n c m) ((0 : Int)) (fun h1 => aw_assoc (aw_reg0 (aw_rets (end_f (D.tup [D.val (Value.slice none (0 : Nat) (0 : Nat)), D.val (Value.int IntKind.i64 (plErr h n c m))]) ?_)))) (fun h2 => aw_skips (aw_assoc (aw_reg (True ∧ ((∀ (i : Nat), i < h.n → [i6 (h.st i)] = [i6 (h.st i)]) ∧ ∀ (i : Nat), i < h.m → [i6 (h.en i)] = [i6 (h.en i)]) ∧ (∀ (i : Nat), i < okN (okB h n c m) n → runD (planR c p i) = runD (planR c p i)) ∧ runsC h (okN (okB h n c m) n) (planR c p)) (by (have e := plErr_ok (by assumption); rw [e]; exact ⟨trivial, ⟨fun _ _ => rfl, fun _ _ => rfl⟩, fun _ _ => rfl, okB_runs e⟩)) (aw_ifsne ((breB h (okN (okB h n c m) n) (planR c p)).rule) ((0 : Int)) (fun h3 => aw_assoc (aw_reg0 (aw_rets (end_f (D.tup [D.val (Value.slice none (0 : Nat) (0 : Nat)), D.val (Value.int IntKind.i64 (100 : Int))]) ?_)))) (fun h4 => aw_skips (aw_reg0 (aw_ret (end_f (D.tup [D.row (8 : Nat) (okN (okB h n c m) n) fun (i : Nat) => runD (planR c p i), D.val (Value.int IntKind.i64 (0 : Int))]) ?_))))))))))))
    · have e := plErr_bad h1
      exact frz_tup (frzL_cons (frz_bad (by simp [keepB, e])) (frzL_cons (frz_i (by simp [obErr, e])) frzL_nil))
    · have e := plErr_ok h2
      simp only [e, okN, cond_true] at h3
      have h3' : ((breB h n (planR c p)).rule == 0) = false := by simpa using h3
      exact frz_tup (frzL_cons (frz_bad (by simp [keepB, e, h3])) (frzL_cons (frz_i (by simp [obErr, e, h3'])) frzL_nil))
    · have e := plErr_ok h2
      simp only [e, okN, cond_true] at h4
      have e1 : keepB h n c m p = true := by simp [keepB, e, h4]
      have e2 : obErr h n c m p = 0 := by simp [obErr, e, h4]
      rw [e, e1, e2]
      exact frz_free (by simp only [freeD, freeL]; exact ⟨fun i => runD_free _, trivial, trivial⟩)

def R59 : List D → Option (Option Prop × D)
  | [d0, d1, d2] => match hallO d0, campsO d1, intsO d2 with
    | some (q0, h), some (q1, n, c), some (q2, m, p) => some (some (q0 ∧ q1 ∧ q2 ∧ n ≤ 100000 ∧ m ≤ 100000 ∧ h.n ≤ 100000 ∧ h.m ≤ 100000), .tup [rowR (okN (keepB h n c m p) n) (planR c p), i6 (obErr h n c m p)])
    | _, _, _ => none
  | _ => none
noncomputable def T59 := orCl (aloC 59 R59) T57
theorem T59_ok (K : Cust) : ClOK K PG T59 := tab_cons cf_59 (fun ds p d h hp => by
    unfold R59 at h
    split at h
    · split at h
      · rename_i e0 e1 e2
        cases h
        obtain ⟨h1, h2, h3, h4⟩ := hp _ rfl
        exact ⟨_, less_cons (hallO_less e0 h1) (less_cons (campsO_less e1 h2) (less_cons (intsO_less e2 h3) (Less.refl _))), by simp [freeL, freeD, rowC_free, rowI_free, hallD_free], by simp [freeD, freeL, rowR_free], obey_alone _ _ _ _ _ h4⟩
      · cases h
    · cases h) (T57_ok K)
end Go.Ev

