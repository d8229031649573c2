import Derived.Test.YtmekepomgofiaaaEvAc
import Derived.Test.YtmekepomgofiaaaEvZn
set_option linter.all false
open Go Go.Ev Go.RowKit
namespace Go.Ev
set_option maxRecDepth 100000
set_option linter.all false
abbrev i6 (x : Int) : D := .val (.int .i64 x)
theorem hm0 : Go.Proofs.Try.prog.follows .mixedOrders = true := by kernel_rfl
def intL : List D → Int
  | [.val (.int .i64 x)] => x
  | _ => 0
structure Camp where
  cu : Int
  pr : Int
  ho : Int
  en : Int
  ea : Int
  la : Int
  we : Int
def campD (c : Camp) : List D := [i6 c.cu, i6 c.pr, i6 c.ho, i6 c.en, i6 c.ea, i6 c.la, i6 c.we]
def campL : List D → Camp
  | [.val (.int .i64 a), .val (.int .i64 b), .val (.int .i64 c), .val (.int .i64 d), .val (.int .i64 e), .val (.int .i64 f), .val (.int .i64 g)] => ⟨a, b, c, d, e, f, g⟩
  | _ => ⟨0, 0, 0, 0, 0, 0, 0⟩
structure Run where
  c : Camp
  first : Int
def runD (r : Run) : List D := [i6 r.c.cu, i6 r.c.pr, i6 r.c.ho, i6 r.c.en, i6 r.c.ea, i6 r.c.la, i6 r.c.we, i6 r.first]
def runL : List D → Run
  | [.val (.int .i64 a), .val (.int .i64 b), .val (.int .i64 c), .val (.int .i64 d), .val (.int .i64 e), .val (.int .i64 f), .val (.int .i64 g), .val (.int .i64 h)] => ⟨⟨a, b, c, d, e, f, g⟩, h⟩
  | _ => ⟨⟨0, 0, 0, 0, 0, 0, 0⟩, 0⟩
def rowI (n : Nat) (f : Nat → Int) : D := .row 1 n fun i => [i6 (f i)]
def rowC (n : Nat) (f : Nat → Camp) : D := .row 7 n fun i => campD (f i)
def rowR (n : Nat) (f : Nat → Run) : D := .row 8 n fun i => runD (f i)
structure Hall where
  ro : Int
  cl : Int
  n : Nat
  st : Nat → Int
  m : Nat
  en : Nat → Int
def hallD (h : Hall) : List D := [i6 h.ro, i6 h.cl, rowI h.n h.st, rowI h.m h.en]
@[simp] theorem intL_i6 (x : Int) : intL [i6 x] = x := rfl
@[simp] theorem campL_D (c : Camp) : campL (campD c) = c := rfl
@[simp] theorem runL_D (r : Run) : runL (runD r) = r := rfl
/-! ### what an argument tells, and on what condition -/
def LessD (d d' : D) : Prop := ∀ (K : Cust) (M : World) (ρ : List Own) (v : Value), Rep K M ρ d v → Rep K M ρ d' v
theorem LessD.refl (d : D) : LessD d d := fun _ _ _ _ h => h
theorem less_cons {d d' : D} {ds ds' : List D} (h : LessD d d') (h2 : Less ds ds') : Less (d :: ds) (d' :: ds') := .cons h h2
theorem less_row {k n : Nat} {f g : Nat → List D} (h : ∀ i, i < n → f i = g i) : LessD (.row k n f) (.row k n g) := fun K M ρ v hv => by
  simp only [Rep] at *
  rcases hv with hv | ⟨b, o, c, h1, h3, h4⟩
  · exact .inl hv
  · exact .inr ⟨b, o, c, h1, h3, fun i hi => h i hi ▸ h4 i hi⟩
theorem less_agg {ds ds' : List D} (h : Less ds ds') : LessD (.agg ds) (.agg ds') := fun K M ρ v hv => by
  simp only [Rep] at *
  obtain ⟨vs, rfl, hr⟩ := hv
  exact ⟨vs, rfl, h K M ρ vs hr⟩
/-- a slice of ints: how many, which, on what condition -/
def intsO : D → Option (Prop × Nat × (Nat → Int))
  | .row 1 n f => some (∀ i, i < n → f i = [i6 (intL (f i))], n, fun i => intL (f i))
  | .val (.slice none 0 0) => some (True, 0, fun _ => 0)
  | _ => none
theorem intsO_less {d : D} {p : Prop} {n : Nat} {f : Nat → Int} (h : intsO d = some (p, n, f)) (hp : p) : LessD d (rowI n f) := by
  unfold intsO at h
  split at h
  · cases h; exact less_row hp
  · cases h
    intro K M ρ v hv
    simp only [Rep, rowI] at *
    exact .inl ⟨hv, trivial⟩
  · cases h
def campsO : D → Option (Prop × Nat × (Nat → Camp))
  | .row 7 n f => some (∀ i, i < n → f i = campD (campL (f i)), n, fun i => campL (f i))
  | .val (.slice none 0 0) => some (True, 0, fun _ => ⟨0, 0, 0, 0, 0, 0, 0⟩)
  | _ => none
theorem campsO_less {d : D} {p : Prop} {n : Nat} {f : Nat → Camp} (h : campsO d = some (p, n, f)) (hp : p) : LessD d (rowC n f) := by
  unfold campsO at h
  split at h
  · cases h; exact less_row hp
  · cases h
    intro K M ρ v hv
    simp only [Rep, rowC] at *
    exact .inl ⟨hv, trivial⟩
  · cases h
def runsO : D → Option (Prop × Nat × (Nat → Run))
  | .row 8 n f => some (∀ i, i < n → f i = runD (runL (f i)), n, fun i => runL (f i))
  | .val (.slice none 0 0) => some (True, 0, fun _ => ⟨⟨0, 0, 0, 0, 0, 0, 0⟩, 0⟩)
  | _ => none
theorem runsO_less {d : D} {p : Prop} {n : Nat} {f : Nat → Run} (h : runsO d = some (p, n, f)) (hp : p) : LessD d (rowR n f) := by
  unfold runsO at h
  split at h
  · cases h; exact less_row hp
  · cases h
    intro K M ρ v hv
    simp only [Rep, rowR] at *
    exact .inl ⟨hv, trivial⟩
  · cases h
def hallL : List D → Option (Prop × Hall)
  | [.val (.int .i64 a), .val (.int .i64 b), x, y] => match intsO x with
    | some (p, n, f) => match intsO y with
      | some (q, m, g) => some (p ∧ q, ⟨a, b, n, f, m, g⟩)
      | none => none
    | none => none
  | _ => none
theorem hallL_less {l : List D} {p : Prop} {h : Hall} (e : hallL l = some (p, h)) (hp : p) : Less l (hallD h) := by
  unfold hallL at e
  split at e
  · split at e
    · rename_i h1
      split at e
      · rename_i h2
        cases e
        exact Less.same (Less.same (less_cons (intsO_less h1 hp.1) (less_cons (intsO_less h2 hp.2) (Less.refl []))))
      · cases e
    · cases e
  · cases e
def hallO : D → Option (Prop × Hall)
  | .agg l => hallL l
  | _ => none
theorem hallO_less {d : D} {p : Prop} {h : Hall} (e : hallO d = some (p, h)) (hp : p) : LessD d (.agg (hallD h)) := by
  unfold hallO at e
  split at e
  · exact less_agg (hallL_less e hp)
  · cases e
def campO : D → Option Camp
  | .agg [.val (.int .i64 a), .val (.int .i64 b), .val (.int .i64 c), .val (.int .i64 d), .val (.int .i64 e), .val (.int .i64 f), .val (.int .i64 g)] => some ⟨a, b, c, d, e, f, g⟩
  | _ => none
theorem campO_eq {d : D} {c : Camp} (e : campO d = some c) : d = .agg (campD c) := by
  unfold campO at e
  split at e
  · cases e; rfl
  · cases e
def runO : D → Option Run
  | .agg [.val (.int .i64 a), .val (.int .i64 b), .val (.int .i64 c), .val (.int .i64 d), .val (.int .i64 e), .val (.int .i64 f), .val (.int .i64 g), .val (.int .i64 h)] => some ⟨⟨a, b, c, d, e, f, g⟩, h⟩
  | _ => none
theorem runO_eq {d : D} {c : Run} (e : runO d = some c) : d = .agg (runD c) := by
  unfold runO at e
  split at e
  · cases e; rfl
  · cases e
theorem rowI_free (n : Nat) (f : Nat → Int) : freeD (rowI n f) := by simp [rowI, freeD, freeL]
theorem rowC_free (n : Nat) (f : Nat → Camp) : freeD (rowC n f) := by simp [rowC, campD, freeD, freeL]
theorem rowR_free (n : Nat) (f : Nat → Run) : freeD (rowR n f) := by simp [rowR, runD, freeD, freeL]
theorem hallD_free (h : Hall) : freeL (hallD h) := by simp [hallD, freeL, freeD, rowI_free]
theorem campD_free (c : Camp) : freeL (campD c) := by simp [campD, freeL, freeD]
theorem runD_free (c : Run) : freeL (runD c) := by simp [runD, freeL, freeD]
/-! ### the first of a row -/
def findI (p : Nat → Bool) (n : Nat) : Int := match (List.range n).find? p with
  | some i => i
  | none => -1
def anyI (p : Nat → Bool) (n : Nat) : Bool := (List.range n).any p
theorem findI_at {p : Nat → Bool} {n i : Nat} (hi : i < n) (hp : p i = true) (hb : ∀ j, j < i → p j = false) : findI p n = i := by
  unfold findI
  have : (List.range n).find? p = some i := by
    rw [List.find?_range_eq_some]
    exact ⟨hp, List.mem_range.2 hi, fun j hj => by simp [hb j hj]⟩
  rw [this]
theorem findI_none {p : Nat → Bool} {n : Nat} (hb : ∀ j, j < n → p j = false) : findI p n = -1 := by
  unfold findI
  have : (List.range n).find? p = none := by
    rw [List.find?_eq_none]
    exact fun j hj => by simp [hb j (List.mem_range.1 hj)]
  rw [this]
theorem findI_cases (p : Nat → Bool) (n : Nat) : (∃ i, i < n ∧ p i = true ∧ (∀ j, j < i → p j = false) ∧ findI p n = i) ∨ ((∀ j, j < n → p j = false) ∧ findI p n = -1) := by
  cases h : (List.range n).find? p with
  | some i =>
    rw [List.find?_range_eq_some] at h
    obtain ⟨h1, h2, h3⟩ := h
    have hb : ∀ j, j < i → p j = false := fun j hj => by simpa using h3 j hj
    exact .inl ⟨i, List.mem_range.1 h2, h1, hb, findI_at (List.mem_range.1 h2) h1 hb⟩
  | none =>
    rw [List.find?_eq_none] at h
    have hb : ∀ j, j < n → p j = false := fun j hj => by simpa using h j (List.mem_range.2 hj)
    exact .inr ⟨hb, findI_none hb⟩
theorem anyI_iff {p : Nat → Bool} {n : Nat} : anyI p n = true ↔ ∃ i, i < n ∧ p i = true := by
  unfold anyI
  simp [List.any_eq_true, List.mem_range]
theorem anyI_false {p : Nat → Bool} {n : Nat} : anyI p n = false ↔ ∀ i, i < n → p i = false := by
  unfold anyI
  simp [List.any_eq_false, List.mem_range]
theorem findI_any {p : Nat → Bool} {n : Nat} : decide (findI p n ≥ 0) = anyI p n := by
  rcases findI_cases p n with ⟨i, h1, h2, h3, h4⟩ | ⟨h1, h2⟩
  · rw [h4, anyI_iff.2 ⟨i, h1, h2⟩]
    exact decide_eq_true (by omega)
  · rw [h2, anyI_false.2 h1]
    rfl
end Go.Ev

open Go Go.Ev Go.RowKit
namespace Go.Ev
set_option maxRecDepth 100000
set_option linter.all false
noncomputable abbrev PG : Program := Go.Proofs.Try.prog
theorem ent {f : FuncId} {fn : AFun} (hf : compF PG f = some fn) : ∀ args w, (callFunc f args).run PG w = .ok (.enter f args) w := (fun_ok (K := noCust) (cl := noC) hm0 noC_ok hf).1
abbrev bD (b : Bool) : D := .val (.bool b)
def boO : D → Option Bool
  | .val (.bool b) => some b
  | _ => none
def inO : D → Option Int
  | .val (.int .i64 x) => some x
  | _ => none
theorem boO_eq {d : D} {b : Bool} (h : boO d = some b) : d = bD b := by
  unfold boO at h
  split at h
  · cases h; rfl
  · cases h
theorem inO_eq {d : D} {b : Int} (h : inO d = some b) : d = i6 b := by
  unfold inO at h
  split at h
  · cases h; rfl
  · cases h
/-- one function more in a table -/
theorem tab_cons {K : Cust} {g : FuncId} {fn : AFun} {r : List D → Option (Option Prop × D)} {cl : FuncId → List D → List Blk → Nat → Option Out} (hf : compF PG g = some fn)
    (h : ∀ ds p d, r ds = some (p, d) → holdsO p → ∃ ds', Less ds ds' ∧ freeL ds' ∧ freeD d ∧ Alone PG g ds' d) (hcl : ClOK K PG cl) : ClOK K PG (orCl (aloC g r) cl) :=
  ClOK.or (aloC_ok (ent hf) h) hcl
theorem tab_see {K : Cust} {g : FuncId} {fn : AFun} {r : List D → Option (Option Prop × D)} {cl : FuncId → List D → List Blk → Nat → Option Out} (hf : compF PG g = some fn)
    (h : ∀ ds p d, r ds = some (p, d) → holdsO p → ∃ ds', Less ds ds' ∧ Alone PG g ds' d) (hcl : ClOK K PG cl) : ClOK K PG (orCl (seeC g r) cl) :=
  ClOK.or (seeC_ok (ent hf) h) hcl

theorem within_alone (a x b : Int) : Alone PG 49 [i6 a, i6 x, i6 b] (bD (decide (a ≤ x ∧ x ≤ b))) :=
  Alone.ofW (cl := noC) (raw := false) hm0 (fun K => noC_ok) cf_49 fun K w => by
    refine aw_reg0 (aw_opens (awr_testd 4 (10 : Nat) (True) trivial (a ≤ x) (fun h1 => awr_end0 (aw_ret (end_b (decide (x ≤ b)) ?_))) (fun h2 => awr_end0 (aw_ret (end_b (false) ?_)))))
    all_goals (simp_all; try omega)

def R49 : List D → Option (Option Prop × D)
  | [d0, d1, d2] => match inO d0, inO d1, inO d2 with
    | some a, some x, some b => some (none, bD (decide (a ≤ x ∧ x ≤ b)))
    | _, _, _ => none
  | _ => none
noncomputable def T49 := orCl (aloC 49 R49) noC
theorem T49_ok (K : Cust) : ClOK K PG T49 := tab_cons cf_49 (fun ds p d h hp => by
    unfold R49 at h
    split at h
    · split at h
      · rename_i e0 e1 e2
        obtain rfl := inO_eq e0
        obtain rfl := inO_eq e1
        obtain rfl := inO_eq e2
        cases h
        exact ⟨_, Less.refl _, by simp [freeL, freeD, campD_free, runD_free], by simp [freeD, freeL], within_alone _ _ _⟩
      · cases h
    · cases h) noC_ok
theorem arg_alone (b : Bool) : Alone PG 51 [bD b] (i6 (bif b then 0 else 2)) :=
  Alone.ofW (cl := T49) (raw := false) hm0 T49_ok cf_51 fun K w => by
    refine aw_reg0 (aw_assoc (aw_reg0 (aw_ifs (!b) (fun h1 => aw_assoc (aw_reg0 (aw_rets (end_i ((2 : Int)) ?_)))) (fun h2 => aw_skips (aw_reg0 (aw_ret (end_i ((0 : Int)) ?_)))))))
    all_goals (simp_all; try omega)

def R51 : List D → Option (Option Prop × D)
  | [d0] => match boO d0 with
    | some b => some (none, i6 (bif b then 0 else 2))
    | _ => none
  | _ => none
noncomputable def T51 := orCl (aloC 51 R51) T49
theorem T51_ok (K : Cust) : ClOK K PG T51 := tab_cons cf_51 (fun ds p d h hp => by
    unfold R51 at h
    split at h
    · split at h
      · rename_i e0
        obtain rfl := boO_eq e0
        cases h
        exact ⟨_, Less.refl _, by simp [freeL, freeD, campD_free, runD_free], by simp [freeD, freeL], arg_alone _⟩
      · cases h
    · cases h) (T49_ok K)
theorem end_alone (r : Run) (h0 : inRange .i64 (r.first + r.c.ho)) : Alone PG 99 [.agg (runD r)] (i6 (r.first + r.c.ho)) :=
  Alone.ofW (cl := T51) (raw := false) hm0 T51_ok cf_99 fun K w => by
    refine aw_reg0 (aw_reg (True ∧ inRange IntKind.i64 (r.first + r.c.ho)) (by exact ⟨trivial, by assumption⟩) (aw_ret (end_i (r.first + r.c.ho) ?_)))
    all_goals (simp_all; try omega)

def R99 : List D → Option (Option Prop × D)
  | [d0] => match runO d0 with
    | some r => some (some (inRange .i64 (r.first + r.c.ho)), i6 (r.first + r.c.ho))
    | _ => none
  | _ => none
noncomputable def T99 := orCl (aloC 99 R99) T51
theorem T99_ok (K : Cust) : ClOK K PG T99 := tab_cons cf_99 (fun ds p d h hp => by
    unfold R99 at h
    split at h
    · split at h
      · rename_i e0
        obtain rfl := runO_eq e0
        cases h
        exact ⟨_, Less.refl _, by simp [freeL, freeD, campD_free, runD_free], by simp [freeD, freeL], end_alone _ (hp _ rfl)⟩
      · cases h
    · cases h) (T51_ok K)
theorem begin_alone (r : Run) (h0 : inRange .i64 (r.first - r.c.pr)) : Alone PG 65 [.agg (runD r)] (i6 (r.first - r.c.pr)) :=
  Alone.ofW (cl := T99) (raw := false) hm0 T99_ok cf_65 fun K w => by
    refine aw_reg0 (aw_reg (True ∧ inRange IntKind.i64 (r.first - r.c.pr)) (by exact ⟨trivial, by assumption⟩) (aw_ret (end_i (r.first - r.c.pr) ?_)))
    all_goals (simp_all; try omega)

def R65 : List D → Option (Option Prop × D)
  | [d0] => match runO d0 with
    | some r => some (some (inRange .i64 (r.first - r.c.pr)), i6 (r.first - r.c.pr))
    | _ => none
  | _ => none
noncomputable def T65 := orCl (aloC 65 R65) T99
theorem T65_ok (K : Cust) : ClOK K PG T65 := tab_cons cf_65 (fun ds p d h hp => by
    unfold R65 at h
    split at h
    · split at h
      · rename_i e0
        obtain rfl := runO_eq e0
        cases h
        exact ⟨_, Less.refl _, by simp [freeL, freeD, campD_free, runD_free], by simp [freeD, freeL], begin_alone _ (hp _ rfl)⟩
      · cases h
    · cases h) (T99_ok K)
theorem cost_alone (r : Run) (h0 : inRange .i64 (r.first + r.c.ho)) (h1 : inRange .i64 (r.c.we * (r.first + r.c.ho))) : Alone PG 74 [.agg (runD r)] (i6 (r.c.we * (r.first + r.c.ho))) :=
  Alone.ofW (cl := T65) (raw := false) hm0 T65_ok cf_74 fun K w => by
    refine aw_reg0 (aw_reg ((True ∧ inRange IntKind.i64 (r.first + r.c.ho)) ∧ inRange IntKind.i64 (r.c.we * (r.first + r.c.ho))) (by ((try simp only [inRange_i64] at *); (repeat' apply And.intro) <;> first | exact True.intro | exact fun _ _ => rfl | omega | assumption | (intros; simp [freeL, freeD]))) (aw_ret (end_i (r.c.we * (r.first + r.c.ho)) ?_)))
    all_goals (simp_all; try omega)

def R74 : List D → Option (Option Prop × D)
  | [d0] => match runO d0 with
    | some r => some (some (inRange .i64 (r.first + r.c.ho) ∧ inRange .i64 (r.c.we * (r.first + r.c.ho))), i6 (r.c.we * (r.first + r.c.ho)))
    | _ => none
  | _ => none
noncomputable def T74 := orCl (aloC 74 R74) T65
theorem T74_ok (K : Cust) : ClOK K PG T74 := tab_cons cf_74 (fun ds p d h hp => by
    unfold R74 at h
    split at h
    · split at h
      · rename_i e0
        obtain rfl := runO_eq e0
        cases h
        exact ⟨_, Less.refl _, by simp [freeL, freeD, campD_free, runD_free], by simp [freeD, freeL], cost_alone _ (hp _ rfl).1 (hp _ rfl).2⟩
      · cases h
    · cases h) (T65_ok K)
def lateB (r : Run) : Bool := decide (r.first < r.c.ea + r.c.pr ∨ r.first > r.c.la - r.c.ho)
theorem late_alone (r : Run) (h1 : inRange .i64 (r.c.ea + r.c.pr)) (h2 : inRange .i64 (r.c.la - r.c.ho)) : Alone PG 105 [.agg (runD r)] (bD (lateB r)) :=
  Alone.ofW (cl := T74) (raw := false) hm0 T74_ok cf_105 fun K w => by
    refine aw_reg0 (aw_opens (awr_testd 11 (13 : Nat) (True ∧ inRange IntKind.i64 (r.c.ea + r.c.pr)) (by exact ⟨trivial, by assumption⟩) (r.first < r.c.ea + r.c.pr) (fun h3 => awr_end0 (aw_ret (end_b (true) ?_))) (fun h4 => awr_end (True ∧ inRange IntKind.i64 (r.c.la - r.c.ho)) (by exact ⟨trivial, by assumption⟩) (aw_ret (end_b (decide (r.first > r.c.la - r.c.ho)) ?_)))))
    all_goals (simp_all [lateB]; try omega)

def R105 : List D → Option (Option Prop × D)
  | [d0] => match runO d0 with
    | some r => some (some (inRange .i64 (r.c.ea + r.c.pr) ∧ inRange .i64 (r.c.la - r.c.ho)), bD (lateB r))
    | _ => none
  | _ => none
noncomputable def T105 := orCl (aloC 105 R105) T74
theorem T105_ok (K : Cust) : ClOK K PG T105 := tab_cons cf_105 (fun ds p d h hp => by
    unfold R105 at h
    split at h
    · split at h
      · rename_i e0
        obtain rfl := runO_eq e0
        cases h
        exact ⟨_, Less.refl _, by simp [freeL, freeD, campD_free, runD_free], by simp [freeD, freeL], late_alone _ (hp _ rfl).1 (hp _ rfl).2⟩
      · cases h
    · cases h) (T74_ok K)
theorem wrongS_alone (x : Int) : Alone PG 48 [i6 x] (bD (!decide (0 ≤ x ∧ x ≤ 1000))) :=
  Alone.ofW (cl := T105) (raw := false) hm0 T105_ok cf_48 fun K w => by
    refine aw_reg0 (aw_reg0 (aw_ret (end_b (!decide ((0 : Int) ≤ x ∧ x ≤ (1000 : Int))) ?_)))
    all_goals (simp_all; try omega)

def R48 : List D → Option (Option Prop × D)
  | [d0] => match inO d0 with
    | some x => some (none, bD (!decide (0 ≤ x ∧ x ≤ 1000)))
    | _ => none
  | _ => none
noncomputable def T48 := orCl (aloC 48 R48) T105
theorem T48_ok (K : Cust) : ClOK K PG T48 := tab_cons cf_48 (fun ds p d h hp => by
    unfold R48 at h
    split at h
    · split at h
      · rename_i e0
        obtain rfl := inO_eq e0
        cases h
        exact ⟨_, Less.refl _, by simp [freeL, freeD, campD_free, runD_free], by simp [freeD, freeL], wrongS_alone _⟩
      · cases h
    · cases h) (T105_ok K)
theorem wrongE_alone (x : Int) : Alone PG 50 [i6 x] (bD (!decide (0 ≤ x ∧ x ≤ 1000))) :=
  Alone.ofW (cl := T48) (raw := false) hm0 T48_ok cf_50 fun K w => by
    refine aw_reg0 (aw_reg0 (aw_ret (end_b (!decide ((0 : Int) ≤ x ∧ x ≤ (1000 : Int))) ?_)))
    all_goals (simp_all; try omega)

def R50 : List D → Option (Option Prop × D)
  | [d0] => match inO d0 with
    | some x => some (none, bD (!decide (0 ≤ x ∧ x ≤ 1000)))
    | _ => none
  | _ => none
noncomputable def T50 := orCl (aloC 50 R50) T48
theorem T50_ok (K : Cust) : ClOK K PG T50 := tab_cons cf_50 (fun ds p d h hp => by
    unfold R50 at h
    split at h
    · split at h
      · rename_i e0
        obtain rfl := inO_eq e0
        cases h
        exact ⟨_, Less.refl _, by simp [freeL, freeD, campD_free, runD_free], by simp [freeD, freeL], wrongE_alone _⟩
      · cases h
    · cases h) (T48_ok K)
end Go.Ev

open Go Go.Ev Go.RowKit
namespace Go.Ev
set_option maxRecDepth 100000
set_option linter.all false

def campB (n : Nat) (c : Camp) : Bool := decide (0 ≤ c.cu ∧ c.cu ≤ 20 ∧ 0 ≤ c.pr ∧ c.pr ≤ 24 ∧ 1 ≤ c.ho ∧ c.ho ≤ 24 ∧ 0 ≤ c.en ∧ c.en ≤ 1000 ∧ 0 ≤ c.we ∧ c.we ≤ 100 ∧ 0 ≤ c.ea ∧ c.ea ≤ c.la ∧ c.la ≤ n)
def badB (x : Int) : Bool := !decide (0 ≤ x ∧ x ≤ 1000)
def hallB (h : Hall) : Bool := decide (1 ≤ (h.n : Int) ∧ (h.n : Int) ≤ 96 ∧ (h.m : Int) = h.n) && (!anyI (fun i => badB (h.st i)) h.n && (!anyI (fun i => badB (h.en i)) h.m && decide (1 ≤ h.ro ∧ h.ro ≤ 4 ∧ 0 ≤ h.cl ∧ h.cl ≤ 6)))
def campsB (h : Hall) (n : Nat) (c : Nat → Camp) : Bool := hallB h && (decide (n ≤ 16) && !anyI (fun i => !campB h.n (c i)) n)

theorem isCamp_alone (h : Hall) (c : Camp) : Alone PG 54 [.agg (hallD h), .agg (campD c)] (bD (campB h.n c)) :=
  Alone.ofW (cl := T50) (raw := false) hm0 T50_ok cf_54 fun K w => by
    refine aw_reg0 (aw_opens (awr_testd 4 (8 : Nat) (True) trivial ((0 : Int) ≤ c.cu ∧ c.cu ≤ (20 : Int)) (fun h1 => awr_testd 5 (13 : Nat) (True) trivial ((0 : Int) ≤ c.pr ∧ c.pr ≤ (24 : Int)) (fun h2 => awr_testd 5 (18 : Nat) (True) trivial ((1 : Int) ≤ c.ho ∧ c.ho ≤ (24 : Int)) (fun h3 => awr_testd 5 (23 : Nat) (True) trivial ((0 : Int) ≤ c.en ∧ c.en ≤ (1000 : Int)) (fun h4 => awr_testd 5 (28 : Nat) (True) trivial ((0 : Int) ≤ c.we ∧ c.we ≤ (100 : Int)) (fun h5 => awr_testd 7 (35 : Nat) (True) trivial ((0 : Int) ≤ c.ea ∧ c.ea ≤ c.la) (fun h6 => awr_end0 (aw_ret (end_b (decide (c.la ≤ (↑h.n : Int))) ?_))) (fun h7 => awr_end0 (aw_ret (end_b (false) ?_)))) (fun h8 => awr_end0 (aw_ret (end_b (false) ?_)))) (fun h9 => awr_end0 (aw_ret (end_b (false) ?_)))) (fun h10 => awr_end0 (aw_ret (end_b (false) ?_)))) (fun h11 => awr_end0 (aw_ret (end_b (false) ?_)))) (fun h12 => awr_end0 (aw_ret (end_b (false) ?_)))))
    all_goals (simp_all [campB]; try omega)

def R54 : List D → Option (Option Prop × D)
  | [d0, d1] => match hallO d0, campO d1 with
    | some (p, h), some c => some (some p, bD (campB h.n c))
    | _, _ => none
  | _ => none
noncomputable def T54 := orCl (aloC 54 R54) T50
theorem T54_ok (K : Cust) : ClOK K PG T54 := tab_cons cf_54 (fun ds p d h hp => by
    unfold R54 at h
    split at h
    · split at h
      · rename_i e0 e1
        obtain rfl := campO_eq e1
        cases h
        exact ⟨_, less_cons (hallO_less e0 (hp _ rfl)) (Less.refl _), by simp [freeL, freeD, campD_free, hallD_free], by simp [freeD], isCamp_alone _ _⟩
      · cases h
    · cases h) (T50_ok K)
theorem ix48 (n : Nat) (x : Nat → Int) (hn : n ≤ 1000000) : Alone PG 66 [rowI n x, .fn 48 [] []] (i6 (findI (fun i => badB (x i)) n)) :=
  Alone.ofW (cl := T54) (raw := false) hm0 T54_ok cf_66 fun K w => by
    refine aw_reg0 (aw_assoc (aw_reg0 (?_)))
    refine aw_loopV (ι := {i : Nat // i ≤ n ∧ ∀ j, j < i → (badB (x j)) = false}) hm0 (T54_ok K) (fun z => [(8, i6 z.1)]) (fun _ => []) (fun z => n - z.1) ⟨0, Nat.zero_le n, fun j hj => by omega⟩ (fun z => ?_)
    obtain ⟨i, hin, hall⟩ := z
    
    refine aw_reg0 (aw_ifsd ((↑i : Int) < (↑n : Int)) (fun h1 => aw_skips (aw_blocks (aw_reg0 (aw_reg (True ∧ (0 : Int) ≤ (↑i : Int) ∧ (↑i : Int) < (↑n : Int)) (by (simp only [inRange_i64, true_and]; omega)) (aw_ifn ((0 : Int) ≤ x i ∧ x i ≤ (1000 : Int)) (fun h2 => aw_reg0 (aw_ret (blk_ret (seq_ret (round_ret (blk_ret (seq_ret (end_i ((↑i : Int)) ?_)))))))) (fun h3 => aw_skip (blk_normal (seq_normal (aw_end (True ∧ inRange IntKind.i64 ((↑i : Int) + (1 : Int))) (by (simp only [inRange_i64, true_and]; omega)) (round_t 1 ((∀ (i : Nat), i < n → True ∧ True) ∧ (True ∧ True) ∧ (∀ (i : Nat), i < n → True ∧ True) ∧ True) (True) (by (simp)) (by trivial) ?_)))))))))) (fun h4 => aw_exits (round_exit (blk_exit (seq_normal (aw_reg0 (aw_ret (end_i ((-1 : Int)) ?_))))))))
    · exact (findI_at (p := fun i => badB (x i)) (by omega) (by simp_all [badB]; try omega) hall).symm
    · exact round_v ⟨i + 1, by omega, fun j hj => by
        rcases Nat.lt_or_ge j i with h | h
        · exact hall j h
        · have : j = i := by omega
          subst this; simp_all [badB]; try omega⟩ (by show n - (i + 1) < n - i; omega)
    · have hin' : i = n := by omega
      subst hin'
      exact (findI_none hall).symm

theorem ix50 (n : Nat) (x : Nat → Int) (hn : n ≤ 1000000) : Alone PG 66 [rowI n x, .fn 50 [] []] (i6 (findI (fun i => badB (x i)) n)) :=
  Alone.ofW (cl := T54) (raw := false) hm0 T54_ok cf_66 fun K w => by
    refine aw_reg0 (aw_assoc (aw_reg0 (?_)))
    refine aw_loopV (ι := {i : Nat // i ≤ n ∧ ∀ j, j < i → (badB (x j)) = false}) hm0 (T54_ok K) (fun z => [(8, i6 z.1)]) (fun _ => []) (fun z => n - z.1) ⟨0, Nat.zero_le n, fun j hj => by omega⟩ (fun z => ?_)
    obtain ⟨i, hin, hall⟩ := z
    
    refine aw_reg0 (aw_ifsd ((↑i : Int) < (↑n : Int)) (fun h1 => aw_skips (aw_blocks (aw_reg0 (aw_reg (True ∧ (0 : Int) ≤ (↑i : Int) ∧ (↑i : Int) < (↑n : Int)) (by (simp only [inRange_i64, true_and]; omega)) (aw_ifn ((0 : Int) ≤ x i ∧ x i ≤ (1000 : Int)) (fun h2 => aw_reg0 (aw_ret (blk_ret (seq_ret (round_ret (blk_ret (seq_ret (end_i ((↑i : Int)) ?_)))))))) (fun h3 => aw_skip (blk_normal (seq_normal (aw_end (True ∧ inRange IntKind.i64 ((↑i : Int) + (1 : Int))) (by (simp only [inRange_i64, true_and]; omega)) (round_t 1 ((∀ (i : Nat), i < n → True ∧ True) ∧ (True ∧ True) ∧ (∀ (i : Nat), i < n → True ∧ True) ∧ True) (True) (by (simp)) (by trivial) ?_)))))))))) (fun h4 => aw_exits (round_exit (blk_exit (seq_normal (aw_reg0 (aw_ret (end_i ((-1 : Int)) ?_))))))))
    · exact (findI_at (p := fun i => badB (x i)) (by omega) (by simp_all [badB]; try omega) hall).symm
    · exact round_v ⟨i + 1, by omega, fun j hj => by
        rcases Nat.lt_or_ge j i with h | h
        · exact hall j h
        · have : j = i := by omega
          subst this; simp_all [badB]; try omega⟩ (by show n - (i + 1) < n - i; omega)
    · have hin' : i = n := by omega
      subst hin'
      exact (findI_none hall).symm

def R66_48 : List D → Option (Option Prop × D)
  | [d0, .fn 48 [] []] => match intsO d0 with
    | some (p, n, x) => some (some (p ∧ n ≤ 1000000), i6 (findI (fun i => badB (x i)) n))
    | _ => none
  | _ => none
noncomputable def T66_48 := orCl (aloC 66 R66_48) T54
theorem T66_48_ok (K : Cust) : ClOK K PG T66_48 := tab_cons cf_66 (fun ds p d h hp => by
    unfold R66_48 at h
    split at h
    · split at h
      · rename_i e0
        cases h
        obtain ⟨h1, h2⟩ := hp _ rfl
        exact ⟨_, less_cons (intsO_less e0 h1) (Less.refl _), by simp [freeL, freeD, rowI_free], by simp [freeD], ix48 _ _ h2⟩
      · cases h
    · cases h) (T54_ok K)
def R66_50 : List D → Option (Option Prop × D)
  | [d0, .fn 50 [] []] => match intsO d0 with
    | some (p, n, x) => some (some (p ∧ n ≤ 1000000), i6 (findI (fun i => badB (x i)) n))
    | _ => none
  | _ => none
noncomputable def T66_50 := orCl (aloC 66 R66_50) T66_48
theorem T66_50_ok (K : Cust) : ClOK K PG T66_50 := tab_cons cf_66 (fun ds p d h hp => by
    unfold R66_50 at h
    split at h
    · split at h
      · rename_i e0
        cases h
        obtain ⟨h1, h2⟩ := hp _ rfl
        exact ⟨_, less_cons (intsO_less e0 h1) (Less.refl _), by simp [freeL, freeD, rowI_free], by simp [freeD], ix50 _ _ h2⟩
      · cases h
    · cases h) (T66_48_ok K)
theorem any48 (n : Nat) (x : Nat → Int) (hn : n ≤ 1000000) : Alone PG 52 [rowI n x, .fn 48 [] []] (bD (anyI (fun i => badB (x i)) n)) :=
  Alone.ofW (cl := T66_50) (raw := false) hm0 T66_50_ok cf_52 fun K w => by
    refine aw_reg0 (aw_reg (True ∧ (∀ (i : Nat), i < n → [i6 (x i)] = [i6 (x i)]) ∧ n ≤ (1000000 : Nat)) (by ((try simp only [inRange_i64] at *); (repeat' apply And.intro) <;> first | exact True.intro | exact fun _ _ => rfl | omega | assumption | (intros; simp [freeL, freeD]))) (aw_ret (end_b (decide (findI (fun (i : Nat) => badB (x i)) n ≥ (0 : Int))) ?_)))
    exact findI_any

theorem any50 (n : Nat) (x : Nat → Int) (hn : n ≤ 1000000) : Alone PG 52 [rowI n x, .fn 50 [] []] (bD (anyI (fun i => badB (x i)) n)) :=
  Alone.ofW (cl := T66_50) (raw := false) hm0 T66_50_ok cf_52 fun K w => by
    refine aw_reg0 (aw_reg (True ∧ (∀ (i : Nat), i < n → [i6 (x i)] = [i6 (x i)]) ∧ n ≤ (1000000 : Nat)) (by ((try simp only [inRange_i64] at *); (repeat' apply And.intro) <;> first | exact True.intro | exact fun _ _ => rfl | omega | assumption | (intros; simp [freeL, freeD]))) (aw_ret (end_b (decide (findI (fun (i : Nat) => badB (x i)) n ≥ (0 : Int))) ?_)))
    exact findI_any

def R52_48 : List D → Option (Option Prop × D)
  | [d0, .fn 48 [] []] => match intsO d0 with
    | some (p, n, x) => some (some (p ∧ n ≤ 1000000), bD (anyI (fun i => badB (x i)) n))
    | _ => none
  | _ => none
noncomputable def T52_48 := orCl (aloC 52 R52_48) T66_50
theorem T52_48_ok (K : Cust) : ClOK K PG T52_48 := tab_cons cf_52 (fun ds p d h hp => by
    unfold R52_48 at h
    split at h
    · split at h
      · rename_i e0
        cases h
        obtain ⟨h1, h2⟩ := hp _ rfl
        exact ⟨_, less_cons (intsO_less e0 h1) (Less.refl _), by simp [freeL, freeD, rowI_free], by simp [freeD], any48 _ _ h2⟩
      · cases h
    · cases h) (T66_50_ok K)
def R52_50 : List D → Option (Option Prop × D)
  | [d0, .fn 50 [] []] => match intsO d0 with
    | some (p, n, x) => some (some (p ∧ n ≤ 1000000), bD (anyI (fun i => badB (x i)) n))
    | _ => none
  | _ => none
noncomputable def T52_50 := orCl (aloC 52 R52_50) T52_48
theorem T52_50_ok (K : Cust) : ClOK K PG T52_50 := tab_cons cf_52 (fun ds p d h hp => by
    unfold R52_50 at h
    split at h
    · split at h
      · rename_i e0
        cases h
        obtain ⟨h1, h2⟩ := hp _ rfl
        exact ⟨_, less_cons (intsO_less e0 h1) (Less.refl _), by simp [freeL, freeD, rowI_free], by simp [freeD], any50 _ _ h2⟩
      · cases h
    · cases h) (T52_48_ok K)
theorem checkHall_alone (h : Hall) (h0 : h.n ≤ 1000000 ∧ h.m ≤ 1000000) : Alone PG 17 [.agg (hallD h)] (i6 (bif hallB h then 0 else 2)) :=
  Alone.ofW (cl := T52_50) (raw := false) hm0 T52_50_ok cf_17 fun K w => by
    refine aw_reg0 (aw_reg0 (aw_reg0 (aw_opens (awr_testd 5 (9 : Nat) (True) trivial ((1 : Int) ≤ (↑h.n : Int) ∧ (↑h.n : Int) ≤ (96 : Int)) (fun h1 => awr_teste 9 (18 : Nat) (True) trivial ((↑h.m : Int)) ((↑h.n : Int)) (fun h2 => awr_testq 7 (25 : Nat) (True ∧ (∀ (i : Nat), i < h.n → [i6 (h.st i)] = [i6 (h.st i)]) ∧ h.n ≤ (1000000 : Nat)) (by ((try simp only [inRange_i64] at *); (repeat' apply And.intro) <;> first | exact True.intro | exact fun _ _ => rfl | omega | assumption | (intros; simp [freeL, freeD]))) (!anyI (fun (i : Nat) => badB (h.st i)) h.n) (fun h3 => awr_testq 7 (32 : Nat) (True ∧ (∀ (i : Nat), i < h.m → [i6 (h.en i)] = [i6 (h.en i)]) ∧ h.m ≤ (1000000 : Nat)) (by ((try simp only [inRange_i64] at *); (repeat' apply And.intro) <;> first | exact True.intro | exact fun _ _ => rfl | omega | assumption | (intros; simp [freeL, freeD]))) (!anyI (fun (i : Nat) => badB (h.en i)) h.m) (fun h4 => awr_testd 5 (37 : Nat) (True) trivial ((1 : Int) ≤ h.ro ∧ h.ro ≤ (4 : Int)) (fun h5 => awr_end0 (aw_ret (end_i (bif decide ((0 : Int) ≤ h.cl ∧ h.cl ≤ (6 : Int)) then (0 : Int) else (2 : Int)) ?_))) (fun h6 => awr_end0 (aw_ret (end_i ((2 : Int)) ?_)))) (fun h7 => awr_end0 (aw_ret (end_i ((2 : Int)) ?_)))) (fun h8 => awr_end0 (aw_ret (end_i ((2 : Int)) ?_)))) (fun h9 => awr_end0 (aw_ret (end_i ((2 : Int)) ?_)))) (fun h10 => awr_end0 (aw_ret (end_i ((2 : Int)) ?_)))))))
    all_goals ((try simp only [intL_i6] at *); grind [hallB])

def R17 : List D → Option (Option Prop × D)
  | [d0] => match hallO d0 with
    | some (p, h) => some (some (p ∧ h.n ≤ 1000000 ∧ h.m ≤ 1000000), i6 (bif hallB h then 0 else 2))
    | _ => none
  | _ => none
noncomputable def T17 := orCl (aloC 17 R17) T52_50
theorem T17_ok (K : Cust) : ClOK K PG T17 := tab_cons cf_17 (fun ds p d h hp => by
    unfold R17 at h
    split at h
    · split at h
      · rename_i e0
        cases h
        obtain ⟨h1, h2⟩ := hp _ rfl
        exact ⟨_, less_cons (hallO_less e0 h1) (Less.refl _), by simp [freeL, freeD, hallD_free], by simp [freeD], checkHall_alone _ h2⟩
      · cases h
    · cases h) (T52_50_ok K)
theorem wrongC_alone (h : Hall) (c : Camp) : Alone PG 53 [.agg (campD c), .ref (hallD h) 0] (bD (!campB h.n c)) :=
  Alone.ofW (cl := T17) (raw := false) hm0 T17_ok cf_53 fun K w => by
    refine aw_reg0 (aw_reg (True ∧ (∀ (i : Nat), i < h.n → [i6 (h.st i)] = [i6 (h.st i)]) ∧ ∀ (i : Nat), i < h.m → [i6 (h.en i)] = [i6 (h.en i)]) (by ((try simp only [inRange_i64] at *); (repeat' apply And.intro) <;> first | exact True.intro | exact fun _ _ => rfl | omega | assumption | (intros; simp [freeL, freeD]))) (aw_ret (end_b (!campB h.n c) ?_)))
    all_goals (simp_all; try omega)

def hallR : D → Option (Prop × Hall)
  | .ref l 0 => hallL l
  | _ => none
theorem lessC {ds ds' : List D} (h : Less ds ds') : LessD (.ref ds 0) (.ref ds' 0) := fun K M ρ v hv => by
  simp only [Rep] at *
  obtain ⟨b, o, h1, h2⟩ := hv
  refine ⟨b, o, h1, ?_⟩
  have key : ∀ {ds : List D} {o : Nat}, RepC K M ρ ds b o → ∃ vs, RepL K M ρ ds vs ∧ ∀ (i : Nat) (x : Value), vs[i]? = some x → M.cell? ⟨b, o + i, none⟩ = some x := by
    intro ds
    induction ds with
    | nil => intro o _; exact ⟨[], by simp [RepL], fun i x hi => by simp at hi⟩
    | cons d ds ih =>
      intro o hc
      simp only [RepC] at hc
      obtain ⟨⟨x, g1, g2⟩, g3⟩ := hc
      obtain ⟨vs, k1, k2⟩ := ih g3
      refine ⟨x :: vs, by simp only [RepL]; exact ⟨x, vs, rfl, g2, k1⟩, fun i y hi => ?_⟩
      cases i with
      | zero => simp at hi; subst hi; exact g1
      | succ i => rw [show o + (i + 1) = o + 1 + i by omega]; exact k2 i y (by simpa using hi)
  have back : ∀ {ds : List D} {vs : List Value} {o : Nat}, RepL K M ρ ds vs → (∀ (i : Nat) (x : Value), vs[i]? = some x → M.cell? ⟨b, o + i, none⟩ = some x) → RepC K M ρ ds b o := by
    intro ds
    induction ds with
    | nil => intro vs o _ _; simp [RepC]
    | cons d ds ih =>
      intro vs o hl hc
      simp only [RepL] at hl
      obtain ⟨x, r, rfl, g1, g2⟩ := hl
      simp only [RepC]
      refine ⟨⟨x, by simpa using hc 0 x (by simp), g1⟩, ih g2 fun i y hi => ?_⟩
      rw [show o + 1 + i = o + (i + 1) by omega]
      exact hc (i + 1) y (by simpa using hi)
  obtain ⟨vs, k1, k2⟩ := key h2
  exact back (h K M ρ vs k1) k2
theorem hallR_less {d : D} {p : Prop} {h : Hall} (e : hallR d = some (p, h)) (hp : p) : LessD d (.ref (hallD h) 0) := by
  unfold hallR at e
  split at e
  · exact lessC (hallL_less e hp)
  · cases e
theorem less_fn {f : FuncId} {a a' b b' : List D} (h1 : Less a a') (h2 : Less b b') : LessD (.fn f a b) (.fn f a' b') := fun K M ρ v hv => by
  simp only [Rep] at *
  obtain ⟨x, y, rfl, g1, g2⟩ := hv
  exact ⟨x, y, rfl, h1 K M ρ x g1, h2 K M ρ y g2⟩

def R53 : List D → Option (Option Prop × D)
  | [d0, d1] => match campO d0, hallR d1 with
    | some c, some (p, h) => some (some p, bD (!campB h.n c))
    | _, _ => none
  | _ => none
noncomputable def T53 := orCl (aloC 53 R53) T17
theorem T53_ok (K : Cust) : ClOK K PG T53 := tab_cons cf_53 (fun ds p d h hp => by
    unfold R53 at h
    split at h
    · split at h
      · rename_i e0 e1
        obtain rfl := campO_eq e0
        cases h
        exact ⟨_, less_cons (LessD.refl _) (less_cons (hallR_less e1 (hp _ rfl)) (Less.refl _)), by simp [freeL, freeD, campD_free, hallD_free], by simp [freeD], wrongC_alone _ _⟩
      · cases h
    · cases h) (T17_ok K)
theorem ix53 (h : Hall) (n : Nat) (x : Nat → Camp) (hn : n ≤ 1000000) : Alone PG 79 [rowC n x, .fn 53 [] [.ref (hallD h) 0]] (i6 (findI (fun i => !campB h.n (x i)) n)) :=
  Alone.ofW (cl := T53) (raw := false) hm0 T53_ok cf_79 fun K w => by
    refine aw_reg0 (aw_assoc (aw_reg0 (?_)))
    refine aw_loopV (ι := {i : Nat // i ≤ n ∧ ∀ j, j < i → (!campB h.n (x j)) = false}) hm0 (T53_ok K) (fun z => [(8, i6 z.1)]) (fun _ => []) (fun z => n - z.1) ⟨0, Nat.zero_le n, fun j hj => by omega⟩ (fun z => ?_)
    obtain ⟨i, hin, hall⟩ := z
    
    refine aw_reg0 (aw_ifsd ((↑i : Int) < (↑n : Int)) (fun h1 => aw_skips (aw_blocks (aw_reg0 (aw_reg ((True ∧ (0 : Int) ≤ (↑i : Int) ∧ (↑i : Int) < (↑n : Int)) ∧ (∀ (i : Nat), i < h.n → [i6 (h.st i)] = [i6 (h.st i)]) ∧ ∀ (i : Nat), i < h.m → [i6 (h.en i)] = [i6 (h.en i)]) (by ((try simp only [inRange_i64] at *); (repeat' apply And.intro) <;> first | exact True.intro | exact fun _ _ => rfl | omega | assumption | (intros; simp [freeL, freeD]))) (aw_if (!campB h.n (x i)) (fun h2 => aw_reg0 (aw_ret (blk_ret (seq_ret (round_ret (blk_ret (seq_ret (end_i ((↑i : Int)) ?_)))))))) (fun h3 => aw_skip (blk_normal (seq_normal (aw_end (True ∧ inRange IntKind.i64 ((↑i : Int) + (1 : Int))) (by (simp only [inRange_i64, true_and]; omega)) (round_t 1 ((∀ (i : Nat), i < n → True ∧ True ∧ True ∧ True ∧ True ∧ True ∧ True ∧ True) ∧ (True ∧ (True ∧ True ∧ (∀ (i : Nat), i < h.n → True ∧ True) ∧ (∀ (i : Nat), i < h.m → True ∧ True) ∧ True) ∧ True) ∧ (∀ (i : Nat), i < n → True ∧ True ∧ True ∧ True ∧ True ∧ True ∧ True ∧ True) ∧ True) (True) (by (simp)) (by trivial) ?_)))))))))) (fun h4 => aw_exits (round_exit (blk_exit (seq_normal (aw_reg0 (aw_ret (end_i ((-1 : Int)) ?_))))))))
    · exact (findI_at (p := fun i => !campB h.n (x i)) (by omega) (by simp_all [campL_D]; try omega) hall).symm
    · exact round_v ⟨i + 1, by omega, fun j hj => by
        rcases Nat.lt_or_ge j i with h | h
        · exact hall j h
        · have : j = i := by omega
          subst this; simp_all [campL_D]; try omega⟩ (by show n - (i + 1) < n - i; omega)
    · have hin' : i = n := by omega
      subst hin'
      exact (findI_none hall).symm

def R79 : List D → Option (Option Prop × D)
  | [d0, .fn 53 [] [d1]] => match campsO d0, hallR d1 with
    | some (p, n, x), some (q, h) => some (some (p ∧ q ∧ n ≤ 1000000), i6 (findI (fun i => !campB h.n (x i)) n))
    | _, _ => none
  | _ => none
noncomputable def T79 := orCl (aloC 79 R79) T53
theorem T79_ok (K : Cust) : ClOK K PG T79 := tab_cons cf_79 (fun ds p d h hp => by
    unfold R79 at h
    split at h
    · split at h
      · rename_i e0 e1
        cases h
        obtain ⟨h1, h2, h3⟩ := hp _ rfl
        exact ⟨_, less_cons (campsO_less e0 h1) (less_cons (less_fn (Less.refl _) (less_cons (hallR_less e1 h2) (Less.refl _))) (Less.refl _)), by simp [freeL, freeD, rowC_free, hallD_free], by simp [freeD], ix53 _ _ _ h3⟩
      · cases h
    · cases h) (T53_ok K)
theorem any53 (h : Hall) (n : Nat) (x : Nat → Camp) (hn : n ≤ 1000000) : Alone PG 55 [rowC n x, .fn 53 [] [.ref (hallD h) 0]] (bD (anyI (fun i => !campB h.n (x i)) n)) :=
  Alone.ofW (cl := T79) (raw := false) hm0 T79_ok cf_55 fun K w => by
    refine aw_reg0 (aw_reg (True ∧ (∀ (i : Nat), i < n → campD (x i) = campD (x i)) ∧ ((∀ (i : Nat), i < h.n → [i6 (h.st i)] = [i6 (h.st i)]) ∧ ∀ (i : Nat), i < h.m → [i6 (h.en i)] = [i6 (h.en i)]) ∧ n ≤ (1000000 : Nat)) (by ((try simp only [inRange_i64] at *); (repeat' apply And.intro) <;> first | exact True.intro | exact fun _ _ => rfl | omega | assumption | (intros; simp [freeL, freeD]))) (aw_ret (end_b (decide (findI (fun (i : Nat) => !campB h.n (x i)) n ≥ (0 : Int))) ?_)))
    exact findI_any

def R55 : List D → Option (Option Prop × D)
  | [d0, .fn 53 [] [d1]] => match campsO d0, hallR d1 with
    | some (p, n, x), some (q, h) => some (some (p ∧ q ∧ n ≤ 1000000), bD (anyI (fun i => !campB h.n (x i)) n))
    | _, _ => none
  | _ => none
noncomputable def T55 := orCl (seeC 55 R55) T79
theorem T55_ok (K : Cust) : ClOK K PG T55 := tab_see cf_55 (fun ds p d h hp => by
    unfold R55 at h
    split at h
    · split at h
      · rename_i e0 e1
        cases h
        obtain ⟨h1, h2, h3⟩ := hp _ rfl
        exact ⟨_, less_cons (campsO_less e0 h1) (less_cons (less_fn (Less.refl _) (less_cons (hallR_less e1 h2) (Less.refl _))) (Less.refl _)), any53 _ _ _ h3⟩
      · cases h
    · cases h) (T79_ok K)
theorem checkCamps_alone (h : Hall) (n : Nat) (c : Nat → Camp) (h0 : h.n ≤ 1000000 ∧ h.m ≤ 1000000 ∧ n ≤ 1000000) : Alone PG 18 [.agg (hallD h), rowC n c] (i6 (bif campsB h n c then 0 else 2)) :=
  Alone.ofW (cl := T55) (raw := false) hm0 T55_ok cf_18 fun K w => by
    refine aw_reg0 (aw_assoc (aw_reg (True ∧ ((∀ (i : Nat), i < h.n → [i6 (h.st i)] = [i6 (h.st i)]) ∧ ∀ (i : Nat), i < h.m → [i6 (h.en i)] = [i6 (h.en i)]) ∧ h.n ≤ (1000000 : Nat) ∧ h.m ≤ (1000000 : Nat)) (by ((try simp only [inRange_i64] at *); (repeat' apply And.intro) <;> first | exact True.intro | exact fun _ _ => rfl | omega | assumption | (intros; simp [freeL, freeD]))) (aw_assoc (aw_reg0 (aw_ifsne (bif hallB h then (0 : Int) else (2 : Int)) ((0 : Int)) (fun h1 => aw_assoc (aw_reg0 (aw_rets (end_i (bif hallB h then (0 : Int) else (2 : Int)) ?_)))) (fun h2 => aw_skips (aw_reg0 (aw_opens (awr_testd 4 (16 : Nat) (True) trivial ((↑n : Int) ≤ (16 : Int)) (fun h3 => awr_end (True ∧ ((∀ (i : Nat), i < n → True ∧ True ∧ True ∧ True ∧ True ∧ True ∧ True ∧ True) ∧ (∀ (i : Nat), i < h.n → True ∧ True) ∧ ∀ (i : Nat), i < h.m → True ∧ True) ∧ (∀ (i : Nat), i < n → campD (c i) = campD (c i)) ∧ ((∀ (i : Nat), i < h.n → [i6 (h.st i)] = [i6 (h.st i)]) ∧ ∀ (i : Nat), i < h.m → [i6 (h.en i)] = [i6 (h.en i)]) ∧ n ≤ (1000000 : Nat)) (by ((try simp only [inRange_i64] at *); (repeat' apply And.intro) <;> first | exact True.intro | exact fun _ _ => rfl | omega | assumption | (intros; simp [freeL, freeD]))) (aw_ret (end_i (bif !anyI (fun (i : Nat) => !campB h.n (c i)) n then (0 : Int) else (2 : Int)) ?_))) (fun h4 => awr_end0 (aw_ret (end_i ((2 : Int)) ?_))))))))))))
    all_goals ((try simp only [intL_i6, campL_D] at *); grind [campsB])

def R18 : List D → Option (Option Prop × D)
  | [d0, d1] => match hallO d0, campsO d1 with
    | some (p, h), some (q, n, c) => some (some (p ∧ q ∧ h.n ≤ 1000000 ∧ h.m ≤ 1000000 ∧ n ≤ 1000000), i6 (bif campsB h n c then 0 else 2))
    | _, _ => none
  | _ => none
noncomputable def T18 := orCl (aloC 18 R18) T55
theorem T18_ok (K : Cust) : ClOK K PG T18 := tab_cons cf_18 (fun ds p d h hp => by
    unfold R18 at h
    split at h
    · split at h
      · rename_i e0 e1
        cases h
        obtain ⟨h1, h2, h3⟩ := hp _ rfl
        exact ⟨_, less_cons (hallO_less e0 h1) (less_cons (campsO_less e1 h2) (Less.refl _)), by simp [freeL, freeD, hallD_free, rowC_free], by simp [freeD], checkCamps_alone _ _ _ h3⟩
      · cases h
    · cases h) (T55_ok K)
end Go.Ev

