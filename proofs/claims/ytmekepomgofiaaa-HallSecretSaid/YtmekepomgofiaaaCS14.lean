import Derived.Test.YtmekepomgofiaaaCS13
import Derived.Test.YtmekepomgofiaaaCS11
import Derived.Test.YtmekepomgofiaaaRows
import Derived.ProofKit
import Derived.Lib.SmallJoins
import Derived.Carry
import Derived.Deep.Strs
import Derived.Deep.Slices
set_option linter.all false
section
namespace Go.Ev
/-! ### Arguments seen as nobody's, with conditions in the place of tests -/
theorem nfA (a : Nat) : addN 0 a = a := rfl
theorem nfM (a : Nat) : mulN a 1 = a := rfl
theorem nfM2 (a : Nat) : mulN a 2 = a * 2 := rfl
theorem nfM3 (a : Nat) : mulN a 3 = a * 3 := rfl
theorem nfM4 (a : Nat) : mulN a 4 = a * 4 := rfl
theorem nfM5 (a : Nat) : mulN a 5 = a * 5 := rfl
theorem nfM6 (a : Nat) : mulN a 6 = a * 6 := rfl
theorem nfM7 (a : Nat) : mulN a 7 = a * 7 := rfl
theorem nfM8 (a : Nat) : mulN a 8 = a * 8 := rfl
theorem nfM9 (a : Nat) : mulN a 9 = a * 9 := rfl
theorem nfM10 (a : Nat) : mulN a 10 = a * 10 := rfl
theorem nfM11 (a : Nat) : mulN a 11 = a * 11 := rfl
theorem nfM12 (a : Nat) : mulN a 12 = a * 12 := rfl
noncomputable section
def andO : Option Prop → Option Prop → Option Prop
  | none, q => q
  | some p, none => some p
  | some p, some q => some (p ∧ q)
def holdsO (p : Option Prop) : Prop := ∀ q, p = some q → q
theorem holdsO_and {p q : Option Prop} (h : holdsO (andO p q)) : holdsO p ∧ holdsO q := by
  cases p with
  | none => exact ⟨fun _ h => (by cases h), h⟩
  | some p =>
    cases q with
    | none => exact ⟨h, fun _ h => (by cases h)⟩
    | some q =>
      have := h _ rfl
      exact ⟨fun _ e => (by cases e; exact this.1), fun _ e => (by cases e; exact this.2)⟩
def mapO (g : D → Option (Option Prop × D)) : List D → Option (Option Prop × List D)
  | [] => some (none, [])
  | d :: l => match g d with
    | some (p, e) => match mapO g l with
      | some (q, r) => some (andO p q, e :: r)
      | none => none
    | none => none
def cutC (cs : List D) (off k i : Nat) : List D := takeG (dropG cs (addN off (mulN i k))) k
def seeS (hp : List Blk) : Nat → D → Option (Option Prop × D)
  | 0, _ => none
  | n + 1, d => match d with
    | .any => some (none, .any)
    | .val v => some (none, .val v)
    | .cust t q => some (none, .cust t q)
    | .emp z => some (none, .emp z)
    | .row k len f => some (some (∀ i, i < len → freeL (f i)), .row k len f)
    | .ref cs off => match mapO (seeS hp n) cs with | some (p, cs') => some (p, .ref cs' off) | none => none
    | .sl id off len k _ => match getG hp id with
      | some (.arr m f) => some (some (off + len * k ≤ m ∧ ∀ j, j < m → freeD (f j)), .row k len fun i => tabF f (addN off (mulN i k)) k)
      | some (.cells cs) => match Nat.ble (off + len * k) (lenG cs) with
        | true => match mapO (seeS hp n) cs with
          | some (p, cs') => some (p, .row k len (cutC cs' off k))
          | none => none
        | false => none
      | _ => none
    | .ptr id off => match getG hp id with
      | some (.cells cs) => match mapO (seeS hp n) cs with
        | some (p, cs') => some (p, .ref cs' off)
        | none => none
      | _ => none
    | .agg ds => match mapO (seeS hp n) ds with | some (p, ds') => some (p, .agg ds') | none => none
    | .tup ds => match mapO (seeS hp n) ds with | some (p, ds') => some (p, .tup ds') | none => none
    | .fn f a b => match mapO (seeS hp n) a with
      | some (p, a') => match mapO (seeS hp n) b with
        | some (q, b') => some (andO p q, .fn f a' b')
        | none => none
      | none => none
    | .iface t d => match seeS hp n d with | some (p, d') => some (p, .iface t d') | none => none
    | .map _ => none
end
section
variable {K : Cust} {P : Program} {w w' : World} {ρ : List Own} {hp : List Blk} {nid : Nat}
theorem mapO_get {g : D → Option (Option Prop × D)} : ∀ {l r : List D} {p : Option Prop}, mapO g l = some (p, r) → holdsO p → l.length = r.length ∧ ∀ (i : Nat) (e : D), r[i]? = some e → ∃ d q, l[i]? = some d ∧ g d = some (q, e) ∧ holdsO q
  | [], r, p, h, _ => by
    simp only [mapO] at h
    cases h
    exact ⟨rfl, fun i e hi => by simp at hi⟩
  | d :: l, r, p, h, hp => by
    simp only [mapO] at h
    split at h
    · rename_i p1 e1 h1
      split at h
      · rename_i q1 r1 h2
        cases h
        obtain ⟨k1, k2⟩ := holdsO_and hp
        obtain ⟨g1, g2⟩ := mapO_get h2 k2
        refine ⟨by simp [g1], fun i e hi => ?_⟩
        cases i with
        | zero => simp at hi; subst hi; exact ⟨d, p1, by simp, h1, k1⟩
        | succ i => simpa using g2 i e (by simpa using hi)
      · cases h
    · cases h
theorem addmul {off i k : Nat} : addN off (mulN i k) = off + i * k := by
  unfold addN mulN
  cases h : Nat.beq k 1 with
  | true =>
    obtain rfl := Nat.eq_of_beq_eq_true h
    cases off <;> simp
  | false => cases off <;> simp
theorem tabF_at {f : Nat → D} : ∀ {k off j : Nat} {d : D}, (tabF f off k)[j]? = some d → j < k ∧ d = f (off + j)
  | 0, off, j, d, h => by simp [tabF] at h
  | k + 1, off, j, d, h => by
    simp only [tabF] at h
    cases j with
    | zero => simp at h; exact ⟨by omega, h.symm⟩
    | succ j =>
      obtain ⟨h1, h2⟩ := tabF_at (k := k) (off := off + 1) (j := j) (by simpa using h)
      exact ⟨by omega, by rw [h2]; congr 1; omega⟩
theorem seeS_ok (hk : OK K w ρ hp) : ∀ (n : Nat) (d d' : D) (v : Value) (p : Option Prop), Rep K (mask K w ρ) ρ d v → seeS hp n d = some (p, d') → holdsO p → Rep K (mask K w [.fresh]) [.fresh] d' v
  | 0, d, d', v, p, h, hs, _ => by simp [seeS] at hs
  | n + 1, d, d', v, p, h, hs, hq => by
    have ih := seeS_ok hk n
    have ihL : ∀ {ds ds' : List D} {vs : List Value} {p : Option Prop}, mapO (seeS hp n) ds = some (p, ds') → holdsO p → RepL K (mask K w ρ) ρ ds vs → RepL K (mask K w [.fresh]) [.fresh] ds' vs := fun {ds ds' vs p} hm hp hl => by
      obtain ⟨g1, g2⟩ := mapO_get hm hp
      refine repL_of (by rw [← g1]; exact repL_length hl) fun i e hi => ?_
      obtain ⟨d, q, q1, q2, q3⟩ := g2 i e hi
      obtain ⟨u, q4, q5⟩ := repL_get hl q1
      exact ⟨u, q4, ih d e u q q5 q2 q3⟩
    have ihB : ∀ {id b m : Nat} {cs cs' : List D} {p : Option Prop}, own ρ id = .live b m → RepB K w (mask K w ρ) ρ (.live b m) (.cells cs) → mapO (seeS hp n) cs = some (p, cs') → holdsO p → Reads K (mask K w [.fresh]) (mask K w [.fresh]) [.fresh] cs' b 0 := fun {id b m cs cs' p} ho hB hm hp => by
      obtain ⟨vs, ty, q1, q2, q3⟩ := hB
      have hcell := see_own q1 (hk.apart id b m (own_live ho))
      obtain ⟨g1, g2⟩ := mapO_get hm hp
      intro j e hj
      obtain ⟨d, q, k1, k2, k3⟩ := g2 j e hj
      obtain ⟨x, k4, k5⟩ := q3 j d k1
      exact ⟨x, by rw [cell_of hcell, Nat.zero_add]; exact k4, ih d e x q k5 k2 k3⟩
    cases d with
    | any => simp only [seeS] at hs; cases hs; trivial
    | val x => simp only [seeS] at hs; cases hs; simpa only [Rep] using h
    | cust t q => simp only [seeS] at hs; cases hs; simp only [Rep] at *; exact K.mono _ _ _ _ _ see_sub h
    | emp z => simp only [seeS] at hs; cases hs; simpa only [Rep] using h
    | map id => simp [seeS] at hs
    | row k len f =>
      simp only [seeS] at hs
      cases hs
      have hf := hq _ rfl
      simp only [Rep] at *
      exact h.imp id fun ⟨b, o, c, h1, h2, h3⟩ => ⟨b, o, c, h1, h2, fun i hi => RepC.free (K := K) (K' := K) see_sub (fun t q v hc => K.mono _ _ _ _ _ see_sub hc) (f i) b _ (hf i hi) (h3 i hi)⟩
    | ref cs off =>
      simp only [seeS] at hs
      split at hs
      · rename_i p' cs' hm
        cases hs
        obtain ⟨g1, g2⟩ := mapO_get hm hq
        simp only [Rep] at *
        obtain ⟨b, o, h1, h2⟩ := h
        refine ⟨b, o, h1, reads_C fun j e hj => ?_⟩
        obtain ⟨d, q, k1, k2, k3⟩ := g2 j e hj
        obtain ⟨x, k4, k5⟩ := repC_reads (w := mask K w ρ) (fun _ _ _ _ h => h) h2 j d k1
        exact ⟨x, see_sub.cell k4, ih d e x q k5 k2 k3⟩
      · cases hs
    | sl id off len k cap =>
      simp only [seeS] at hs
      split at hs
      · rename_i m f hg
        cases hs
        obtain ⟨hle, hf⟩ := hq _ rfl
        obtain ⟨b, N, ho, hB⟩ := own_block hk hg (by intro e; cases e)
        simp only [Rep, ho] at h ⊢
        obtain ⟨c, rfl, hlc, _⟩ := h
        obtain ⟨vs, ty, q1, q2, q3, q4⟩ := hB
        have hcell := see_own q1 (hk.apart id b N (own_live ho))
        refine .inr ⟨b, off, c, rfl, hlc, fun i hi => reads_C fun j e hj => ?_⟩
        rw [addmul] at hj
        obtain ⟨hjk, rfl⟩ := tabF_at hj
        have hb : off + i * k + j < m := by
          have : (i + 1) * k ≤ len * k := Nat.mul_le_mul_right k hi
          rw [Nat.add_mul, Nat.one_mul] at this
          omega
        obtain ⟨x, p1, p2⟩ := q4 _ hb
        exact ⟨x, by rw [cell_of hcell]; exact p1, Rep.free (K := K) (K' := K) see_sub (fun t q v hc => K.mono _ _ _ _ _ see_sub hc) _ x (hf _ hb) p2⟩
      · rename_i cs hg
        split at hs
        · rename_i hle
          split at hs
          · rename_i p' cs' hm
            cases hs
            obtain ⟨b, N, ho, hB⟩ := own_block hk hg (by intro e; cases e)
            have hrd := ihB ho hB hm hq
            simp only [Rep, ho] at h ⊢
            obtain ⟨c, rfl, hlc, _⟩ := h
            refine .inr ⟨b, off, c, rfl, hlc, fun i hi => reads_C fun j e hj => ?_⟩
            unfold cutC at hj
            rw [takeG_eq, dropG_eq, addmul, List.getElem?_take] at hj
            split at hj
            · rw [List.getElem?_drop] at hj
              have := hrd _ e hj
              rw [Nat.zero_add] at this
              exact this
            · cases hj
          · cases hs
        · cases hs
      · cases hs
    | ptr id off =>
      simp only [seeS] at hs
      split at hs
      · rename_i cs hg
        split at hs
        · rename_i p' cs' hm
          cases hs
          obtain ⟨b, N, ho, hB⟩ := own_block hk hg (by intro e; cases e)
          have hrd := ihB ho hB hm hq
          simp only [Rep, ho] at h ⊢
          exact ⟨b, 0, by rw [Nat.zero_add]; exact h, reads_C hrd⟩
        · cases hs
      · cases hs
    | agg ds =>
      simp only [seeS] at hs
      split at hs
      · rename_i p' ds' hm
        cases hs
        simp only [Rep] at *
        obtain ⟨vs, rfl, h2⟩ := h
        exact ⟨vs, rfl, ihL hm hq h2⟩
      · cases hs
    | tup ds =>
      simp only [seeS] at hs
      split at hs
      · rename_i p' ds' hm
        cases hs
        simp only [Rep] at *
        obtain ⟨vs, rfl, h2⟩ := h
        exact ⟨vs, rfl, ihL hm hq h2⟩
      · cases hs
    | fn f a b =>
      simp only [seeS] at hs
      split at hs
      · rename_i p1 a' ha
        split at hs
        · rename_i p2 b' hb
          cases hs
          obtain ⟨k1, k2⟩ := holdsO_and hq
          simp only [Rep] at *
          obtain ⟨x, y, rfl, h1, h2⟩ := h
          exact ⟨x, y, rfl, ihL ha k1 h1, ihL hb k2 h2⟩
        · cases hs
      · cases hs
    | iface t d =>
      simp only [seeS] at hs
      split at hs
      · rename_i p' d' hd
        cases hs
        simp only [Rep] at *
        obtain ⟨x, rfl, h2⟩ := h
        exact ⟨x, rfl, ih d d' x _ h2 hd hq⟩
      · cases hs
/-- what names no cell -/
def isPl : D → Bool
  | .val _ => true
  | .agg ds => allVal ds
  | .tup ds => allVal ds
  | _ => false
theorem isPl_rep {M M' : World} {ρ ρ' : List Own} {d : D} {v : Value} (h : isPl d = true) (hr : Rep K M ρ d v) : Rep K M' ρ' d v := by
  cases d with
  | val x => simpa only [Rep] using hr
  | agg ds =>
    simp only [Rep] at *
    obtain ⟨vs, rfl, h2⟩ := hr
    exact ⟨vs, rfl, repL_allVal h h2⟩
  | tup ds =>
    simp only [Rep] at *
    obtain ⟨vs, rfl, h2⟩ := hr
    exact ⟨vs, rfl, repL_allVal h h2⟩
  | _ => cases h
theorem Res.unseeD {d : D} {v : Value} (hd : isPl d = true) (h : Res K w [.fresh] [.dead] 0 ⟨none, d, [], []⟩ v w') (p : Option Prop) : Res K w ρ hp nid ⟨p, d, [], []⟩ v w' := by
  obtain ⟨ρ1, h1, h2⟩ := h
  have hkeep : ∀ b : Nat, b < w.heap.size → w'.heap[b]? = w.heap[b]? := fun b hb => h2.keep b hb fun i n hi => by cases i <;> simp at hi
  exact ⟨ρ, isPl_rep hd h1, Eff.foreign h2.size hkeep h2.env⟩
/-- a table of one function, told alone, its arguments seen as nobody's; its result names no cell -/
noncomputable def seeC (g : FuncId) (r : List D → Option (Option Prop × D)) (f : FuncId) (ds : List D) (hp : List Blk) (_ : Nat) : Option Out := match Nat.beq f g with
  | true => match mapO (seeS hp 6) ds with
    | some (p, ds') => match r ds' with
      | some (q, d) => match isPl d with
        | true => some ⟨andO p q, d, [], []⟩
        | false => none
      | none => none
    | none => none
  | false => none
theorem seeC_ok {g : FuncId} {r : List D → Option (Option Prop × D)} (henter : ∀ args w, (callFunc g args).run P w = .ok (.enter g args) w)
    (h : ∀ ds p d, r ds = some (p, d) → holdsO p → ∃ ds', Less ds ds' ∧ Alone P g ds' d) : ClOK K P (seeC g r) := by
  intro f ds hp nid out ho hc
  unfold seeC at ho
  split at ho
  · rename_i hfg
    obtain rfl := Nat.eq_of_beq_eq_true hfg
    split at ho
    · rename_i p ds' hds
      split at ho
      · rename_i q d hr
        split at ho
        · rename_i hpl
          obtain rfl := (Option.some.inj ho).symm
          obtain ⟨k1, k2⟩ := holdsO_and (p := p) (q := q) hc
          refine ⟨henter, fun w ρ args hk hrep hn => ?_⟩
          obtain ⟨ds2, hl, hA⟩ := h ds' q d hr k2
          obtain ⟨m1, m2⟩ := mapO_get hds k1
          have hlen := repL_length hrep
          have hr' : RepL K (mask K w [.fresh]) [.fresh] ds' args := repL_of (by omega) fun i e he => by
            obtain ⟨d0, q0, e1, e2, e3⟩ := m2 i e he
            obtain ⟨u, hu, hru⟩ := repL_get hrep e1
            exact ⟨u, hu, seeS_ok hk 6 d0 e u q0 hru e2 e3⟩
          refine (hA K w args hk.see (hl K _ _ _ hr')).mono fun e w' hx => ?_
          obtain ⟨x, rfl, hres⟩ := hx
          exact ⟨x, rfl, hres.unseeD hpl _⟩
        · cases ho
      · cases ho
    · cases ho
  · cases ho
/-- a table of one function, told alone; its arguments name no own block -/
noncomputable def aloC (g : FuncId) (r : List D → Option (Option Prop × D)) : FuncId → List D → List Blk → Nat → Option Out :=
  oneCl g fun ds _ _ => match r ds with | some (p, d) => some ⟨p, d, [], []⟩ | none => none
theorem aloC_ok {g : FuncId} {r : List D → Option (Option Prop × D)} (henter : ∀ args w, (callFunc g args).run P w = .ok (.enter g args) w)
    (h : ∀ ds p d, r ds = some (p, d) → holdsO p → ∃ ds', Less ds ds' ∧ freeL ds' ∧ freeD d ∧ Alone P g ds' d) : ClOK K P (aloC g r) :=
  ClOK.one (Alone.contract' henter r h)
end
end Go.Ev
end
section
open Go Go.Ev Go.RowKit
namespace Go.Ev
set_option maxRecDepth 100000
set_option linter.all false
abbrev i6 (x : Int) : D := .val (.int .i64 x)
theorem hm0 : Go.Proofs.Try.prog.follows .mixedOrders = true := by kernel_rfl
def intL : List D → Int
  | [.val (.int .i64 x)] => x
  | _ => 0
structure Camp where
  cu : Int
  pr : Int
  ho : Int
  en : Int
  ea : Int
  la : Int
  we : Int
def campD (c : Camp) : List D := [i6 c.cu, i6 c.pr, i6 c.ho, i6 c.en, i6 c.ea, i6 c.la, i6 c.we]
def campL : List D → Camp
  | [.val (.int .i64 a), .val (.int .i64 b), .val (.int .i64 c), .val (.int .i64 d), .val (.int .i64 e), .val (.int .i64 f), .val (.int .i64 g)] => ⟨a, b, c, d, e, f, g⟩
  | _ => ⟨0, 0, 0, 0, 0, 0, 0⟩
structure Run where
  c : Camp
  first : Int
def runD (r : Run) : List D := [i6 r.c.cu, i6 r.c.pr, i6 r.c.ho, i6 r.c.en, i6 r.c.ea, i6 r.c.la, i6 r.c.we, i6 r.first]
def runL : List D → Run
  | [.val (.int .i64 a), .val (.int .i64 b), .val (.int .i64 c), .val (.int .i64 d), .val (.int .i64 e), .val (.int .i64 f), .val (.int .i64 g), .val (.int .i64 h)] => ⟨⟨a, b, c, d, e, f, g⟩, h⟩
  | _ => ⟨⟨0, 0, 0, 0, 0, 0, 0⟩, 0⟩
def rowI (n : Nat) (f : Nat → Int) : D := .row 1 n fun i => [i6 (f i)]
def rowC (n : Nat) (f : Nat → Camp) : D := .row 7 n fun i => campD (f i)
def rowR (n : Nat) (f : Nat → Run) : D := .row 8 n fun i => runD (f i)
structure Hall where
  ro : Int
  cl : Int
  n : Nat
  st : Nat → Int
  m : Nat
  en : Nat → Int
def hallD (h : Hall) : List D := [i6 h.ro, i6 h.cl, rowI h.n h.st, rowI h.m h.en]
@[simp] theorem intL_i6 (x : Int) : intL [i6 x] = x := rfl
@[simp] theorem campL_D (c : Camp) : campL (campD c) = c := rfl
@[simp] theorem runL_D (r : Run) : runL (runD r) = r := rfl
/-! ### what an argument tells, and on what condition -/
def LessD (d d' : D) : Prop := ∀ (K : Cust) (M : World) (ρ : List Own) (v : Value), Rep K M ρ d v → Rep K M ρ d' v
theorem LessD.refl (d : D) : LessD d d := fun _ _ _ _ h => h
theorem less_cons {d d' : D} {ds ds' : List D} (h : LessD d d') (h2 : Less ds ds') : Less (d :: ds) (d' :: ds') := .cons h h2
theorem less_row {k n : Nat} {f g : Nat → List D} (h : ∀ i, i < n → f i = g i) : LessD (.row k n f) (.row k n g) := fun K M ρ v hv => by
  simp only [Rep] at *
  rcases hv with hv | ⟨b, o, c, h1, h3, h4⟩
  · exact .inl hv
  · exact .inr ⟨b, o, c, h1, h3, fun i hi => h i hi ▸ h4 i hi⟩
theorem less_agg {ds ds' : List D} (h : Less ds ds') : LessD (.agg ds) (.agg ds') := fun K M ρ v hv => by
  simp only [Rep] at *
  obtain ⟨vs, rfl, hr⟩ := hv
  exact ⟨vs, rfl, h K M ρ vs hr⟩
/-- a slice of ints: how many, which, on what condition -/
def intsO : D → Option (Prop × Nat × (Nat → Int))
  | .row 1 n f => some (∀ i, i < n → f i = [i6 (intL (f i))], n, fun i => intL (f i))
  | .val (.slice none 0 0) => some (True, 0, fun _ => 0)
  | .emp _ => some (True, 0, fun _ => 0)
  | _ => none
theorem intsO_less {d : D} {p : Prop} {n : Nat} {f : Nat → Int} (h : intsO d = some (p, n, f)) (hp : p) : LessD d (rowI n f) := by
  unfold intsO at h
  split at h
  · cases h; exact less_row hp
  · cases h
    intro K M ρ v hv
    simp only [Rep, rowI] at *
    exact .inl ⟨hv, trivial⟩
  · cases h
    intro K M ρ v hv
    simp only [Rep, rowI] at *
    obtain ⟨b, o, c, rfl, -⟩ := hv
    exact .inr ⟨b, o, c, rfl, Nat.zero_le _, fun i hi => absurd hi (Nat.not_lt_zero _)⟩
  · cases h
def campsO : D → Option (Prop × Nat × (Nat → Camp))
  | .row 7 n f => some (∀ i, i < n → f i = campD (campL (f i)), n, fun i => campL (f i))
  | .val (.slice none 0 0) => some (True, 0, fun _ => ⟨0, 0, 0, 0, 0, 0, 0⟩)
  | .emp _ => some (True, 0, fun _ => ⟨0, 0, 0, 0, 0, 0, 0⟩)
  | _ => none
theorem campsO_less {d : D} {p : Prop} {n : Nat} {f : Nat → Camp} (h : campsO d = some (p, n, f)) (hp : p) : LessD d (rowC n f) := by
  unfold campsO at h
  split at h
  · cases h; exact less_row hp
  · cases h
    intro K M ρ v hv
    simp only [Rep, rowC] at *
    exact .inl ⟨hv, trivial⟩
  · cases h
    intro K M ρ v hv
    simp only [Rep, rowC] at *
    obtain ⟨b, o, c, rfl, -⟩ := hv
    exact .inr ⟨b, o, c, rfl, Nat.zero_le _, fun i hi => absurd hi (Nat.not_lt_zero _)⟩
  · cases h
def runsO : D → Option (Prop × Nat × (Nat → Run))
  | .row 8 n f => some (∀ i, i < n → f i = runD (runL (f i)), n, fun i => runL (f i))
  | .val (.slice none 0 0) => some (True, 0, fun _ => ⟨⟨0, 0, 0, 0, 0, 0, 0⟩, 0⟩)
  | .emp _ => some (True, 0, fun _ => ⟨⟨0, 0, 0, 0, 0, 0, 0⟩, 0⟩)
  | _ => none
theorem runsO_less {d : D} {p : Prop} {n : Nat} {f : Nat → Run} (h : runsO d = some (p, n, f)) (hp : p) : LessD d (rowR n f) := by
  unfold runsO at h
  split at h
  · cases h; exact less_row hp
  · cases h
    intro K M ρ v hv
    simp only [Rep, rowR] at *
    exact .inl ⟨hv, trivial⟩
  · cases h
    intro K M ρ v hv
    simp only [Rep, rowR] at *
    obtain ⟨b, o, c, rfl, -⟩ := hv
    exact .inr ⟨b, o, c, rfl, Nat.zero_le _, fun i hi => absurd hi (Nat.not_lt_zero _)⟩
  · cases h
def hallL : List D → Option (Prop × Hall)
  | [.val (.int .i64 a), .val (.int .i64 b), x, y] => match intsO x with
    | some (p, n, f) => match intsO y with
      | some (q, m, g) => some (p ∧ q, ⟨a, b, n, f, m, g⟩)
      | none => none
    | none => none
  | _ => none
theorem hallL_less {l : List D} {p : Prop} {h : Hall} (e : hallL l = some (p, h)) (hp : p) : Less l (hallD h) := by
  unfold hallL at e
  split at e
  · split at e
    · rename_i h1
      split at e
      · rename_i h2
        cases e
        exact Less.same (Less.same (less_cons (intsO_less h1 hp.1) (less_cons (intsO_less h2 hp.2) (Less.refl []))))
      · cases e
    · cases e
  · cases e
def hallO : D → Option (Prop × Hall)
  | .agg l => hallL l
  | _ => none
theorem hallO_less {d : D} {p : Prop} {h : Hall} (e : hallO d = some (p, h)) (hp : p) : LessD d (.agg (hallD h)) := by
  unfold hallO at e
  split at e
  · exact less_agg (hallL_less e hp)
  · cases e
def campO : D → Option Camp
  | .agg [.val (.int .i64 a), .val (.int .i64 b), .val (.int .i64 c), .val (.int .i64 d), .val (.int .i64 e), .val (.int .i64 f), .val (.int .i64 g)] => some ⟨a, b, c, d, e, f, g⟩
  | _ => none
theorem campO_eq {d : D} {c : Camp} (e : campO d = some c) : d = .agg (campD c) := by
  unfold campO at e
  split at e
  · cases e; rfl
  · cases e
def runO : D → Option Run
  | .agg [.val (.int .i64 a), .val (.int .i64 b), .val (.int .i64 c), .val (.int .i64 d), .val (.int .i64 e), .val (.int .i64 f), .val (.int .i64 g), .val (.int .i64 h)] => some ⟨⟨a, b, c, d, e, f, g⟩, h⟩
  | _ => none
theorem runO_eq {d : D} {c : Run} (e : runO d = some c) : d = .agg (runD c) := by
  unfold runO at e
  split at e
  · cases e; rfl
  · cases e
theorem rowI_free (n : Nat) (f : Nat → Int) : freeD (rowI n f) := by simp [rowI, freeD, freeL]
theorem rowC_free (n : Nat) (f : Nat → Camp) : freeD (rowC n f) := by simp [rowC, campD, freeD, freeL]
theorem rowR_free (n : Nat) (f : Nat → Run) : freeD (rowR n f) := by simp [rowR, runD, freeD, freeL]
theorem hallD_free (h : Hall) : freeL (hallD h) := by simp [hallD, freeL, freeD, rowI_free]
theorem campD_free (c : Camp) : freeL (campD c) := by simp [campD, freeL, freeD]
theorem runD_free (c : Run) : freeL (runD c) := by simp [runD, freeL, freeD]
/-! ### the first of a row -/
def findI (p : Nat → Bool) (n : Nat) : Int := match (List.range n).find? p with
  | some i => i
  | none => -1
def anyI (p : Nat → Bool) (n : Nat) : Bool := (List.range n).any p
theorem findI_at {p : Nat → Bool} {n i : Nat} (hi : i < n) (hp : p i = true) (hb : ∀ j, j < i → p j = false) : findI p n = i := by
  unfold findI
  have : (List.range n).find? p = some i := by
    rw [List.find?_range_eq_some]
    exact ⟨hp, List.mem_range.2 hi, fun j hj => by simp [hb j hj]⟩
  rw [this]
theorem findI_none {p : Nat → Bool} {n : Nat} (hb : ∀ j, j < n → p j = false) : findI p n = -1 := by
  unfold findI
  have : (List.range n).find? p = none := by
    rw [List.find?_eq_none]
    exact fun j hj => by simp [hb j (List.mem_range.1 hj)]
  rw [this]
theorem findI_cases (p : Nat → Bool) (n : Nat) : (∃ i, i < n ∧ p i = true ∧ (∀ j, j < i → p j = false) ∧ findI p n = i) ∨ ((∀ j, j < n → p j = false) ∧ findI p n = -1) := by
  cases h : (List.range n).find? p with
  | some i =>
    rw [List.find?_range_eq_some] at h
    obtain ⟨h1, h2, h3⟩ := h
    have hb : ∀ j, j < i → p j = false := fun j hj => by simpa using h3 j hj
    exact .inl ⟨i, List.mem_range.1 h2, h1, hb, findI_at (List.mem_range.1 h2) h1 hb⟩
  | none =>
    rw [List.find?_eq_none] at h
    have hb : ∀ j, j < n → p j = false := fun j hj => by simpa using h j (List.mem_range.2 hj)
    exact .inr ⟨hb, findI_none hb⟩
theorem anyI_iff {p : Nat → Bool} {n : Nat} : anyI p n = true ↔ ∃ i, i < n ∧ p i = true := by
  unfold anyI
  simp [List.any_eq_true, List.mem_range]
theorem anyI_false {p : Nat → Bool} {n : Nat} : anyI p n = false ↔ ∀ i, i < n → p i = false := by
  unfold anyI
  simp [List.any_eq_false, List.mem_range]
theorem findI_any {p : Nat → Bool} {n : Nat} : decide (findI p n ≥ 0) = anyI p n := by
  rcases findI_cases p n with ⟨i, h1, h2, h3, h4⟩ | ⟨h1, h2⟩
  · rw [h4, anyI_iff.2 ⟨i, h1, h2⟩]
    exact decide_eq_true (by omega)
  · rw [h2, anyI_false.2 h1]
    rfl
end Go.Ev
end
section
open Go Go.Ev Go.RowKit
namespace Go.Ev
set_option maxRecDepth 100000
set_option linter.all false
noncomputable abbrev PG : Program := Go.Proofs.Try.prog
theorem ent {f : FuncId} {fn : AFun} (hf : compF PG f = some fn) : ∀ args w, (callFunc f args).run PG w = .ok (.enter f args) w := (fun_ok (K := noCust) (cl := noC) hm0 noC_ok hf).1
abbrev bD (b : Bool) : D := .val (.bool b)
def boO : D → Option Bool
  | .val (.bool b) => some b
  | _ => none
def inO : D → Option Int
  | .val (.int .i64 x) => some x
  | _ => none
theorem boO_eq {d : D} {b : Bool} (h : boO d = some b) : d = bD b := by
  unfold boO at h
  split at h
  · cases h; rfl
  · cases h
theorem inO_eq {d : D} {b : Int} (h : inO d = some b) : d = i6 b := by
  unfold inO at h
  split at h
  · cases h; rfl
  · cases h
/-- one function more in a table -/
theorem tab_cons {K : Cust} {g : FuncId} {fn : AFun} {r : List D → Option (Option Prop × D)} {cl : FuncId → List D → List Blk → Nat → Option Out} (hf : compF PG g = some fn)
    (h : ∀ ds p d, r ds = some (p, d) → holdsO p → ∃ ds', Less ds ds' ∧ freeL ds' ∧ freeD d ∧ Alone PG g ds' d) (hcl : ClOK K PG cl) : ClOK K PG (orCl (aloC g r) cl) :=
  ClOK.or (aloC_ok (ent hf) h) hcl
theorem tab_see {K : Cust} {g : FuncId} {fn : AFun} {r : List D → Option (Option Prop × D)} {cl : FuncId → List D → List Blk → Nat → Option Out} (hf : compF PG g = some fn)
    (h : ∀ ds p d, r ds = some (p, d) → holdsO p → ∃ ds', Less ds ds' ∧ Alone PG g ds' d) (hcl : ClOK K PG cl) : ClOK K PG (orCl (seeC g r) cl) :=
  ClOK.or (seeC_ok (ent hf) h) hcl

theorem within_alone (a x b : Int) : Alone PG 49 [i6 a, i6 x, i6 b] (bD (decide (a ≤ x ∧ x ≤ b))) :=
  Alone.ofW (cl := noC) (raw := false) hm0 (fun K => noC_ok) cf_49 fun K w => by
    refine aw_reg0 (aw_opens (awr_testd 4 (10 : Nat) (True) trivial (a ≤ x) (fun h1 => awr_end0 (aw_ret (end_b (decide (x ≤ b)) ?_))) (fun h2 => awr_end0 (aw_ret (end_b (false) ?_)))))
    all_goals (simp_all; try omega)

def R49 : List D → Option (Option Prop × D)
  | [d0, d1, d2] => match inO d0, inO d1, inO d2 with
    | some a, some x, some b => some (none, bD (decide (a ≤ x ∧ x ≤ b)))
    | _, _, _ => none
  | _ => none
noncomputable def T49 := orCl (aloC 49 R49) noC
theorem T49_ok (K : Cust) : ClOK K PG T49 := tab_cons cf_49 (fun ds p d h hp => by
    unfold R49 at h
    split at h
    · split at h
      · rename_i e0 e1 e2
        obtain rfl := inO_eq e0
        obtain rfl := inO_eq e1
        obtain rfl := inO_eq e2
        cases h
        exact ⟨_, Less.refl _, by simp [freeL, freeD, campD_free, runD_free], by simp [freeD, freeL], within_alone _ _ _⟩
      · cases h
    · cases h) noC_ok
theorem arg_alone (b : Bool) : Alone PG 51 [bD b] (i6 (bif b then 0 else 2)) :=
  Alone.ofW (cl := T49) (raw := false) hm0 T49_ok cf_51 fun K w => by
    refine aw_reg0 (aw_assoc (aw_reg0 (aw_ifs (!b) (fun h1 => aw_assoc (aw_reg0 (aw_rets (end_i ((2 : Int)) ?_)))) (fun h2 => aw_skips (aw_reg0 (aw_ret (end_i ((0 : Int)) ?_)))))))
    all_goals (simp_all; try omega)

def R51 : List D → Option (Option Prop × D)
  | [d0] => match boO d0 with
    | some b => some (none, i6 (bif b then 0 else 2))
    | _ => none
  | _ => none
noncomputable def T51 := orCl (aloC 51 R51) T49
theorem T51_ok (K : Cust) : ClOK K PG T51 := tab_cons cf_51 (fun ds p d h hp => by
    unfold R51 at h
    split at h
    · split at h
      · rename_i e0
        obtain rfl := boO_eq e0
        cases h
        exact ⟨_, Less.refl _, by simp [freeL, freeD, campD_free, runD_free], by simp [freeD, freeL], arg_alone _⟩
      · cases h
    · cases h) (T49_ok K)
theorem end_alone (r : Run) (h0 : inRange .i64 (r.first + r.c.ho)) : Alone PG 99 [.agg (runD r)] (i6 (r.first + r.c.ho)) :=
  Alone.ofW (cl := T51) (raw := false) hm0 T51_ok cf_99 fun K w => by
    refine aw_reg0 (aw_reg (True ∧ inRange IntKind.i64 (r.first + r.c.ho)) (by exact ⟨trivial, by assumption⟩) (aw_ret (end_i (r.first + r.c.ho) ?_)))
    all_goals (simp_all; try omega)

def R99 : List D → Option (Option Prop × D)
  | [d0] => match runO d0 with
    | some r => some (some (inRange .i64 (r.first + r.c.ho)), i6 (r.first + r.c.ho))
    | _ => none
  | _ => none
noncomputable def T99 := orCl (aloC 99 R99) T51
theorem T99_ok (K : Cust) : ClOK K PG T99 := tab_cons cf_99 (fun ds p d h hp => by
    unfold R99 at h
    split at h
    · split at h
      · rename_i e0
        obtain rfl := runO_eq e0
        cases h
        exact ⟨_, Less.refl _, by simp [freeL, freeD, campD_free, runD_free], by simp [freeD, freeL], end_alone _ (hp _ rfl)⟩
      · cases h
    · cases h) (T51_ok K)
theorem begin_alone (r : Run) (h0 : inRange .i64 (r.first - r.c.pr)) : Alone PG 65 [.agg (runD r)] (i6 (r.first - r.c.pr)) :=
  Alone.ofW (cl := T99) (raw := false) hm0 T99_ok cf_65 fun K w => by
    refine aw_reg0 (aw_reg (True ∧ inRange IntKind.i64 (r.first - r.c.pr)) (by exact ⟨trivial, by assumption⟩) (aw_ret (end_i (r.first - r.c.pr) ?_)))
    all_goals (simp_all; try omega)

def R65 : List D → Option (Option Prop × D)
  | [d0] => match runO d0 with
    | some r => some (some (inRange .i64 (r.first - r.c.pr)), i6 (r.first - r.c.pr))
    | _ => none
  | _ => none
noncomputable def T65 := orCl (aloC 65 R65) T99
theorem T65_ok (K : Cust) : ClOK K PG T65 := tab_cons cf_65 (fun ds p d h hp => by
    unfold R65 at h
    split at h
    · split at h
      · rename_i e0
        obtain rfl := runO_eq e0
        cases h
        exact ⟨_, Less.refl _, by simp [freeL, freeD, campD_free, runD_free], by simp [freeD, freeL], begin_alone _ (hp _ rfl)⟩
      · cases h
    · cases h) (T99_ok K)
theorem cost_alone (r : Run) (h0 : inRange .i64 (r.first + r.c.ho)) (h1 : inRange .i64 (r.c.we * (r.first + r.c.ho))) : Alone PG 74 [.agg (runD r)] (i6 (r.c.we * (r.first + r.c.ho))) :=
  Alone.ofW (cl := T65) (raw := false) hm0 T65_ok cf_74 fun K w => by
    refine aw_reg0 (aw_reg ((True ∧ inRange IntKind.i64 (r.first + r.c.ho)) ∧ inRange IntKind.i64 (r.c.we * (r.first + r.c.ho))) (by ((try simp only [inRange_i64] at *); (repeat' apply And.intro) <;> first | exact True.intro | exact fun _ _ => rfl | omega | assumption | (intros; simp [freeL, freeD]))) (aw_ret (end_i (r.c.we * (r.first + r.c.ho)) ?_)))
    all_goals (simp_all; try omega)

def R74 : List D → Option (Option Prop × D)
  | [d0] => match runO d0 with
    | some r => some (some (inRange .i64 (r.first + r.c.ho) ∧ inRange .i64 (r.c.we * (r.first + r.c.ho))), i6 (r.c.we * (r.first + r.c.ho)))
    | _ => none
  | _ => none
noncomputable def T74 := orCl (aloC 74 R74) T65
theorem T74_ok (K : Cust) : ClOK K PG T74 := tab_cons cf_74 (fun ds p d h hp => by
    unfold R74 at h
    split at h
    · split at h
      · rename_i e0
        obtain rfl := runO_eq e0
        cases h
        exact ⟨_, Less.refl _, by simp [freeL, freeD, campD_free, runD_free], by simp [freeD, freeL], cost_alone _ (hp _ rfl).1 (hp _ rfl).2⟩
      · cases h
    · cases h) (T65_ok K)
def lateB (r : Run) : Bool := decide (r.first < r.c.ea + r.c.pr ∨ r.first > r.c.la - r.c.ho)
theorem late_alone (r : Run) (h1 : inRange .i64 (r.c.ea + r.c.pr)) (h2 : inRange .i64 (r.c.la - r.c.ho)) : Alone PG 105 [.agg (runD r)] (bD (lateB r)) :=
  Alone.ofW (cl := T74) (raw := false) hm0 T74_ok cf_105 fun K w => by
    refine aw_reg0 (aw_opens (awr_testd 11 (13 : Nat) (True ∧ inRange IntKind.i64 (r.c.ea + r.c.pr)) (by exact ⟨trivial, by assumption⟩) (r.first < r.c.ea + r.c.pr) (fun h3 => awr_end0 (aw_ret (end_b (true) ?_))) (fun h4 => awr_end (True ∧ inRange IntKind.i64 (r.c.la - r.c.ho)) (by exact ⟨trivial, by assumption⟩) (aw_ret (end_b (decide (r.first > r.c.la - r.c.ho)) ?_)))))
    all_goals (simp_all [lateB]; try omega)

def R105 : List D → Option (Option Prop × D)
  | [d0] => match runO d0 with
    | some r => some (some (inRange .i64 (r.c.ea + r.c.pr) ∧ inRange .i64 (r.c.la - r.c.ho)), bD (lateB r))
    | _ => none
  | _ => none
noncomputable def T105 := orCl (aloC 105 R105) T74
theorem T105_ok (K : Cust) : ClOK K PG T105 := tab_cons cf_105 (fun ds p d h hp => by
    unfold R105 at h
    split at h
    · split at h
      · rename_i e0
        obtain rfl := runO_eq e0
        cases h
        exact ⟨_, Less.refl _, by simp [freeL, freeD, campD_free, runD_free], by simp [freeD, freeL], late_alone _ (hp _ rfl).1 (hp _ rfl).2⟩
      · cases h
    · cases h) (T74_ok K)
theorem wrongS_alone (x : Int) : Alone PG 48 [i6 x] (bD (!decide (0 ≤ x ∧ x ≤ 1000))) :=
  Alone.ofW (cl := T105) (raw := false) hm0 T105_ok cf_48 fun K w => by
    refine aw_reg0 (aw_reg0 (aw_ret (end_b (!decide ((0 : Int) ≤ x ∧ x ≤ (1000 : Int))) ?_)))
    all_goals (simp_all; try omega)

def R48 : List D → Option (Option Prop × D)
  | [d0] => match inO d0 with
    | some x => some (none, bD (!decide (0 ≤ x ∧ x ≤ 1000)))
    | _ => none
  | _ => none
noncomputable def T48 := orCl (aloC 48 R48) T105
theorem T48_ok (K : Cust) : ClOK K PG T48 := tab_cons cf_48 (fun ds p d h hp => by
    unfold R48 at h
    split at h
    · split at h
      · rename_i e0
        obtain rfl := inO_eq e0
        cases h
        exact ⟨_, Less.refl _, by simp [freeL, freeD, campD_free, runD_free], by simp [freeD, freeL], wrongS_alone _⟩
      · cases h
    · cases h) (T105_ok K)
theorem wrongE_alone (x : Int) : Alone PG 50 [i6 x] (bD (!decide (0 ≤ x ∧ x ≤ 1000))) :=
  Alone.ofW (cl := T48) (raw := false) hm0 T48_ok cf_50 fun K w => by
    refine aw_reg0 (aw_reg0 (aw_ret (end_b (!decide ((0 : Int) ≤ x ∧ x ≤ (1000 : Int))) ?_)))
    all_goals (simp_all; try omega)

def R50 : List D → Option (Option Prop × D)
  | [d0] => match inO d0 with
    | some x => some (none, bD (!decide (0 ≤ x ∧ x ≤ 1000)))
    | _ => none
  | _ => none
noncomputable def T50 := orCl (aloC 50 R50) T48
theorem T50_ok (K : Cust) : ClOK K PG T50 := tab_cons cf_50 (fun ds p d h hp => by
    unfold R50 at h
    split at h
    · split at h
      · rename_i e0
        obtain rfl := inO_eq e0
        cases h
        exact ⟨_, Less.refl _, by simp [freeL, freeD, campD_free, runD_free], by simp [freeD, freeL], wrongE_alone _⟩
      · cases h
    · cases h) (T48_ok K)
end Go.Ev
end
section
open Go Go.Ev Go.RowKit
namespace Go.Ev
set_option maxRecDepth 100000
set_option linter.all false
/-- what a law that tells true does, from any arguments that are told -/
theorem calls_true {f : FuncId} {ds : List D} {vs : List Value} {w : World} (ha : Alone PG f ds (.val (.bool true))) (hr : RepL noCust (mask noCust w [.fresh]) [.fresh] ds vs) :
    Calls PG f vs.toArray w fun e w' => e = .returned (.bool true) ∧ Below w.heap.size w w' := by
  have hk : OK noCust w [.fresh] [.dead] := by
    refine ⟨rfl, fun i b n hi => ?_, fun i j b n m hi => ?_, fun i x hx => ?_, fun _ h => h.elim, fun _ _ _ _ h => h⟩
    · cases i <;> simp at hi
    · cases i <;> simp at hi
    · cases i with
      | zero => simp at hx; subst hx; trivial
      | succ i => simp at hx
  refine (ha noCust w vs hk hr).mono fun e w' he => ?_
  obtain ⟨v, rfl, ρ', hv, hE⟩ := he
  simp only [Rep] at hv
  subst hv
  refine ⟨rfl, hE.env.1, hE.env.2.1, hE.env.2.2, hE.size, fun b hb => hE.keep b hb fun i n hi => ?_⟩
  cases i <;> simp at hi
theorem see_cell {w : World} {b o : Nat} {v : Value} (h : w.cell? ⟨b, o, none⟩ = some v) : (mask noCust w [.fresh]).cell? ⟨b, o, none⟩ = some v := by
  have hsub : ∀ cs ty fr, w.heap[b]? = some (Obj.cells cs ty fr) → (mask noCust w [.fresh]).heap[b]? = some (Obj.cells cs ty fr) := fun cs ty fr h => by
    rw [mask_some]
    refine ⟨?_, h⟩
    rintro (hh | ⟨i, n, hi⟩)
    · exact hh.elim
    · cases i <;> simp at hi
  unfold World.cell? at *
  simp only at *
  split at h
  · rename_i cs ty fr hh
    rw [hsub _ _ _ hh]
    exact h
  · cases h
end Go.Ev
namespace Go.Proofs.Ytmekepomgofiaaa
open Go.ChangeShapes Go.WideShapes Go.ChangeAt Go.RowKit Go.Ev Go.Deep Go.Joins
theorem Try.own : ownKnob Try.prog.godebug = Option.none := by kernel_rfl
theorem Try.laidOut : laidOutB Try.prog = true := by kernel_rfl
set_option maxRecDepth 100000
set_option linter.all false
section
variable {H : Type} {enc : TypeId × Value → H} {w : World}
theorem add_none (b o i : Nat) : Addr.add ⟨b, o, none⟩ i = ⟨b, o + i, none⟩ := by
  unfold Addr.add
  split
  · rename_i h0; subst h0; rfl
  · rfl
theorem ints_open {fuel b0 : Nat} {v : Value} {y : DataW H × List MemPlace} (hval : Cell.okWide Try.prog w .any b0 22 v) (h : DataW.trod enc Try.prog w 0 (fun _ => true) true fuel 22 [v] = some y) :
    ∃ (n : Nat) (f : Nat → Int), Rep noCust (mask noCust w [.fresh]) [.fresh] (rowI n f) v := by
  rcases open_slice1 Try.underlying22 (by kernel_rfl) h with ⟨e, -⟩ | ⟨a, len, cap, m, n, V, D, Pl, e, hb, hl, hm, hmm, -, hx⟩
  · simp only [List.cons.injEq, and_true] at e
    subst e
    refine ⟨0, fun _ => 0, ?_⟩
    simp only [rowI, Rep]
    exact .inl (by simp)
  · simp only [List.cons.injEq, and_true] at e
    subst e
    simp only [if_true] at hmm
    subst hmm
    have hspot : a.spot = none := by
      simp only [Cell.okWide, Cell.ok, Try.underlying22] at hval
      exact hval.2.2.2.1
    have each : ∀ i, i < len → ∃ x : Int, V i = .int .i64 x := fun i hi => by
      obtain ⟨x, h1, -, -⟩ := DataW.trod_int Try.underlying3 (hx i (by omega)).2
      simp only [List.cons.injEq, and_true] at h1
      exact ⟨x, h1⟩
    obtain ⟨f, hf⟩ := choose_lt each
    refine ⟨len, f, ?_⟩
    obtain ⟨blk, o, sp⟩ := a
    simp only at hspot
    subst hspot
    simp only [rowI, Rep]
    refine .inr ⟨blk, o, _, rfl, hl, fun i hi => ?_⟩
    simp only [RepC, and_true]
    refine ⟨.int .i64 (f i), see_cell ?_, rfl⟩
    rw [← hf i hi, ← (hx i (by omega)).1, Nat.mul_one, add_none]
instance : Inhabited Camp := ⟨⟨0, 0, 0, 0, 0, 0, 0⟩⟩
theorem camps_open {fuel b0 : Nat} {v : Value} {y : DataW H × List MemPlace} (hval : Cell.okWide Try.prog w .any b0 25 v) (h : DataW.trod enc Try.prog w 0 (fun _ => true) true fuel 25 [v] = some y) :
    ∃ (n : Nat) (f : Nat → Camp), Rep noCust (mask noCust w [.fresh]) [.fresh] (rowC n f) v := by
  have hc7 : Try.prog.cellsOf 69 = 7 := by kernel_rfl
  have hc1 : Try.prog.cellsOf 3 = 1 := by kernel_rfl
  rcases open_slice Try.underlying25 h with ⟨e, -⟩ | ⟨a, len, cap, m, n, D, Pl, e, hb, hl, hm, hmm, -, hx⟩
  · simp only [List.cons.injEq, and_true] at e
    subst e
    refine ⟨0, fun _ => default, ?_⟩
    simp only [rowC, Rep]
    exact .inl (by simp)
  · simp only [List.cons.injEq, and_true] at e
    subst e
    simp only [if_true] at hmm
    subst hmm
    have hspot : a.spot = none := by
      simp only [Cell.okWide, Cell.ok, Try.underlying25] at hval
      exact hval.2.2.2.1
    obtain ⟨blk, o, sp⟩ := a
    simp only at hspot
    subst hspot
    have each : ∀ i, i < len → ∃ c : Camp, ∀ j d, (campD c)[j]? = some d → ∃ x, w.cell? ⟨blk, o + i * 7 + j, none⟩ = some x ∧ d = .val x := fun i hi => by
      obtain ⟨cs, h1, h2⟩ := hx i (by omega)
      rw [hc7] at h1
      obtain ⟨-, hlen, hcell⟩ := World.cells?_some h1
      obtain ⟨xs, k, -, -, -, hxl, hf⟩ := DataW.trod_struct Try.underlying69 h2
      have one : ∀ j, j < 7 → ∃ z : Int, cs[j]? = some (.int .i64 z) := fun j hj => by
        have hj2 : ∃ f : Field, (#[{ name := "Customer", type := 3, offset := 0, embedded := false, tag := "", pkgPath := "", byteOffset := 0 }, { name := "Prepare", type := 3, offset := 1, embedded := false, tag := "", pkgPath := "", byteOffset := 8 }, { name := "Hours", type := 3, offset := 2, embedded := false, tag := "", pkgPath := "", byteOffset := 16 }, { name := "Energy", type := 3, offset := 3, embedded := false, tag := "", pkgPath := "", byteOffset := 24 }, { name := "Early", type := 3, offset := 4, embedded := false, tag := "", pkgPath := "", byteOffset := 32 }, { name := "Late", type := 3, offset := 5, embedded := false, tag := "", pkgPath := "", byteOffset := 40 }, { name := "Weight", type := 3, offset := 6, embedded := false, tag := "", pkgPath := "", byteOffset := 48 }] : Array Field)[j]? = some f ∧ f.type = 3 ∧ f.offset = j := by
          rcases j with _ | _ | _ | _ | _ | _ | _ | j
          all_goals first | exact ⟨_, rfl, rfl, rfl⟩ | omega
        obtain ⟨f, hf1, hf2, hf3⟩ := hj2
        have := hf j f hf1
        rw [hf2, hf3, hc1] at this
        have hxj : xs[j]? = some (xs[j]'(by rw [hxl]; exact hj)) := List.getElem?_eq_getElem _
        rw [hxj] at this
        obtain ⟨z, hz, -, -⟩ := DataW.trod_int Try.underlying3 this
        refine ⟨z, ?_⟩
        have h3 : (List.take 1 (List.drop j cs))[0]? = some (.int .i64 z) := by rw [hz]; rfl
        rw [List.getElem?_take_of_lt (by omega), List.getElem?_drop] at h3
        simpa using h3
      obtain ⟨z0, e0⟩ := one 0 (by omega)
      obtain ⟨z1, e1⟩ := one 1 (by omega)
      obtain ⟨z2, e2⟩ := one 2 (by omega)
      obtain ⟨z3, e3⟩ := one 3 (by omega)
      obtain ⟨z4, e4⟩ := one 4 (by omega)
      obtain ⟨z5, e5⟩ := one 5 (by omega)
      obtain ⟨z6, e6⟩ := one 6 (by omega)
      have cell : ∀ j, j < 7 → w.cell? ⟨blk, o + i * 7 + j, none⟩ = cs[j]? := fun j hj => by
        rw [← hcell j hj, add_none, add_none]
      refine ⟨⟨z0, z1, z2, z3, z4, z5, z6⟩, fun j d hd => ?_⟩
      rcases j with _ | _ | _ | _ | _ | _ | _ | j
      · cases hd; exact ⟨_, (cell 0 (by omega)).trans e0, rfl⟩
      · cases hd; exact ⟨_, (cell 1 (by omega)).trans e1, rfl⟩
      · cases hd; exact ⟨_, (cell 2 (by omega)).trans e2, rfl⟩
      · cases hd; exact ⟨_, (cell 3 (by omega)).trans e3, rfl⟩
      · cases hd; exact ⟨_, (cell 4 (by omega)).trans e4, rfl⟩
      · cases hd; exact ⟨_, (cell 5 (by omega)).trans e5, rfl⟩
      · cases hd; exact ⟨_, (cell 6 (by omega)).trans e6, rfl⟩
      · simp [campD] at hd
    obtain ⟨f, hf⟩ := choose_lt each
    refine ⟨len, f, ?_⟩
    simp only [rowC, Rep]
    refine .inr ⟨blk, o, _, rfl, hl, fun i hi => ?_⟩
    have key : ∀ (ds : List Ev.D) (k : Nat), (∀ j d, ds[j]? = some d → ∃ x, w.cell? ⟨blk, k + j, none⟩ = some x ∧ d = .val x) → RepC noCust (mask noCust w [.fresh]) [.fresh] ds blk k := by
      intro ds
      induction ds with
      | nil => intro k _; trivial
      | cons d ds ih =>
        intro k hk
        obtain ⟨x, hx, rfl⟩ := hk 0 d rfl
        refine ⟨⟨x, see_cell hx, rfl⟩, ih (k + 1) fun j d' hd => ?_⟩
        obtain ⟨x', hx', e⟩ := hk (j + 1) d' hd
        exact ⟨x', by rw [← hx']; congr 2; omega, e⟩
    exact key _ _ (hf i hi)
theorem i_open {fuel : Nat} {v : Value} {y : DataW H × List MemPlace} (h : DataW.trod enc Try.prog w 0 (fun _ => true) true fuel 3 [v] = some y) : ∃ x : Int, v = .int .i64 x := by
  obtain ⟨x, h1, -, -⟩ := DataW.trod_int Try.underlying3 h
  simp only [List.cons.injEq, and_true] at h1
  exact ⟨x, h1⟩
theorem hall_open {b0 : Nat} {v : Value} {d : DataW H} {p : List MemPlace} (hval : Value.okWide Try.prog w .any b0 24 v) (h : DataW.Trod enc Try.prog w 0 (fun _ => true) true 24 v d p) :
    ∃ x : Hall, Rep noCust (mask noCust w [.fresh]) [.fresh] (.agg (hallD x)) v := by
  obtain ⟨v0, v1, v2, v3, y0, y1, y2, y3, n, rfl, -, -, h0, h1, h2, h3⟩ := open_agg4 Try.underlying24 (by kernel_rfl) (by kernel_rfl) hval h
  simp only [Value.okWide, Try.underlying24] at hval
  obtain ⟨cs, e, hsz, ts, hts, -, hcell⟩ := hval
  cases e
  obtain rfl : ts = [3, 3, 22, 22] := by
    have : Try.prog.cellTypes Try.prog.depth 24 = some [3, 3, 22, 22] := by kernel_rfl
    rw [this] at hts
    exact (Option.some.inj hts).symm
  obtain ⟨a, rfl⟩ := i_open h0
  obtain ⟨b, rfl⟩ := i_open h1
  obtain ⟨u, hu, ok2⟩ := hcell 2 v2 rfl
  obtain rfl : 22 = u := Option.some.inj hu
  obtain ⟨u, hu, ok3⟩ := hcell 3 v3 rfl
  obtain rfl : 22 = u := Option.some.inj hu
  obtain ⟨n2, f2, r2⟩ := ints_open ok2 h2
  obtain ⟨n3, f3, r3⟩ := ints_open ok3 h3
  refine ⟨⟨a, b, n2, f2, n3, f3⟩, ?_⟩
  simp only [hallD, Rep, RepL]
  exact ⟨[.int .i64 a, .int .i64 b, v2, v3], rfl, _, _, rfl, rfl, _, _, rfl, rfl, _, _, rfl, r2, _, _, rfl, r3, rfl⟩
end
end Go.Proofs.Ytmekepomgofiaaa
end
