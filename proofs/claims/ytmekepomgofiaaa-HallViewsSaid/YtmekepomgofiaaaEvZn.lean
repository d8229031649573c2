import Derived.Test.YtmekepomgofiaaaEvZm
set_option linter.all false
namespace Go.Ev
/-! ### Arguments seen as nobody's, with conditions in the place of tests -/
theorem nfA (a : Nat) : addN 0 a = a := rfl
theorem nfM (a : Nat) : mulN a 1 = a := rfl
theorem nfM2 (a : Nat) : mulN a 2 = a * 2 := rfl
theorem nfM3 (a : Nat) : mulN a 3 = a * 3 := rfl
theorem nfM4 (a : Nat) : mulN a 4 = a * 4 := rfl
theorem nfM5 (a : Nat) : mulN a 5 = a * 5 := rfl
theorem nfM6 (a : Nat) : mulN a 6 = a * 6 := rfl
theorem nfM7 (a : Nat) : mulN a 7 = a * 7 := rfl
theorem nfM8 (a : Nat) : mulN a 8 = a * 8 := rfl
theorem nfM9 (a : Nat) : mulN a 9 = a * 9 := rfl
theorem nfM10 (a : Nat) : mulN a 10 = a * 10 := rfl
theorem nfM11 (a : Nat) : mulN a 11 = a * 11 := rfl
theorem nfM12 (a : Nat) : mulN a 12 = a * 12 := rfl
noncomputable section
def andO : Option Prop → Option Prop → Option Prop
  | none, q => q
  | some p, none => some p
  | some p, some q => some (p ∧ q)
def holdsO (p : Option Prop) : Prop := ∀ q, p = some q → q
theorem holdsO_and {p q : Option Prop} (h : holdsO (andO p q)) : holdsO p ∧ holdsO q := by
  cases p with
  | none => exact ⟨fun _ h => (by cases h), h⟩
  | some p =>
    cases q with
    | none => exact ⟨h, fun _ h => (by cases h)⟩
    | some q =>
      have := h _ rfl
      exact ⟨fun _ e => (by cases e; exact this.1), fun _ e => (by cases e; exact this.2)⟩
def mapO (g : D → Option (Option Prop × D)) : List D → Option (Option Prop × List D)
  | [] => some (none, [])
  | d :: l => match g d with
    | some (p, e) => match mapO g l with
      | some (q, r) => some (andO p q, e :: r)
      | none => none
    | none => none
def cutC (cs : List D) (off k i : Nat) : List D := takeG (dropG cs (addN off (mulN i k))) k
def seeS (hp : List Blk) : Nat → D → Option (Option Prop × D)
  | 0, _ => none
  | n + 1, d => match d with
    | .any => some (none, .any)
    | .val v => some (none, .val v)
    | .cust t q => some (none, .cust t q)
    | .emp z => some (none, .emp z)
    | .row k len f => some (some (∀ i, i < len → freeL (f i)), .row k len f)
    | .ref cs off => match mapO (seeS hp n) cs with | some (p, cs') => some (p, .ref cs' off) | none => none
    | .sl id off len k _ => match getG hp id with
      | some (.arr m f) => some (some (off + len * k ≤ m ∧ ∀ j, j < m → freeD (f j)), .row k len fun i => tabF f (addN off (mulN i k)) k)
      | some (.cells cs) => match Nat.ble (off + len * k) (lenG cs) with
        | true => match mapO (seeS hp n) cs with
          | some (p, cs') => some (p, .row k len (cutC cs' off k))
          | none => none
        | false => none
      | _ => none
    | .ptr id off => match getG hp id with
      | some (.cells cs) => match mapO (seeS hp n) cs with
        | some (p, cs') => some (p, .ref cs' off)
        | none => none
      | _ => none
    | .agg ds => match mapO (seeS hp n) ds with | some (p, ds') => some (p, .agg ds') | none => none
    | .tup ds => match mapO (seeS hp n) ds with | some (p, ds') => some (p, .tup ds') | none => none
    | .fn f a b => match mapO (seeS hp n) a with
      | some (p, a') => match mapO (seeS hp n) b with
        | some (q, b') => some (andO p q, .fn f a' b')
        | none => none
      | none => none
    | .iface t d => match seeS hp n d with | some (p, d') => some (p, .iface t d') | none => none
    | .map _ => none
end
section
variable {K : Cust} {P : Program} {w w' : World} {ρ : List Own} {hp : List Blk} {nid : Nat}
theorem mapO_get {g : D → Option (Option Prop × D)} : ∀ {l r : List D} {p : Option Prop}, mapO g l = some (p, r) → holdsO p → l.length = r.length ∧ ∀ (i : Nat) (e : D), r[i]? = some e → ∃ d q, l[i]? = some d ∧ g d = some (q, e) ∧ holdsO q
  | [], r, p, h, _ => by
    simp only [mapO] at h
    cases h
    exact ⟨rfl, fun i e hi => by simp at hi⟩
  | d :: l, r, p, h, hp => by
    simp only [mapO] at h
    split at h
    · rename_i p1 e1 h1
      split at h
      · rename_i q1 r1 h2
        cases h
        obtain ⟨k1, k2⟩ := holdsO_and hp
        obtain ⟨g1, g2⟩ := mapO_get h2 k2
        refine ⟨by simp [g1], fun i e hi => ?_⟩
        cases i with
        | zero => simp at hi; subst hi; exact ⟨d, p1, by simp, h1, k1⟩
        | succ i => simpa using g2 i e (by simpa using hi)
      · cases h
    · cases h
theorem addmul {off i k : Nat} : addN off (mulN i k) = off + i * k := by
  unfold addN mulN
  cases h : Nat.beq k 1 with
  | true =>
    obtain rfl := Nat.eq_of_beq_eq_true h
    cases off <;> simp
  | false => cases off <;> simp
theorem tabF_at {f : Nat → D} : ∀ {k off j : Nat} {d : D}, (tabF f off k)[j]? = some d → j < k ∧ d = f (off + j)
  | 0, off, j, d, h => by simp [tabF] at h
  | k + 1, off, j, d, h => by
    simp only [tabF] at h
    cases j with
    | zero => simp at h; exact ⟨by omega, h.symm⟩
    | succ j =>
      obtain ⟨h1, h2⟩ := tabF_at (k := k) (off := off + 1) (j := j) (by simpa using h)
      exact ⟨by omega, by rw [h2]; congr 1; omega⟩
theorem seeS_ok (hk : OK K w ρ hp) : ∀ (n : Nat) (d d' : D) (v : Value) (p : Option Prop), Rep K (mask K w ρ) ρ d v → seeS hp n d = some (p, d') → holdsO p → Rep K (mask K w [.fresh]) [.fresh] d' v
  | 0, d, d', v, p, h, hs, _ => by simp [seeS] at hs
  | n + 1, d, d', v, p, h, hs, hq => by
    have ih := seeS_ok hk n
    have ihL : ∀ {ds ds' : List D} {vs : List Value} {p : Option Prop}, mapO (seeS hp n) ds = some (p, ds') → holdsO p → RepL K (mask K w ρ) ρ ds vs → RepL K (mask K w [.fresh]) [.fresh] ds' vs := fun {ds ds' vs p} hm hp hl => by
      obtain ⟨g1, g2⟩ := mapO_get hm hp
      refine repL_of (by rw [← g1]; exact repL_length hl) fun i e hi => ?_
      obtain ⟨d, q, q1, q2, q3⟩ := g2 i e hi
      obtain ⟨u, q4, q5⟩ := repL_get hl q1
      exact ⟨u, q4, ih d e u q q5 q2 q3⟩
    have ihB : ∀ {id b m : Nat} {cs cs' : List D} {p : Option Prop}, own ρ id = .live b m → RepB K w (mask K w ρ) ρ (.live b m) (.cells cs) → mapO (seeS hp n) cs = some (p, cs') → holdsO p → Reads K (mask K w [.fresh]) (mask K w [.fresh]) [.fresh] cs' b 0 := fun {id b m cs cs' p} ho hB hm hp => by
      obtain ⟨vs, ty, q1, q2, q3⟩ := hB
      have hcell := see_own q1 (hk.apart id b m (own_live ho))
      obtain ⟨g1, g2⟩ := mapO_get hm hp
      intro j e hj
      obtain ⟨d, q, k1, k2, k3⟩ := g2 j e hj
      obtain ⟨x, k4, k5⟩ := q3 j d k1
      exact ⟨x, by rw [cell_of hcell, Nat.zero_add]; exact k4, ih d e x q k5 k2 k3⟩
    cases d with
    | any => simp only [seeS] at hs; cases hs; trivial
    | val x => simp only [seeS] at hs; cases hs; simpa only [Rep] using h
    | cust t q => simp only [seeS] at hs; cases hs; simp only [Rep] at *; exact K.mono _ _ _ _ _ see_sub h
    | emp z => simp only [seeS] at hs; cases hs; simpa only [Rep] using h
    | map id => simp [seeS] at hs
    | row k len f =>
      simp only [seeS] at hs
      cases hs
      have hf := hq _ rfl
      simp only [Rep] at *
      exact h.imp id fun ⟨b, o, c, h1, h2, h3⟩ => ⟨b, o, c, h1, h2, fun i hi => RepC.free (K := K) (K' := K) see_sub (fun t q v hc => K.mono _ _ _ _ _ see_sub hc) (f i) b _ (hf i hi) (h3 i hi)⟩
    | ref cs off =>
      simp only [seeS] at hs
      split at hs
      · rename_i p' cs' hm
        cases hs
        obtain ⟨g1, g2⟩ := mapO_get hm hq
        simp only [Rep] at *
        obtain ⟨b, o, h1, h2⟩ := h
        refine ⟨b, o, h1, reads_C fun j e hj => ?_⟩
        obtain ⟨d, q, k1, k2, k3⟩ := g2 j e hj
        obtain ⟨x, k4, k5⟩ := repC_reads (w := mask K w ρ) (fun _ _ _ _ h => h) h2 j d k1
        exact ⟨x, see_sub.cell k4, ih d e x q k5 k2 k3⟩
      · cases hs
    | sl id off len k cap =>
      simp only [seeS] at hs
      split at hs
      · rename_i m f hg
        cases hs
        obtain ⟨hle, hf⟩ := hq _ rfl
        obtain ⟨b, N, ho, hB⟩ := own_block hk hg (by intro e; cases e)
        simp only [Rep, ho] at h ⊢
        obtain ⟨c, rfl, hlc, _⟩ := h
        obtain ⟨vs, ty, q1, q2, q3, q4⟩ := hB
        have hcell := see_own q1 (hk.apart id b N (own_live ho))
        refine .inr ⟨b, off, c, rfl, hlc, fun i hi => reads_C fun j e hj => ?_⟩
        rw [addmul] at hj
        obtain ⟨hjk, rfl⟩ := tabF_at hj
        have hb : off + i * k + j < m := by
          have : (i + 1) * k ≤ len * k := Nat.mul_le_mul_right k hi
          rw [Nat.add_mul, Nat.one_mul] at this
          omega
        obtain ⟨x, p1, p2⟩ := q4 _ hb
        exact ⟨x, by rw [cell_of hcell]; exact p1, Rep.free (K := K) (K' := K) see_sub (fun t q v hc => K.mono _ _ _ _ _ see_sub hc) _ x (hf _ hb) p2⟩
      · rename_i cs hg
        split at hs
        · rename_i hle
          split at hs
          · rename_i p' cs' hm
            cases hs
            obtain ⟨b, N, ho, hB⟩ := own_block hk hg (by intro e; cases e)
            have hrd := ihB ho hB hm hq
            simp only [Rep, ho] at h ⊢
            obtain ⟨c, rfl, hlc, _⟩ := h
            refine .inr ⟨b, off, c, rfl, hlc, fun i hi => reads_C fun j e hj => ?_⟩
            unfold cutC at hj
            rw [takeG_eq, dropG_eq, addmul, List.getElem?_take] at hj
            split at hj
            · rw [List.getElem?_drop] at hj
              have := hrd _ e hj
              rw [Nat.zero_add] at this
              exact this
            · cases hj
          · cases hs
        · cases hs
      · cases hs
    | ptr id off =>
      simp only [seeS] at hs
      split at hs
      · rename_i cs hg
        split at hs
        · rename_i p' cs' hm
          cases hs
          obtain ⟨b, N, ho, hB⟩ := own_block hk hg (by intro e; cases e)
          have hrd := ihB ho hB hm hq
          simp only [Rep, ho] at h ⊢
          exact ⟨b, 0, by rw [Nat.zero_add]; exact h, reads_C hrd⟩
        · cases hs
      · cases hs
    | agg ds =>
      simp only [seeS] at hs
      split at hs
      · rename_i p' ds' hm
        cases hs
        simp only [Rep] at *
        obtain ⟨vs, rfl, h2⟩ := h
        exact ⟨vs, rfl, ihL hm hq h2⟩
      · cases hs
    | tup ds =>
      simp only [seeS] at hs
      split at hs
      · rename_i p' ds' hm
        cases hs
        simp only [Rep] at *
        obtain ⟨vs, rfl, h2⟩ := h
        exact ⟨vs, rfl, ihL hm hq h2⟩
      · cases hs
    | fn f a b =>
      simp only [seeS] at hs
      split at hs
      · rename_i p1 a' ha
        split at hs
        · rename_i p2 b' hb
          cases hs
          obtain ⟨k1, k2⟩ := holdsO_and hq
          simp only [Rep] at *
          obtain ⟨x, y, rfl, h1, h2⟩ := h
          exact ⟨x, y, rfl, ihL ha k1 h1, ihL hb k2 h2⟩
        · cases hs
      · cases hs
    | iface t d =>
      simp only [seeS] at hs
      split at hs
      · rename_i p' d' hd
        cases hs
        simp only [Rep] at *
        obtain ⟨x, rfl, h2⟩ := h
        exact ⟨x, rfl, ih d d' x _ h2 hd hq⟩
      · cases hs
/-- what names no cell -/
def isPl : D → Bool
  | .val _ => true
  | .agg ds => allVal ds
  | .tup ds => allVal ds
  | _ => false
theorem isPl_rep {M M' : World} {ρ ρ' : List Own} {d : D} {v : Value} (h : isPl d = true) (hr : Rep K M ρ d v) : Rep K M' ρ' d v := by
  cases d with
  | val x => simpa only [Rep] using hr
  | agg ds =>
    simp only [Rep] at *
    obtain ⟨vs, rfl, h2⟩ := hr
    exact ⟨vs, rfl, repL_allVal h h2⟩
  | tup ds =>
    simp only [Rep] at *
    obtain ⟨vs, rfl, h2⟩ := hr
    exact ⟨vs, rfl, repL_allVal h h2⟩
  | _ => cases h
theorem Res.unseeD {d : D} {v : Value} (hd : isPl d = true) (h : Res K w [.fresh] [.dead] 0 ⟨none, d, [], []⟩ v w') (p : Option Prop) : Res K w ρ hp nid ⟨p, d, [], []⟩ v w' := by
  obtain ⟨ρ1, h1, h2⟩ := h
  have hkeep : ∀ b : Nat, b < w.heap.size → w'.heap[b]? = w.heap[b]? := fun b hb => h2.keep b hb fun i n hi => by cases i <;> simp at hi
  exact ⟨ρ, isPl_rep hd h1, Eff.foreign h2.size hkeep h2.env⟩
/-- a table of one function, told alone, its arguments seen as nobody's; its result names no cell -/
noncomputable def seeC (g : FuncId) (r : List D → Option (Option Prop × D)) (f : FuncId) (ds : List D) (hp : List Blk) (_ : Nat) : Option Out := match Nat.beq f g with
  | true => match mapO (seeS hp 6) ds with
    | some (p, ds') => match r ds' with
      | some (q, d) => match isPl d with
        | true => some ⟨andO p q, d, [], []⟩
        | false => none
      | none => none
    | none => none
  | false => none
theorem seeC_ok {g : FuncId} {r : List D → Option (Option Prop × D)} (henter : ∀ args w, (callFunc g args).run P w = .ok (.enter g args) w)
    (h : ∀ ds p d, r ds = some (p, d) → holdsO p → ∃ ds', Less ds ds' ∧ Alone P g ds' d) : ClOK K P (seeC g r) := by
  intro f ds hp nid out ho hc
  unfold seeC at ho
  split at ho
  · rename_i hfg
    obtain rfl := Nat.eq_of_beq_eq_true hfg
    split at ho
    · rename_i p ds' hds
      split at ho
      · rename_i q d hr
        split at ho
        · rename_i hpl
          obtain rfl := (Option.some.inj ho).symm
          obtain ⟨k1, k2⟩ := holdsO_and (p := p) (q := q) hc
          refine ⟨henter, fun w ρ args hk hrep hn => ?_⟩
          obtain ⟨ds2, hl, hA⟩ := h ds' q d hr k2
          obtain ⟨m1, m2⟩ := mapO_get hds k1
          have hlen := repL_length hrep
          have hr' : RepL K (mask K w [.fresh]) [.fresh] ds' args := repL_of (by omega) fun i e he => by
            obtain ⟨d0, q0, e1, e2, e3⟩ := m2 i e he
            obtain ⟨u, hu, hru⟩ := repL_get hrep e1
            exact ⟨u, hu, seeS_ok hk 6 d0 e u q0 hru e2 e3⟩
          refine (hA K w args hk.see (hl K _ _ _ hr')).mono fun e w' hx => ?_
          obtain ⟨x, rfl, hres⟩ := hx
          exact ⟨x, rfl, hres.unseeD hpl _⟩
        · cases ho
      · cases ho
    · cases ho
  · cases ho
/-- a table of one function, told alone; its arguments name no own block -/
noncomputable def aloC (g : FuncId) (r : List D → Option (Option Prop × D)) : FuncId → List D → List Blk → Nat → Option Out :=
  oneCl g fun ds _ _ => match r ds with | some (p, d) => some ⟨p, d, [], []⟩ | none => none
theorem aloC_ok {g : FuncId} {r : List D → Option (Option Prop × D)} (henter : ∀ args w, (callFunc g args).run P w = .ok (.enter g args) w)
    (h : ∀ ds p d, r ds = some (p, d) → holdsO p → ∃ ds', Less ds ds' ∧ freeL ds' ∧ freeD d ∧ Alone P g ds' d) : ClOK K P (aloC g r) :=
  ClOK.one (Alone.contract' henter r h)
end
end Go.Ev
