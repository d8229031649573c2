import Derived.Test.YtmekepomgofiaaaEvZ
set_option linter.all false
namespace Go.Ev
/-! ### With letters: what must hold so that a statement, from a state, ends in Q -/
noncomputable section
def iteP (b : Bool) (A B : Prop) : Prop := match b with
  | true => A
  | false => B
def clean (s : St) : St := ⟨True, s.sl, s.hp, s.base, s.wr⟩
def withP (p : Option Prop) (k : Prop) : Prop := match p with
  | none => k
  | some q => q ∧ k
def someP (r : Option St) (k : St → Prop) : Prop := match r with
  | some s => k (clean s)
  | none => False
def outP (o : AOper) (s : St) (nid : Nat) (r : Option Out) (k : St → Prop) : Prop := match r with
  | some out => withP out.p (someP (finS o s nid out) k)
  | none => False
def pickP (o : AOper) (s : St) (nid : Nat) (c : D) (a b : D) (k : St → Prop) : Prop := match c with
  | .val (.bool t) => iteP t (someP (finS o s nid ⟨none, a, [], []⟩) k) (someP (finS o s nid ⟨none, b, [], []⟩) k)
  | _ => False
def doP (cl : FuncId → List D → List Blk → Nat → Option Out) (n0 : Nat) (o : AOper) (s : St) (k : St → Prop) : Prop := match o.op with
  | .pick c a b => pickP o s (n0 + o.rank) (evO s.sl c) (evO s.sl a) (evO s.sl b) k
  | op => outP o s (n0 + o.rank) (core true cl s.sl (hideK n0 o.hide s.hp) (n0 + o.rank) op) k
def ifP (b : Option Bool) (x y : Prop) : Prop := match b with
  | some b => iteP b x y
  | none => False
def awO (cl : FuncId → List D → List Blk → Nat → Option Out) (n0 : Nat) (o : AOper) (s : St) (k : St → Prop) : Prop := match o.guard with
  | none => doP cl n0 o s k
  | some g => ifP (yes s.sl (some g)) (doP cl n0 o s k) (someP (setT s.sl o.dst undefD fun sl => some ⟨s.p, sl, s.hp, s.base, s.wr⟩) k)
def awR (cl : FuncId → List D → List Blk → Nat → Option Out) (n0 : Nat) (l : List AOper) : St → (St → Prop) → Prop :=
  @List.rec AOper (fun _ => St → (St → Prop) → Prop) (fun s k => k s) (fun o _ ih s k => awO cl n0 o s (fun s => ih s k)) l
def thenP (k : St → Prop) (Q : Ex → St → Prop) (e : Ex) (s : St) : Prop := match e with
  | .normal => k s
  | e => Q e s
def blockP (i : Nat) (Q : Ex → St → Prop) (e : Ex) (s : St) : Prop := match e with
  | .exit j => match Nat.beq j i with | true => Q .normal s | false => Q (.exit j) s
  | e => Q e s
def testP (d : D) (x y : Prop) : Prop := match d with
  | .val (.bool t) => iteP t x y
  | _ => False
def regP (cl : FuncId → List D → List Blk → Nat → Option Out) (ops : List AOper) (n : Nat) (s : St) (k : St → Prop) : Prop :=
  match growS s.hp (deads n) fun hp => some ⟨s.p, s.sl, hp, s.base, s.wr⟩ with
  | some s' => awR cl (lenG s.hp) ops s' k
  | none => False
def aw (cl : FuncId → List D → List Blk → Nat → Option Out) (LP : ACode → St → (Ex → St → Prop) → Prop) : ACode → St → (Ex → St → Prop) → Prop
  | .skip => fun s Q => Q .normal s
  | .region ops n => fun s Q => regP cl ops n s (Q .normal)
  | .seq a b => fun s Q => aw cl LP a s (thenP (fun s => aw cl LP b s Q) Q)
  | .cond c a b => fun s Q => testP (evO s.sl c) (aw cl LP a s Q) (aw cl LP b s Q)
  | .block i b => fun s Q => aw cl LP b s (blockP i Q)
  | .loop b => fun s Q => LP b s Q
  | .exit i => fun s Q => Q (.exit i) s
  | .ret => fun s Q => Q .ret s
end

section
variable {K : Cust} {P : Program} {w0 : World} {ρ0 : List Own} {hp0 : List Blk} {w : World} {ρ : List Own} {a : Act} {s s' : St} {cl : FuncId → List D → List Blk → Nat → Option Out}

theorem Inv.cond {p : Prop} (h : Inv K w0 ρ0 hp0 w ρ a s) : Inv K w0 ρ0 hp0 w ρ a ⟨p, s.sl, s.hp, s.base, s.wr⟩ :=
  ⟨h.size, h.keep, h.new, h.le, h.rlen, h.base, h.blen, h.same, h.hid, h.ok, h.fr, h.slots, h.defers, h.start, h.env⟩
theorem iteP_true {b : Bool} {A B : Prop} (h : iteP b A B) : (b = true ∧ A) ∨ (b = false ∧ B) := by
  cases b
  · exact .inr ⟨rfl, h⟩
  · exact .inl ⟨rfl, h⟩
theorem finS_p {o : AOper} {nid : Nat} {out : Out} {p : Prop} (h : finS o s nid out = some s') : ∃ s'', finS o ⟨p, s.sl, s.hp, s.base, s.wr⟩ nid out = some s'' ∧ clean s'' = clean s' ∧ s''.p = andP p out.p := by
  obtain ⟨hw, rfl⟩ := finS_cases h
  have : finS o ⟨p, s.sl, s.hp, s.base, s.wr⟩ nid out = some ⟨andP p out.p, setD s.sl o.dst out.d, app out.δ s.hp ++ out.grow, s.base, addW s.base out.δ s.wr⟩ := by
    unfold finS
    split
    · rename_i h1 h2
      rw [h1, h2]
      simp [app, addW]
    · have : (o.wrt || calm o nid out) = true := by simpa using hw
      rw [this]
      simp
  exact ⟨_, this, rfl, rfl⟩
/-- one operation with letters -/
theorem awO_stp {n0 : Nat} {o : AOper} {k : St → Prop} (h : awO cl n0 o s k) {p : Prop} (hp : p) : ∃ s', stp true cl n0 o ⟨p, s.sl, s.hp, s.base, s.wr⟩ = some s' ∧ s'.p ∧ k (clean s') := by
  have core' : ∀ {out : Out}, core true cl s.sl (hideL n0 o.hide s.hp) (n0 + o.rank) o.op = some out → withP out.p (someP (finS o s (n0 + o.rank) out) k) → ∃ s', doS true cl n0 o ⟨p, s.sl, s.hp, s.base, s.wr⟩ = some s' ∧ s'.p ∧ k (clean s') := fun {out} ho hq => by
    have hk : (∀ q, out.p = some q → q) ∧ someP (finS o s (n0 + o.rank) out) k := by
      unfold withP at hq
      split at hq
      · rename_i e; rw [e]; exact ⟨fun q h => (by cases h), hq⟩
      · rename_i q e; rw [e]; exact ⟨fun q' h => (by cases h; exact hq.1), hq.2⟩
    unfold someP at hk
    obtain ⟨h1, h2⟩ := hk
    split at h2
    · rename_i s1 hs1
      obtain ⟨s2, g1, g2, g3⟩ := finS_p (p := p) hs1
      refine ⟨s2, ?_, ?_, by rw [g2]; exact h2⟩
      · unfold doS someS
        rw [forceN_eq, hideK_eq]
        simp only [ho]
        exact g1
      · rw [g3]
        cases hq : out.p with
        | none => exact hp
        | some q => exact ⟨hp, h1 q hq⟩
    · exact h2.elim
  have dop : doP cl n0 o s k → ∃ s', doS true cl n0 o ⟨p, s.sl, s.hp, s.base, s.wr⟩ = some s' ∧ s'.p ∧ k (clean s') := fun h => by
    unfold doP at h
    split at h
    · rename_i c x y hop
      unfold pickP at h
      split at h
      · rename_i t ht
        rcases iteP_true h with ⟨rfl, h⟩ | ⟨rfl, h⟩
        · exact core' (out := ⟨none, evO s.sl x, [], []⟩) (by rw [hop]; simp only [core, coreF, c_pick, ht]; rfl) h
        · exact core' (out := ⟨none, evO s.sl y, [], []⟩) (by rw [hop]; simp only [core, coreF, c_pick, ht]; rfl) h
      · exact h.elim
    · unfold outP at h
      split at h
      · rename_i out ho
        rw [hideK_eq] at ho
        exact core' ho h
      · exact h.elim
  unfold awO at h
  unfold stp
  split at h
  · rename_i hg
    simp only [hg]
    exact dop h
  · rename_i g hg
    simp only [hg]
    unfold ifP at h
    split at h
    · rename_i b hb
      rw [hb]
      rcases iteP_true h with ⟨rfl, h⟩ | ⟨rfl, h⟩
      · exact dop h
      · simp only [setT_eq, someP] at h
        simp only [ifS, setT_eq]
        exact ⟨_, rfl, hp, h⟩
    · exact h.elim
theorem awR_stps {n0 : Nat} : ∀ (l : List AOper) (s : St) (k : St → Prop), awR cl n0 l s k → ∀ p : Prop, p → ∃ s', stps true cl n0 l ⟨p, s.sl, s.hp, s.base, s.wr⟩ = some s' ∧ s'.p ∧ ((∃ q, k ⟨q, s'.sl, s'.hp, s'.base, s'.wr⟩))
  | [], s, k, h, p, hp => ⟨_, stps_nil, hp, s.p, h⟩
  | o :: l, s, k, h, p, hp => by
    have h' : awO cl n0 o s (fun s => awR cl n0 l s k) := h
    obtain ⟨s1, h1, h2, h3⟩ := awO_stp h' hp
    obtain ⟨s2, g1, g2, g3⟩ := awR_stps l (clean s1) k h3 s1.p h2
    refine ⟨s2, ?_, g2, g3⟩
    rw [stps_cons, h1]
    exact g1

/-- what 'aw' says: from any world that is told by s the statement ends so -/
def AWP (K : Cust) (P : Program) (w0 : World) (ρ0 : List Own) (hp0 : List Blk) (c : Code) (s : St) (Q : Ex → St → Prop) : Prop :=
  ∀ (w : World) (ρ : List Own) (a : Act), Inv K w0 ρ0 hp0 w ρ a s → c.wp P (fun x a' w' => ∃ e s' ρ', x = exOf e ∧ Inv K w0 ρ0 hp0 w' ρ' a' s' ∧ Q e s') a w
def LoopA (K : Cust) (P : Program) (w0 : World) (ρ0 : List Own) (hp0 : List Blk) (b : ACode) (s : St) (Q : Ex → St → Prop) : Prop :=
  ∀ c, compC P c = some b → AWP K P w0 ρ0 hp0 (.loop c) s Q

theorem aw_ok (hm : P.follows .mixedOrders = true) (hcl : ClOK K P cl) : ∀ (c : Code) (ac : ACode) (s : St) (Q : Ex → St → Prop), compC P c = some ac → aw cl (LoopA K P w0 ρ0 hp0) ac s Q → AWP K P w0 ρ0 hp0 c s Q := by
  intro c
  induction c with
  | skip =>
    intro ac s Q hc h w ρ a hI
    simp only [compC] at hc
    obtain rfl := Option.some.inj hc
    exact wp_skip ⟨.normal, s, ρ, rfl, hI, h⟩
  | label l =>
    intro ac s Q hc h w ρ a hI
    simp only [compC] at hc
    obtain rfl := Option.some.inj hc
    exact wp_label ⟨.normal, s, ρ, rfl, hI, h⟩
  | exit i =>
    intro ac s Q hc h w ρ a hI
    simp only [compC] at hc
    obtain rfl := Option.some.inj hc
    exact wp_exit ⟨.exit i, s, ρ, rfl, hI, h⟩
  | ret =>
    intro ac s Q hc h w ρ a hI
    simp only [compC] at hc
    obtain rfl := Option.some.inj hc
    exact wp_ret ⟨.ret, s, ρ, rfl, hI, h⟩
  | region id ops dr =>
    intro ac s Q hc h w ρ a hI
    have key : ∀ (l : List AOper) (n : Nat), ac = .region l n → ∃ s' q, reg true cl l n ⟨True, s.sl, s.hp, s.base, s.wr⟩ = some s' ∧ s'.p ∧ Q .normal ⟨q, s'.sl, s'.hp, s'.base, s'.wr⟩ := fun l n e => by
      subst e
      have h : regP cl l n s (Q .normal) := h
      unfold regP at h
      simp only [growS_eq, lenG_eq] at h
      obtain ⟨s', g1, g2, q, g3⟩ := awR_stps l _ _ h True trivial
      refine ⟨s', q, ?_, g2, g3⟩
      unfold reg
      simp only [growS_eq, forceN_eq, lenG_eq]
      exact g1
    cases dr with
    | false =>
      simp only [compC] at hc
      split at hc
      · rename_i l n hl
        obtain rfl := Option.some.inj hc
        obtain ⟨s', q, h1, h2, h3⟩ := key l n rfl
        exact region_ok hcl hl hI.cond h1 h2 fun a' w' ρ' hI' => ⟨.normal, _, ρ', rfl, hI'.cond (p := q), h3⟩
      · cases hc
    | true =>
      simp only [compC] at hc
      split at hc
      · rename_i l n hl
        obtain rfl := Option.some.inj hc
        obtain ⟨s', q, h1, h2, h3⟩ := key l n rfl
        exact drawn_ok hm K cl id ops l n hcl hl true w0 ρ0 hp0 w ρ a _ s' hI.cond h1 h2 _ fun a' w' ρ' hI' => ⟨.normal, _, ρ', rfl, hI'.cond (p := q), h3⟩
      · cases hc
  | seq x y ihx ihy =>
    intro ac s Q hc h w ρ a hI
    simp only [compC] at hc
    split at hc
    · rename_i ax ay hx hy
      obtain rfl := Option.some.inj hc
      refine wp_seq (wp_mono (ihx ax s _ hx h w ρ a hI) fun x' a' w' he => ?_)
      obtain ⟨e, s', ρ', rfl, hI', hq⟩ := he
      cases e with
      | normal => exact ihy ay s' Q hy hq w' ρ' a' hI'
      | exit i => exact ⟨_, s', ρ', rfl, hI', hq⟩
      | ret => exact ⟨_, s', ρ', rfl, hI', hq⟩
    · cases hc
  | cond c x y ihx ihy =>
    intro ac s Q hc h w ρ a hI
    simp only [compC] at hc
    split at hc
    · rename_i ax ay hx hy
      obtain rfl := Option.some.inj hc
      have h : testP (evO s.sl c) (aw cl (LoopA K P w0 ρ0 hp0) ax s Q) (aw cl (LoopA K P w0 ρ0 hp0) ay s Q) := h
      unfold testP at h
      split at h
      · rename_i t ht
        have hb := evB hI.slots ht
        rcases iteP_true h with ⟨rfl, h⟩ | ⟨rfl, h⟩
        · exact wp_cond_true hb (ihx ax s Q hx h w ρ a hI)
        · exact wp_cond_false hb (ihy ay s Q hy h w ρ a hI)
      · exact h.elim
    · cases hc
  | block i b ih =>
    intro ac s Q hc h w ρ a hI
    simp only [compC] at hc
    split at hc
    · rename_i ab hb
      obtain rfl := Option.some.inj hc
      refine wp_block (wp_mono (ih ab s _ hb h w ρ a hI) fun x' a' w' he => ?_)
      obtain ⟨e, s', ρ', rfl, hI', hq⟩ := he
      cases e with
      | normal => exact ⟨.normal, s', ρ', rfl, hI', hq⟩
      | ret => exact ⟨.ret, s', ρ', rfl, hI', hq⟩
      | exit j =>
        simp only [exOf, Exit.inBlock]
        have hq : (match Nat.beq j i with | true => Q .normal s' | false => Q (.exit j) s') := hq
        split
        · rename_i e
          subst e
          rw [show Nat.beq j j = true from Nat.beq_refl j] at hq
          exact ⟨.normal, s', ρ', rfl, hI', hq⟩
        · rename_i e
          have : Nat.beq j i = false := by
            cases hb : Nat.beq j i with
            | false => rfl
            | true => exact absurd (Nat.eq_of_beq_eq_true hb) e
          rw [this] at hq
          exact ⟨.exit j, s', ρ', rfl, hI', hq⟩
    · cases hc
  | loop b ih =>
    intro ac s Q hc h
    simp only [compC] at hc
    split at hc
    · rename_i ab hb
      obtain rfl := Option.some.inj hc
      exact h b hb
    · cases hc
  | _ =>
    intro ac s Q hc
    simp [compC] at hc
end
end Go.Ev
