import Derived.Test.YtmekepomgofiaaaCS10
import Derived.Test.YtmekepomgofiaaaProg
import Derived.KernelRfl
import Derived.Test.YtmekepomgofiaaaCS09
set_option linter.all false
section
namespace Go.Ev
set_option linter.all false
theorem cf_11 : compF Go.Proofs.Try.prog 11 = some af_11 := by kernel_rfl
theorem cf_13 : compF Go.Proofs.Try.prog 13 = some af_13 := by kernel_rfl
theorem cf_14 : compF Go.Proofs.Try.prog 14 = some af_14 := by kernel_rfl
theorem cf_15 : compF Go.Proofs.Try.prog 15 = some af_15 := by kernel_rfl
theorem cf_16 : compF Go.Proofs.Try.prog 16 = some af_16 := by kernel_rfl
theorem cf_17 : compF Go.Proofs.Try.prog 17 = some af_17 := by kernel_rfl
theorem cf_18 : compF Go.Proofs.Try.prog 18 = some af_18 := by kernel_rfl
theorem cf_21 : compF Go.Proofs.Try.prog 21 = some af_21 := by kernel_rfl
theorem cf_25 : compF Go.Proofs.Try.prog 25 = some af_25 := by kernel_rfl
theorem cf_33 : compF Go.Proofs.Try.prog 33 = some af_33 := by kernel_rfl
theorem cf_42 : compF Go.Proofs.Try.prog 42 = some af_42 := by kernel_rfl
theorem cf_45 : compF Go.Proofs.Try.prog 45 = some af_45 := by kernel_rfl
theorem cf_46 : compF Go.Proofs.Try.prog 46 = some af_46 := by kernel_rfl
theorem cf_47 : compF Go.Proofs.Try.prog 47 = some af_47 := by kernel_rfl
theorem cf_48 : compF Go.Proofs.Try.prog 48 = some af_48 := by kernel_rfl
theorem cf_49 : compF Go.Proofs.Try.prog 49 = some af_49 := by kernel_rfl
theorem cf_50 : compF Go.Proofs.Try.prog 50 = some af_50 := by kernel_rfl
theorem cf_51 : compF Go.Proofs.Try.prog 51 = some af_51 := by kernel_rfl
theorem cf_52 : compF Go.Proofs.Try.prog 52 = some af_52 := by kernel_rfl
theorem cf_53 : compF Go.Proofs.Try.prog 53 = some af_53 := by kernel_rfl
theorem cf_54 : compF Go.Proofs.Try.prog 54 = some af_54 := by kernel_rfl
theorem cf_55 : compF Go.Proofs.Try.prog 55 = some af_55 := by kernel_rfl
theorem cf_57 : compF Go.Proofs.Try.prog 57 = some af_57 := by kernel_rfl
theorem cf_58 : compF Go.Proofs.Try.prog 58 = some af_58 := by kernel_rfl
theorem cf_59 : compF Go.Proofs.Try.prog 59 = some af_59 := by kernel_rfl
theorem cf_60 : compF Go.Proofs.Try.prog 60 = some af_60 := by kernel_rfl
theorem cf_61 : compF Go.Proofs.Try.prog 61 = some af_61 := by kernel_rfl
theorem cf_65 : compF Go.Proofs.Try.prog 65 = some af_65 := by kernel_rfl
theorem cf_66 : compF Go.Proofs.Try.prog 66 = some af_66 := by kernel_rfl
theorem cf_71 : compF Go.Proofs.Try.prog 71 = some af_71 := by kernel_rfl
theorem cf_72 : compF Go.Proofs.Try.prog 72 = some af_72 := by kernel_rfl
theorem cf_73 : compF Go.Proofs.Try.prog 73 = some af_73 := by kernel_rfl
theorem cf_74 : compF Go.Proofs.Try.prog 74 = some af_74 := by kernel_rfl
theorem cf_78 : compF Go.Proofs.Try.prog 78 = some af_78 := by kernel_rfl
theorem cf_79 : compF Go.Proofs.Try.prog 79 = some af_79 := by kernel_rfl
theorem cf_80 : compF Go.Proofs.Try.prog 80 = some af_80 := by kernel_rfl
theorem cf_81 : compF Go.Proofs.Try.prog 81 = some af_81 := by kernel_rfl
theorem cf_82 : compF Go.Proofs.Try.prog 82 = some af_82 := by kernel_rfl
theorem cf_83 : compF Go.Proofs.Try.prog 83 = some af_83 := by kernel_rfl
theorem cf_84 : compF Go.Proofs.Try.prog 84 = some af_84 := by kernel_rfl
theorem cf_85 : compF Go.Proofs.Try.prog 85 = some af_85 := by kernel_rfl
theorem cf_86 : compF Go.Proofs.Try.prog 86 = some af_86 := by kernel_rfl
theorem cf_87 : compF Go.Proofs.Try.prog 87 = some af_87 := by kernel_rfl
theorem cf_88 : compF Go.Proofs.Try.prog 88 = some af_88 := by kernel_rfl
theorem cf_89 : compF Go.Proofs.Try.prog 89 = some af_89 := by kernel_rfl
theorem cf_90 : compF Go.Proofs.Try.prog 90 = some af_90 := by kernel_rfl
theorem cf_91 : compF Go.Proofs.Try.prog 91 = some af_91 := by kernel_rfl
theorem cf_92 : compF Go.Proofs.Try.prog 92 = some af_92 := by kernel_rfl
theorem cf_95 : compF Go.Proofs.Try.prog 95 = some af_95 := by kernel_rfl
theorem cf_96 : compF Go.Proofs.Try.prog 96 = some af_96 := by kernel_rfl
theorem cf_97 : compF Go.Proofs.Try.prog 97 = some af_97 := by kernel_rfl
theorem cf_98 : compF Go.Proofs.Try.prog 98 = some af_98 := by kernel_rfl
theorem cf_99 : compF Go.Proofs.Try.prog 99 = some af_99 := by kernel_rfl
theorem cf_100 : compF Go.Proofs.Try.prog 100 = some af_100 := by kernel_rfl
theorem cf_101 : compF Go.Proofs.Try.prog 101 = some af_101 := by kernel_rfl
theorem cf_102 : compF Go.Proofs.Try.prog 102 = some af_102 := by kernel_rfl
theorem cf_103 : compF Go.Proofs.Try.prog 103 = some af_103 := by kernel_rfl
theorem cf_104 : compF Go.Proofs.Try.prog 104 = some af_104 := by kernel_rfl
theorem cf_105 : compF Go.Proofs.Try.prog 105 = some af_105 := by kernel_rfl
theorem cf_106 : compF Go.Proofs.Try.prog 106 = some af_106 := by kernel_rfl
theorem cf_107 : compF Go.Proofs.Try.prog 107 = some af_107 := by kernel_rfl
theorem cf_110 : compF Go.Proofs.Try.prog 110 = some af_110 := by kernel_rfl
theorem cf_111 : compF Go.Proofs.Try.prog 111 = some af_111 := by kernel_rfl
theorem cf_112 : compF Go.Proofs.Try.prog 112 = some af_112 := by kernel_rfl
theorem cf_114 : compF Go.Proofs.Try.prog 114 = some af_114 := by kernel_rfl
theorem cf_115 : compF Go.Proofs.Try.prog 115 = some af_115 := by kernel_rfl
theorem tree_good : tree.Good Go.Proofs.Try.prog := ⟨⟨⟨⟨⟨⟨⟨trivial, cf_11, trivial⟩, cf_13, trivial⟩, cf_14, ⟨trivial, cf_15, trivial⟩⟩, cf_16, ⟨⟨trivial, cf_17, trivial⟩, cf_18, ⟨trivial, cf_21, trivial⟩⟩⟩, cf_25, ⟨⟨⟨trivial, cf_33, trivial⟩, cf_42, ⟨trivial, cf_45, trivial⟩⟩, cf_46, ⟨⟨trivial, cf_47, trivial⟩, cf_48, ⟨trivial, cf_49, trivial⟩⟩⟩⟩, cf_50, ⟨⟨⟨⟨⟨trivial, cf_51, trivial⟩, cf_52, trivial⟩, cf_53, ⟨trivial, cf_54, trivial⟩⟩, cf_55, ⟨⟨trivial, cf_57, trivial⟩, cf_58, ⟨trivial, cf_59, trivial⟩⟩⟩, cf_60, ⟨⟨⟨trivial, cf_61, trivial⟩, cf_65, ⟨trivial, cf_66, trivial⟩⟩, cf_71, ⟨⟨trivial, cf_72, trivial⟩, cf_73, ⟨trivial, cf_74, trivial⟩⟩⟩⟩⟩, cf_78, ⟨⟨⟨⟨⟨⟨trivial, cf_79, trivial⟩, cf_80, trivial⟩, cf_81, ⟨trivial, cf_82, trivial⟩⟩, cf_83, ⟨⟨trivial, cf_84, trivial⟩, cf_85, ⟨trivial, cf_86, trivial⟩⟩⟩, cf_87, ⟨⟨⟨trivial, cf_88, trivial⟩, cf_89, ⟨trivial, cf_90, trivial⟩⟩, cf_91, ⟨⟨trivial, cf_92, trivial⟩, cf_95, ⟨trivial, cf_96, trivial⟩⟩⟩⟩, cf_97, ⟨⟨⟨⟨trivial, cf_98, trivial⟩, cf_99, ⟨trivial, cf_100, trivial⟩⟩, cf_101, ⟨⟨trivial, cf_102, trivial⟩, cf_103, ⟨trivial, cf_104, trivial⟩⟩⟩, cf_105, ⟨⟨⟨trivial, cf_106, trivial⟩, cf_107, ⟨trivial, cf_110, trivial⟩⟩, cf_111, ⟨⟨trivial, cf_112, trivial⟩, cf_114, ⟨trivial, cf_115, trivial⟩⟩⟩⟩⟩⟩
end Go.Ev
end
section
namespace Go.Ev
/-! ### With letters: what must hold so that a statement, from a state, ends in Q -/
noncomputable section
def iteP (b : Bool) (A B : Prop) : Prop := match b with
  | true => A
  | false => B
def clean (s : St) : St := ⟨True, s.sl, s.hp, s.base, s.wr⟩
def withP (p : Option Prop) (k : Prop) : Prop := match p with
  | none => k
  | some q => q ∧ k
def someP (r : Option St) (k : St → Prop) : Prop := match r with
  | some s => k (clean s)
  | none => False
def outP (o : AOper) (s : St) (nid : Nat) (r : Option Out) (k : St → Prop) : Prop := match r with
  | some out => withP out.p (someP (finS o s nid out) k)
  | none => False
def pickP (o : AOper) (s : St) (nid : Nat) (c : D) (a b : D) (k : St → Prop) : Prop := match c with
  | .val (.bool t) => iteP t (someP (finS o s nid ⟨none, a, [], []⟩) k) (someP (finS o s nid ⟨none, b, [], []⟩) k)
  | _ => False
def doP (cl : FuncId → List D → List Blk → Nat → Option Out) (n0 : Nat) (o : AOper) (s : St) (k : St → Prop) : Prop := match o.op with
  | .pick c a b => pickP o s (n0 + o.rank) (evO s.sl c) (evO s.sl a) (evO s.sl b) k
  | op => outP o s (n0 + o.rank) (core true cl s.sl (hideK n0 s.sl o.hide s.hp) (n0 + o.rank) op) k
def ifP (b : Option Bool) (x y : Prop) : Prop := match b with
  | some b => iteP b x y
  | none => False
def awO (cl : FuncId → List D → List Blk → Nat → Option Out) (n0 : Nat) (o : AOper) (s : St) (k : St → Prop) : Prop := match o.guard with
  | none => doP cl n0 o s k
  | some g => ifP (yes s.sl (some g)) (doP cl n0 o s k) (someP (setT s.sl o.dst undefD fun sl => some ⟨s.p, sl, s.hp, s.base, s.wr⟩) k)
def awR (cl : FuncId → List D → List Blk → Nat → Option Out) (n0 : Nat) (l : List AOper) : St → (St → Prop) → Prop :=
  @List.rec AOper (fun _ => St → (St → Prop) → Prop) (fun s k => k s) (fun o _ ih s k => awO cl n0 o s (fun s => ih s k)) l
def thenP (k : St → Prop) (Q : Ex → St → Prop) (e : Ex) (s : St) : Prop := match e with
  | .normal => k s
  | e => Q e s
def blockP (i : Nat) (Q : Ex → St → Prop) (e : Ex) (s : St) : Prop := match e with
  | .exit j => match Nat.beq j i with | true => Q .normal s | false => Q (.exit j) s
  | e => Q e s
def testP (d : D) (x y : Prop) : Prop := match d with
  | .val (.bool t) => iteP t x y
  | _ => False
def regP (cl : FuncId → List D → List Blk → Nat → Option Out) (ops : List AOper) (n : Nat) (s : St) (k : St → Prop) : Prop :=
  match growS s.hp (deads n) fun hp => some ⟨s.p, s.sl, hp, s.base, s.wr⟩ with
  | some s' => awR cl (lenG s.hp) ops s' k
  | none => False
def aw (cl : FuncId → List D → List Blk → Nat → Option Out) (LP : ACode → St → (Ex → St → Prop) → Prop) : ACode → St → (Ex → St → Prop) → Prop
  | .skip => fun s Q => Q .normal s
  | .region ops n => fun s Q => regP cl ops n s (Q .normal)
  | .seq a b => fun s Q => aw cl LP a s (thenP (fun s => aw cl LP b s Q) Q)
  | .cond c a b => fun s Q => testP (evO s.sl c) (aw cl LP a s Q) (aw cl LP b s Q)
  | .block i b => fun s Q => aw cl LP b s (blockP i Q)
  | .loop b => fun s Q => LP b s Q
  | .exit i => fun s Q => Q (.exit i) s
  | .ret => fun s Q => Q .ret s
end

section
variable {K : Cust} {P : Program} {w0 : World} {ρ0 : List Own} {hp0 : List Blk} {w : World} {ρ : List Own} {a : Act} {s s' : St} {cl : FuncId → List D → List Blk → Nat → Option Out}

theorem Inv.cond {p : Prop} (h : Inv K w0 ρ0 hp0 w ρ a s) : Inv K w0 ρ0 hp0 w ρ a ⟨p, s.sl, s.hp, s.base, s.wr⟩ :=
  ⟨h.size, h.keep, h.new, h.le, h.rlen, h.base, h.blen, h.same, h.hid, h.ok, h.fr, h.slots, h.defers, h.start, h.env⟩
theorem iteP_true {b : Bool} {A B : Prop} (h : iteP b A B) : (b = true ∧ A) ∨ (b = false ∧ B) := by
  cases b
  · exact .inr ⟨rfl, h⟩
  · exact .inl ⟨rfl, h⟩
theorem finS_p {o : AOper} {nid : Nat} {out : Out} {p : Prop} (h : finS o s nid out = some s') : ∃ s'', finS o ⟨p, s.sl, s.hp, s.base, s.wr⟩ nid out = some s'' ∧ clean s'' = clean s' ∧ s''.p = andP p out.p := by
  obtain ⟨hw, rfl⟩ := finS_cases h
  have : finS o ⟨p, s.sl, s.hp, s.base, s.wr⟩ nid out = some ⟨andP p out.p, setD s.sl o.dst out.d, app out.δ s.hp ++ out.grow, s.base, addW s.base out.δ s.wr⟩ := by
    unfold finS
    split
    · rename_i h1 h2
      rw [h1, h2]
      simp [app, addW]
    · have : (o.wrt || calm o s.sl nid out) = true := by simpa using hw
      rw [this]
      simp
  exact ⟨_, this, rfl, rfl⟩
/-- one operation with letters -/
theorem awO_stp {n0 : Nat} {o : AOper} {k : St → Prop} (h : awO cl n0 o s k) {p : Prop} (hp : p) : ∃ s', stp true cl n0 o ⟨p, s.sl, s.hp, s.base, s.wr⟩ = some s' ∧ s'.p ∧ k (clean s') := by
  have core' : ∀ {out : Out}, core true cl s.sl (hideL n0 s.sl o.hide s.hp) (n0 + o.rank) o.op = some out → withP out.p (someP (finS o s (n0 + o.rank) out) k) → ∃ s', doS true cl n0 o ⟨p, s.sl, s.hp, s.base, s.wr⟩ = some s' ∧ s'.p ∧ k (clean s') := fun {out} ho hq => by
    have hk : (∀ q, out.p = some q → q) ∧ someP (finS o s (n0 + o.rank) out) k := by
      unfold withP at hq
      split at hq
      · rename_i e; rw [e]; exact ⟨fun q h => (by cases h), hq⟩
      · rename_i q e; rw [e]; exact ⟨fun q' h => (by cases h; exact hq.1), hq.2⟩
    unfold someP at hk
    obtain ⟨h1, h2⟩ := hk
    split at h2
    · rename_i s1 hs1
      obtain ⟨s2, g1, g2, g3⟩ := finS_p (p := p) hs1
      refine ⟨s2, ?_, ?_, by rw [g2]; exact h2⟩
      · unfold doS someS
        rw [forceN_eq, hideK_eq]
        simp only [ho]
        exact g1
      · rw [g3]
        cases hq : out.p with
        | none => exact hp
        | some q => exact ⟨hp, h1 q hq⟩
    · exact h2.elim
  have dop : doP cl n0 o s k → ∃ s', doS true cl n0 o ⟨p, s.sl, s.hp, s.base, s.wr⟩ = some s' ∧ s'.p ∧ k (clean s') := fun h => by
    unfold doP at h
    split at h
    · rename_i c x y hop
      unfold pickP at h
      split at h
      · rename_i t ht
        rcases iteP_true h with ⟨rfl, h⟩ | ⟨rfl, h⟩
        · exact core' (out := ⟨none, evO s.sl x, [], []⟩) (by rw [hop]; simp only [core, coreF, c_pick, ht]; rfl) h
        · exact core' (out := ⟨none, evO s.sl y, [], []⟩) (by rw [hop]; simp only [core, coreF, c_pick, ht]; rfl) h
      · exact h.elim
    · unfold outP at h
      split at h
      · rename_i out ho
        rw [hideK_eq] at ho
        exact core' ho h
      · exact h.elim
  unfold awO at h
  unfold stp
  split at h
  · rename_i hg
    simp only [hg]
    exact dop h
  · rename_i g hg
    simp only [hg]
    unfold ifP at h
    split at h
    · rename_i b hb
      rw [hb]
      rcases iteP_true h with ⟨rfl, h⟩ | ⟨rfl, h⟩
      · exact dop h
      · simp only [setT_eq, someP] at h
        simp only [ifS, setT_eq]
        exact ⟨_, rfl, hp, h⟩
    · exact h.elim
theorem awR_stps {n0 : Nat} : ∀ (l : List AOper) (s : St) (k : St → Prop), awR cl n0 l s k → ∀ p : Prop, p → ∃ s', stps true cl n0 l ⟨p, s.sl, s.hp, s.base, s.wr⟩ = some s' ∧ s'.p ∧ ((∃ q, k ⟨q, s'.sl, s'.hp, s'.base, s'.wr⟩))
  | [], s, k, h, p, hp => ⟨_, stps_nil, hp, s.p, h⟩
  | o :: l, s, k, h, p, hp => by
    have h' : awO cl n0 o s (fun s => awR cl n0 l s k) := h
    obtain ⟨s1, h1, h2, h3⟩ := awO_stp h' hp
    obtain ⟨s2, g1, g2, g3⟩ := awR_stps l (clean s1) k h3 s1.p h2
    refine ⟨s2, ?_, g2, g3⟩
    rw [stps_cons, h1]
    exact g1

/-- what 'aw' says: from any world that is told by s the statement ends so -/
def AWP (K : Cust) (P : Program) (w0 : World) (ρ0 : List Own) (hp0 : List Blk) (c : Code) (s : St) (Q : Ex → St → Prop) : Prop :=
  ∀ (w : World) (ρ : List Own) (a : Act), Inv K w0 ρ0 hp0 w ρ a s → c.wp P (fun x a' w' => ∃ e s' ρ', x = exOf e ∧ Inv K w0 ρ0 hp0 w' ρ' a' s' ∧ Q e s') a w
def LoopA (K : Cust) (P : Program) (w0 : World) (ρ0 : List Own) (hp0 : List Blk) (b : ACode) (s : St) (Q : Ex → St → Prop) : Prop :=
  ∀ c, compC P c = some b → AWP K P w0 ρ0 hp0 (.loop c) s Q

theorem aw_ok (hm : P.follows .mixedOrders = true) (hcl : ClOK K P cl) : ∀ (c : Code) (ac : ACode) (s : St) (Q : Ex → St → Prop), compC P c = some ac → aw cl (LoopA K P w0 ρ0 hp0) ac s Q → AWP K P w0 ρ0 hp0 c s Q := by
  intro c
  induction c with
  | skip =>
    intro ac s Q hc h w ρ a hI
    simp only [compC] at hc
    obtain rfl := Option.some.inj hc
    exact wp_skip ⟨.normal, s, ρ, rfl, hI, h⟩
  | label l =>
    intro ac s Q hc h w ρ a hI
    simp only [compC] at hc
    obtain rfl := Option.some.inj hc
    exact wp_label ⟨.normal, s, ρ, rfl, hI, h⟩
  | exit i =>
    intro ac s Q hc h w ρ a hI
    simp only [compC] at hc
    obtain rfl := Option.some.inj hc
    exact wp_exit ⟨.exit i, s, ρ, rfl, hI, h⟩
  | ret =>
    intro ac s Q hc h w ρ a hI
    simp only [compC] at hc
    obtain rfl := Option.some.inj hc
    exact wp_ret ⟨.ret, s, ρ, rfl, hI, h⟩
  | region id ops dr =>
    intro ac s Q hc h w ρ a hI
    have key : ∀ (l : List AOper) (n : Nat), ac = .region l n → ∃ s' q, reg true cl l n ⟨True, s.sl, s.hp, s.base, s.wr⟩ = some s' ∧ s'.p ∧ Q .normal ⟨q, s'.sl, s'.hp, s'.base, s'.wr⟩ := fun l n e => by
      subst e
      have h : regP cl l n s (Q .normal) := h
      unfold regP at h
      simp only [growS_eq, lenG_eq] at h
      obtain ⟨s', g1, g2, q, g3⟩ := awR_stps l _ _ h True trivial
      refine ⟨s', q, ?_, g2, g3⟩
      unfold reg
      simp only [growS_eq, forceN_eq, lenG_eq]
      exact g1
    cases dr with
    | false =>
      simp only [compC] at hc
      split at hc
      · rename_i l n hl
        obtain rfl := Option.some.inj hc
        obtain ⟨s', q, h1, h2, h3⟩ := key l n rfl
        exact region_ok hcl hl hI.cond h1 h2 fun a' w' ρ' hI' => ⟨.normal, _, ρ', rfl, hI'.cond (p := q), h3⟩
      · cases hc
    | true =>
      simp only [compC] at hc
      split at hc
      · rename_i l n hl
        obtain rfl := Option.some.inj hc
        obtain ⟨s', q, h1, h2, h3⟩ := key l n rfl
        exact drawn_ok hm K cl id ops l n hcl hl true w0 ρ0 hp0 w ρ a _ s' hI.cond h1 h2 _ fun a' w' ρ' hI' => ⟨.normal, _, ρ', rfl, hI'.cond (p := q), h3⟩
      · cases hc
  | seq x y ihx ihy =>
    intro ac s Q hc h w ρ a hI
    simp only [compC] at hc
    split at hc
    · rename_i ax ay hx hy
      obtain rfl := Option.some.inj hc
      refine wp_seq (wp_mono (ihx ax s _ hx h w ρ a hI) fun x' a' w' he => ?_)
      obtain ⟨e, s', ρ', rfl, hI', hq⟩ := he
      cases e with
      | normal => exact ihy ay s' Q hy hq w' ρ' a' hI'
      | exit i => exact ⟨_, s', ρ', rfl, hI', hq⟩
      | ret => exact ⟨_, s', ρ', rfl, hI', hq⟩
    · cases hc
  | cond c x y ihx ihy =>
    intro ac s Q hc h w ρ a hI
    simp only [compC] at hc
    split at hc
    · rename_i ax ay hx hy
      obtain rfl := Option.some.inj hc
      have h : testP (evO s.sl c) (aw cl (LoopA K P w0 ρ0 hp0) ax s Q) (aw cl (LoopA K P w0 ρ0 hp0) ay s Q) := h
      unfold testP at h
      split at h
      · rename_i t ht
        have hb := evB hI.slots ht
        rcases iteP_true h with ⟨rfl, h⟩ | ⟨rfl, h⟩
        · exact wp_cond_true hb (ihx ax s Q hx h w ρ a hI)
        · exact wp_cond_false hb (ihy ay s Q hy h w ρ a hI)
      · exact h.elim
    · cases hc
  | block i b ih =>
    intro ac s Q hc h w ρ a hI
    simp only [compC] at hc
    split at hc
    · rename_i ab hb
      obtain rfl := Option.some.inj hc
      refine wp_block (wp_mono (ih ab s _ hb h w ρ a hI) fun x' a' w' he => ?_)
      obtain ⟨e, s', ρ', rfl, hI', hq⟩ := he
      cases e with
      | normal => exact ⟨.normal, s', ρ', rfl, hI', hq⟩
      | ret => exact ⟨.ret, s', ρ', rfl, hI', hq⟩
      | exit j =>
        simp only [exOf, Exit.inBlock]
        have hq : (match Nat.beq j i with | true => Q .normal s' | false => Q (.exit j) s') := hq
        split
        · rename_i e
          subst e
          rw [show Nat.beq j j = true from Nat.beq_refl j] at hq
          exact ⟨.normal, s', ρ', rfl, hI', hq⟩
        · rename_i e
          have : Nat.beq j i = false := by
            cases hb : Nat.beq j i with
            | false => rfl
            | true => exact absurd (Nat.eq_of_beq_eq_true hb) e
          rw [this] at hq
          exact ⟨.exit j, s', ρ', rfl, hI', hq⟩
    · cases hc
  | loop b ih =>
    intro ac s Q hc h
    simp only [compC] at hc
    split at hc
    · rename_i ab hb
      obtain rfl := Option.some.inj hc
      exact h b hb
    · cases hc
  | _ =>
    intro ac s Q hc
    simp [compC] at hc
end
end Go.Ev
end
section
namespace Go.Ev
/-! ### Contracts of functions, and loops by invariants -/
noncomputable section
/-- the state in which a function begins -/
def startF (fn : AFun) (ds : List D) (hp : List Blk) : St := ⟨True, ds ++ List.replicate (fn.ntmps - ds.length) undefD, hp, hp.length, []⟩
/-- the end of a function: what it hands back is so -/
def exitP (raw : Bool) (nid : Nat) (fn : AFun) (R : Out → Prop) (e : Ex) (s : St) : Prop :=
  exD e = true ∧ ∃ rds out, resD s fn.results = some rds ∧ leave raw nid s rds = some out ∧ R out
/-- one table of calls beside another -/
def orCl (c1 c2 : FuncId → List D → List Blk → Nat → Option Out) (f : FuncId) (ds : List D) (hp : List Blk) (nid : Nat) : Option Out := match c1 f ds hp nid with
  | some out => some out
  | none => c2 f ds hp nid
/-- a call of a function whose contract says what it hands back -/
def oneCl (g : FuncId) (r : List D → List Blk → Nat → Option Out) (f : FuncId) (ds : List D) (hp : List Blk) (nid : Nat) : Option Out := match Nat.beq f g with
  | true => r ds hp nid
  | false => none
end
section
variable {K : Cust} {P : Program} {w0 : World} {ρ0 : List Own} {hp0 : List Blk} {w : World} {ρ : List Own} {a : Act} {s s' : St} {cl : FuncId → List D → List Blk → Nat → Option Out}

theorem ClOK.or {c1 c2 : FuncId → List D → List Blk → Nat → Option Out} (h1 : ClOK K P c1) (h2 : ClOK K P c2) : ClOK K P (orCl c1 c2) := by
  intro f ds hp nid out h hc
  unfold orCl at h
  split at h
  · rename_i o ho
    cases h
    exact h1 f ds hp nid out ho hc
  · exact h2 f ds hp nid out h hc
/-- the contract of one function, as a call may use it -/
def Contract (K : Cust) (P : Program) (f : FuncId) (r : List D → List Blk → Nat → Option Out) : Prop :=
  (∀ args w, (callFunc f args).run P w = .ok (.enter f args) w) ∧ ∀ ds hp nid out, r ds hp nid = some out → (∀ p, out.p = some p → p) →
    ∀ (w : World) (ρ : List Own) (args : List Value), OK K w ρ hp → RepL K (mask K w ρ) ρ ds args → ρ[nid]? = some .fresh →
      Calls P f args.toArray w fun e w' => ∃ v, e = .returned v ∧ Res K w ρ hp nid out v w'
theorem ClOK.one {g : FuncId} {r : List D → List Blk → Nat → Option Out} (h : Contract K P g r) : ClOK K P (oneCl g r) := by
  intro f ds hp nid out ho hc
  unfold oneCl at ho
  split at ho
  · rename_i e
    obtain rfl := Nat.eq_of_beq_eq_true e
    exact ⟨h.1, h.2 ds hp nid out ho hc⟩
  · cases ho

/-- a function by its symbolic evaluation -/
theorem fun_ok (hm : P.follows .mixedOrders = true) (hcl : ClOK K P cl) {f : FuncId} {fn : AFun} (hf : compF P f = some fn) :
    (∀ args w, (callFunc f args).run P w = .ok (.enter f args) w) ∧
    ∀ {raw : Bool} {ds : List D} {hp : List Blk} {nid : Nat} {R : Out → Prop} {w : World} {ρ : List Own} {args : List Value} {Q : Ex → St → Prop}, (∀ e s, Q e s → exitP raw nid fn R e s) →
      aw cl (LoopA K P w ρ hp) fn.body (startF fn ds hp) Q → OK K w ρ hp → RepL K (mask K w ρ) ρ ds args → ρ[nid]? = some .fresh →
      Calls P f args.toArray w fun e w' => ∃ v out, e = .returned v ∧ R out ∧ Res K w ρ hp nid out v w' := by
  unfold compF at hf
  split at hf
  · rename_i fu hfn
    split at hf
    · rename_i c hbody
      split at hf
      · rename_i ab rs hab hrs hname
        cases hf
        refine ⟨enters hfn hname hbody, fun {raw ds hp nid R w ρ args Q} hQ h hk hr hn => ?_⟩
        refine calls_of_wp hfn hbody (wp_mono (aw_ok hm hcl c ab _ _ hab h w ρ _ (Inv.init hk hr)) fun x a' w' hx => ?_)
        obtain ⟨e, s', ρ', rfl, hI, hq⟩ := hx
        obtain ⟨hex, rds, out, hrd, hl, hR⟩ := hQ e s' hq
        obtain ⟨v, hv1, hv2⟩ := results_ok (fn := fu) hI.okHp hI.slots hrs hrd
        have hres := leave_ok hI hv2 hl hn
        cases e with
        | normal => exact ⟨hI.defers, v, hv1, v, out, rfl, hR, hres⟩
        | ret => exact ⟨hI.defers, v, hv1, v, out, rfl, hR, hres⟩
        | exit i => simp [exD] at hex
      · cases hf
    · cases hf
  · cases hf
/-- the contract of a function whose end is one and the same on every way -/
theorem fun_contract (hm : P.follows .mixedOrders = true) (hcl : ClOK K P cl) {f : FuncId} {fn : AFun} (hf : compF P f = some fn) {raw : Bool} {r : List D → List Blk → Nat → Option Out}
    (h : ∀ ds hp nid out, r ds hp nid = some out → (∀ p, out.p = some p → p) → ∀ w ρ, OK K w ρ hp → aw cl (LoopA K P w ρ hp) fn.body (startF fn ds hp) (exitP raw nid fn (fun o => o = out))) : Contract K P f r := by
  obtain ⟨h1, h2⟩ := fun_ok (cl := cl) hm hcl hf
  refine ⟨h1, fun ds hp nid out ho hc w ρ args hk hr hn => (h2 (fun _ _ h => h) (h ds hp nid out ho hc w ρ hk) hk hr hn).mono fun e w' hx => ?_⟩
  obtain ⟨v, o, he, rfl, hres⟩ := hx
  exact ⟨v, he, hres⟩

/-- s' tells no more than s -/
def Wk (K : Cust) (w0 : World) (ρ0 : List Own) (hp0 : List Blk) (s s' : St) : Prop :=
  ∀ (w : World) (ρ : List Own) (a : Act), Inv K w0 ρ0 hp0 w ρ a s → ∃ ρ', Inv K w0 ρ0 hp0 w ρ' a s'
theorem Wk.refl : Wk K w0 ρ0 hp0 s s := fun _ ρ _ h => ⟨ρ, h⟩
theorem Wk.trans {s1 s2 s3 : St} (h1 : Wk K w0 ρ0 hp0 s1 s2) (h2 : Wk K w0 ρ0 hp0 s2 s3) : Wk K w0 ρ0 hp0 s1 s3 := fun w ρ a h => by
  obtain ⟨ρ', h'⟩ := h1 w ρ a h
  exact h2 w ρ' a h'
/-- what one slot tells, told anew -/
inductive WkD : D → D → Prop
  | refl (d : D) : WkD d d
  | any (d : D) : WkD d .any
theorem rep_wkD {M : World} {d d' : D} {v : Value} (h : WkD d d') (hr : Rep K M ρ d v) : Rep K M ρ d' v := by
  cases h with
  | refl => exact hr
  | any => simp [Rep]
/-- slots may be forgotten -/
theorem Wk.slots {p : Prop} {sl : List D} (hl : sl.length = s.sl.length) (h : ∀ i : Nat, ∀ d d', s.sl[i]? = some d → sl[i]? = some d' → WkD d d') : Wk K w0 ρ0 hp0 s ⟨p, sl, s.hp, s.base, s.wr⟩ := fun w ρ a hI => by
  refine ⟨ρ, hI.size, hI.keep, hI.new, hI.le, hI.rlen, hI.base, hI.blen, hI.same, hI.hid, hI.ok, hI.fr, ⟨hl.trans hI.slots.1, fun i d' hd' => ?_⟩, hI.defers, hI.start, hI.env⟩
  have hi : i < s.sl.length := by rw [← hl]; exact (List.getElem?_eq_some_iff.1 hd').1
  obtain ⟨v, h1, h2⟩ := hI.slots.2 i s.sl[i] (List.getElem?_eq_getElem hi)
  exact ⟨v, h1, rep_wkD (h i _ _ (List.getElem?_eq_getElem hi) hd') h2⟩

/-- a loop by an invariant, with letters -/
def roundP {ι : Sort _} (K : Cust) (w0 : World) (ρ0 : List Own) (hp0 : List Blk) (st : ι → St) (μ : ι → Nat) (i : ι) (Q : Ex → St → Prop) (e : Ex) (s : St) : Prop := match e with
  | .normal => ∃ j, μ j < μ i ∧ Wk K w0 ρ0 hp0 s (st j)
  | e => Q e s
theorem loop_rule {ι : Type} (hm : P.follows .mixedOrders = true) (hcl : ClOK K P cl) {b : ACode} {Q : Ex → St → Prop} (st : ι → St) (μ : ι → Nat)
    (round : ∀ i, aw cl (LoopA K P w0 ρ0 hp0) b (st i) (roundP K w0 ρ0 hp0 st μ i Q)) {s : St} (i : ι) (hs : Wk K w0 ρ0 hp0 s (st i)) : LoopA K P w0 ρ0 hp0 b s Q := by
  intro c hc w ρ a hI
  obtain ⟨ρ1, hI1⟩ := hs w ρ a hI
  refine wp_loop_fuel (fun n a w => ∃ i ρ, μ i = n ∧ Inv K w0 ρ0 hp0 w ρ a (st i)) (n := μ i) ⟨i, ρ1, rfl, hI1⟩ fun n a w hJ => ?_
  obtain ⟨i, ρ, rfl, hI⟩ := hJ
  refine wp_mono (aw_ok hm hcl c b _ _ hc (round i) w ρ a hI) fun x a' w' hx => ?_
  obtain ⟨e, s', ρ', rfl, hI', hq⟩ := hx
  cases e with
  | normal =>
    obtain ⟨j, hj, hw⟩ := hq
    obtain ⟨ρ2, hI2⟩ := hw w' ρ' a' hI'
    exact ⟨μ j, hj, j, ρ2, rfl, hI2⟩
  | exit k => exact ⟨.exit k, s', ρ', rfl, hI', hq⟩
  | ret => exact ⟨.ret, s', ρ', rfl, hI', hq⟩
end
end Go.Ev
end
section
namespace Go.Ev
/-- the end of a function, so that it can be reckoned -/
noncomputable def exitW (raw : Bool) (nid : Nat) (fn : AFun) (R : Out → Prop) (e : Ex) (s : St) : Prop := match exD e with
  | true => match resD s fn.results with
    | some rds => match leave raw nid s rds with
      | some out => R out
      | none => False
    | none => False
  | false => False
theorem exitW_p {raw : Bool} {nid : Nat} {fn : AFun} {R : Out → Prop} {e : Ex} {s : St} (h : exitW raw nid fn R e s) : exitP raw nid fn R e s := by
  unfold exitW at h
  split at h
  · rename_i h1
    split at h
    · rename_i rds h2
      split at h
      · rename_i out h3
        exact ⟨h1, rds, out, h2, h3, h⟩
      · exact h.elim
    · exact h.elim
  · exact h.elim
theorem iteP_intro {b : Bool} {A B : Prop} (h1 : b = true → A) (h2 : b = false → B) : iteP b A B := by
  cases b
  · exact h2 rfl
  · exact h1 rfl
theorem iteP_known {b : Bool} {A : Prop} (t : Bool) (h : b = t) (h' : iteP t A A) : A := by
  cases t <;> exact h'
theorem both {b : Bool} {A : Prop} (h1 : b = true → A) (h2 : b = false → A) : A := by
  cases b
  · exact h2 rfl
  · exact h1 rfl
end Go.Ev
end
section
namespace Go.Ev
/-! ### A call in a heap of its own: the caller's blocks are hidden -/
mutual
/-- names no own block -/
def freeD : D → Prop
  | .ptr .. => False
  | .sl .. => False
  | .map _ => False
  | .row _ _ f => ∀ i, freeL (f i)
  | .ref cs _ => freeL cs
  | .agg ds => freeL ds
  | .tup ds => freeL ds
  | .fn _ a b => freeL a ∧ freeL b
  | .iface _ d => freeD d
  | _ => True
def freeL : List D → Prop
  | [] => True
  | d :: ds => freeD d ∧ freeL ds
end
mutual
theorem Rep.free {K K' : Cust} {M M' : World} {ρ ρ' : List Own} (hs : Sub M M') (hC : ∀ t q v, K.C t q M v → K'.C t q M' v) : ∀ (d : D) (v : Value), freeD d → Rep K M ρ d v → Rep K' M' ρ' d v
  | .any, _, _, _ => trivial
  | .val _, _, _, h => h
  | .ptr .., _, g, _ => g.elim
  | .sl .., _, g, _ => g.elim
  | .map _, _, g, _ => g.elim
  | .row k len f, v, g, h => by
    simp only [freeD] at g
    simp only [Rep] at *
    exact h.imp id fun ⟨b, o, c, h1, h2, h3⟩ => ⟨b, o, c, h1, h2, fun i hi => RepC.free hs hC (f i) b _ (g i) (h3 i hi)⟩
  | .ref cs off, v, g, h => by
    simp only [freeD] at g
    simp only [Rep] at *
    exact let ⟨b, o, h1, h2⟩ := h; ⟨b, o, h1, RepC.free hs hC cs b o g h2⟩
  | .agg ds, v, g, h => by
    simp only [freeD] at g
    simp only [Rep] at *
    exact let ⟨vs, h1, h2⟩ := h; ⟨vs, h1, RepL.free hs hC ds vs g h2⟩
  | .tup ds, v, g, h => by
    simp only [freeD] at g
    simp only [Rep] at *
    exact let ⟨vs, h1, h2⟩ := h; ⟨vs, h1, RepL.free hs hC ds vs g h2⟩
  | .fn f a b, v, g, h => by
    simp only [freeD] at g
    simp only [Rep] at *
    exact let ⟨x, y, h1, h2, h3⟩ := h; ⟨x, y, h1, RepL.free hs hC a x g.1 h2, RepL.free hs hC b y g.2 h3⟩
  | .iface t d, v, g, h => by
    simp only [freeD] at g
    simp only [Rep] at *
    exact let ⟨x, h1, h2⟩ := h; ⟨x, h1, Rep.free hs hC d x g h2⟩
  | .cust t q, v, _, h => by
    simp only [Rep] at *
    exact hC _ _ _ h
  | .emp z, v, _, h => by
    simp only [Rep] at *
    exact h
theorem RepC.free {K K' : Cust} {M M' : World} {ρ ρ' : List Own} (hs : Sub M M') (hC : ∀ t q v, K.C t q M v → K'.C t q M' v) : ∀ (ds : List D) (b o : Nat), freeL ds → RepC K M ρ ds b o → RepC K' M' ρ' ds b o
  | [], _, _, _, _ => by simp only [RepC]
  | d :: ds, b, o, g, h => by
    simp only [freeL] at g
    simp only [RepC] at *
    exact let ⟨⟨x, h1, h2⟩, h3⟩ := h; ⟨⟨x, hs.cell h1, Rep.free hs hC d x g.1 h2⟩, RepC.free hs hC ds b (o + 1) g.2 h3⟩
theorem RepL.free {K K' : Cust} {M M' : World} {ρ ρ' : List Own} (hs : Sub M M') (hC : ∀ t q v, K.C t q M v → K'.C t q M' v) : ∀ (ds : List D) (vs : List Value), freeL ds → RepL K M ρ ds vs → RepL K' M' ρ' ds vs
  | [], _, _, h => by simpa only [RepL] using h
  | d :: ds, vs, g, h => by
    simp only [freeL] at g
    simp only [RepL] at *
    exact let ⟨x, r, h1, h2, h3⟩ := h; ⟨x, r, h1, Rep.free hs hC d x g.1 h2, RepL.free hs hC ds r g.2 h3⟩
end
/-- all that is the caller's own is hidden -/
def hideC (K : Cust) (ρ : List Own) : Cust := { K with hid := isLive K ρ }
section
variable {K : Cust} {P : Program} {w w' : World} {ρ : List Own} {hp : List Blk} {nid : Nat}
theorem hideC_sub : Sub (mask K w ρ) (mask (hideC K ρ) w [.fresh]) := fun b cs ty fr h => by
  rw [mask_some] at *
  refine ⟨?_, h.2⟩
  rintro (hh | ⟨i, n, hi⟩)
  · exact h.1 hh
  · cases i <;> simp at hi
theorem hideC_sub' {ρ' : List Own} : Sub (mask (hideC K ρ) w ρ') (mask K w ρ) := fun b cs ty fr h => by
  rw [mask_some] at *
  exact ⟨fun hl => h.1 (.inl hl), h.2⟩
theorem OK.hide (hk : OK K w ρ hp) : OK (hideC K ρ) w [.fresh] [.dead] := by
  refine ⟨rfl, fun i b n hi => ?_, fun i j b n m hi => ?_, fun i x hx => ?_, fun b hb => ?_, fun i b n hi => ?_⟩
  · cases i <;> simp at hi
  · cases i <;> simp at hi
  · cases i with
    | zero => simp at hx; subst hx; trivial
    | succ i => simp at hx
  · rcases hb with hb | ⟨i, n, hi⟩
    · exact hk.hid b hb
    · exact hk.lt i b n hi
  · cases i <;> simp at hi
theorem Res.unhide {p : Option Prop} {d : D} {v : Value} (hk : OK K w ρ hp) (hd : freeD d) (h : Res (hideC K ρ) w [.fresh] [.dead] 0 ⟨p, d, [], []⟩ v w') : Res K w ρ hp nid ⟨p, d, [], []⟩ v w' := by
  obtain ⟨ρ1, h1, h2⟩ := h
  have hkeep : ∀ b : Nat, b < w.heap.size → w'.heap[b]? = w.heap[b]? := fun b hb => h2.keep b hb fun i n hi => by cases i <;> simp at hi
  have hm : Sub (mask K w ρ) (mask K w' ρ) := fun b cs ty fr hb => by
    rw [mask_some] at *
    exact ⟨hb.1, by rw [hkeep b (lt_of_cells hb.2)]; exact hb.2⟩
  refine ⟨ρ, Rep.free (K := hideC K ρ) (K' := K) hideC_sub' (fun t q v hc => K.mono _ _ _ _ _ hideC_sub' hc) d v hd h1, h2.size, fun b hb _ => hkeep b hb, fun b hb => .inl hb, rfl, OwnLe.refl ρ, fun hp2 _ hk2 => ?_, fun i _ _ => ⟨fun x hx => (by cases hx), rfl⟩, fun i h _ => h, h2.env⟩
  show OK K w' ρ (hp2 ++ [])
  rw [List.append_nil]
  exact ⟨hk2.len, fun i b n hi => Nat.lt_of_lt_of_le (hk2.lt i b n hi) h2.size, hk2.inj, fun i x hx => (hk2.blk i x hx).mono hm (OwnLe.refl ρ) (fun b n ho => hkeep b (hk2.lt i b n (own_live ho))), fun b hb => Nat.lt_of_lt_of_le (hk2.hid b hb) h2.size, hk2.apart⟩
/-- what a function does that sees no own block and makes none that stays, told in a heap of its own -/
def Alone (P : Program) (f : FuncId) (ds : List D) (d : D) : Prop :=
  ∀ (K : Cust) (w : World) (args : List Value), OK K w [.fresh] [.dead] → RepL K (mask K w [.fresh]) [.fresh] ds args →
    Calls P f args.toArray w fun e w' => ∃ v, e = .returned v ∧ Res K w [.fresh] [.dead] 0 ⟨none, d, [], []⟩ v w'
/-- it is so in every heap -/
theorem Alone.contract {f : FuncId} (henter : ∀ args w, (callFunc f args).run P w = .ok (.enter f args) w) (r : List D → Option (Option Prop × D))
    (h : ∀ ds p d, r ds = some (p, d) → (∀ q, p = some q → q) → freeL ds ∧ freeD d ∧ Alone P f ds d) : Contract K P f (fun ds _ _ => match r ds with | some (p, d) => some ⟨p, d, [], []⟩ | none => none) := by
  refine ⟨henter, fun ds hp nid out ho hc w ρ args hk hr hn => ?_⟩
  dsimp only at ho
  split at ho
  · rename_i p d hd
    cases ho
    obtain ⟨h1, h2, h3⟩ := h ds p d hd hc
    refine (h3 (hideC K ρ) w args hk.hide (RepL.free (K := K) (K' := hideC K ρ) hideC_sub (fun t q v hc => K.mono _ _ _ _ _ hideC_sub hc) ds args h1 hr)).mono fun e w' hx => ?_
    obtain ⟨v, rfl, hres⟩ := hx
    obtain ⟨ρ', g1, g2⟩ := Res.unhide (nid := nid) hk h2 hres
    exact ⟨v, rfl, ρ', g1, g2⟩
  · cases ho
/-- what is told less -/
def Less (ds ds' : List D) : Prop := ∀ (K : Cust) (M : World) (ρ : List Own) (args : List Value), RepL K M ρ ds args → RepL K M ρ ds' args
theorem Less.refl (ds : List D) : Less ds ds := fun _ _ _ _ h => h
theorem Less.cons {d d' : D} {ds ds' : List D} (h1 : ∀ (K : Cust) (M : World) (ρ : List Own) (v : Value), Rep K M ρ d v → Rep K M ρ d' v) (h2 : Less ds ds') : Less (d :: ds) (d' :: ds') := fun K M ρ args h => by
  simp only [RepL] at *
  obtain ⟨x, r, rfl, g1, g2⟩ := h
  exact ⟨x, r, rfl, h1 K M ρ x g1, h2 K M ρ r g2⟩
theorem Less.any {d : D} {ds ds' : List D} (h : Less ds ds') : Less (d :: ds) (.any :: ds') := .cons (fun _ _ _ _ _ => by simp [Rep]) h
theorem Less.same {d : D} {ds ds' : List D} (h : Less ds ds') : Less (d :: ds) (d :: ds') := .cons (fun _ _ _ _ h => h) h
theorem Less.agg {as1 bs ds ds' : List D} (h1 : Less as1 bs) (h : Less ds ds') : Less (.agg as1 :: ds) (.agg bs :: ds') := .cons (fun K M ρ v hv => by
  simp only [Rep] at *
  obtain ⟨vs, rfl, hr⟩ := hv
  exact ⟨vs, rfl, h1 K M ρ vs hr⟩) h
/-- it is so in every heap; of the arguments only a part is told -/
theorem Alone.contract' {f : FuncId} (henter : ∀ args w, (callFunc f args).run P w = .ok (.enter f args) w) (r : List D → Option (Option Prop × D))
    (h : ∀ ds p d, r ds = some (p, d) → (∀ q, p = some q → q) → ∃ ds', Less ds ds' ∧ freeL ds' ∧ freeD d ∧ Alone P f ds' d) : Contract K P f (fun ds _ _ => match r ds with | some (p, d) => some ⟨p, d, [], []⟩ | none => none) := by
  refine ⟨henter, fun ds hp nid out ho hc w ρ args hk hr hn => ?_⟩
  dsimp only at ho
  split at ho
  · rename_i p d hd
    cases ho
    obtain ⟨ds', hl, h1, h2, h3⟩ := h ds p d hd hc
    refine (h3 (hideC K ρ) w args hk.hide (RepL.free (K := K) (K' := hideC K ρ) hideC_sub (fun t q v hc => K.mono _ _ _ _ _ hideC_sub hc) ds' args h1 (hl K _ _ _ hr))).mono fun e w' hx => ?_
    obtain ⟨v, rfl, hres⟩ := hx
    obtain ⟨ρ', g1, g2⟩ := Res.unhide (nid := nid) hk h2 hres
    exact ⟨v, rfl, ρ', g1, g2⟩
  · cases ho
/-- by symbolic evaluation -/
theorem Alone.of {cl : FuncId → List D → List Blk → Nat → Option Out} {f : FuncId} {fn : AFun} {raw : Bool} (hm : P.follows .mixedOrders = true) (hcl : ∀ K, ClOK K P cl) (hf : compF P f = some fn) {ds : List D} {d : D}
    (h : ∀ K w, aw cl (LoopA K P w [.fresh] [.dead]) fn.body (startF fn ds [.dead]) (exitW raw 0 fn fun o => o = ⟨none, d, [], []⟩)) : Alone P f ds d := by
  intro K w args hk hr
  refine ((fun_ok (cl := cl) hm (hcl K) hf).2 (raw := raw) (nid := 0) (R := fun o => o = ⟨none, d, [], []⟩) (fun _ _ h => exitW_p h) (h K w) hk hr rfl).mono fun e w' hx => ?_
  · obtain ⟨v, o, he, rfl, hres⟩ := hx
    exact ⟨v, he, hres⟩
end
end Go.Ev
end
