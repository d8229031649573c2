import Derived.Test.YtmekepomgofiaaaCS11
import Derived.KernelRfl
import Derived.LoopN
import Derived.Below
set_option linter.all false
section
namespace Go.Ev
/-! ### A walk by rules: what a region leaves is reckoned by the kernel, and never written out -/
noncomputable section
def unS (r : Option St) : St := match r with
  | some s => s
  | none => ⟨True, [], [], 0, []⟩
/-- what 'aw' says, so that nobody reckons it unasked -/
structure AW (cl : FuncId → List D → List Blk → Nat → Option Out) (LP : ACode → St → (Ex → St → Prop) → Prop) (c : ACode) (s : St) (Q : Ex → St → Prop) : Prop where
  out : aw cl LP c s Q
def seqP (cl : FuncId → List D → List Blk → Nat → Option Out) (LP : ACode → St → (Ex → St → Prop) → Prop) (b : ACode) (Q : Ex → St → Prop) (e : Ex) (s : St) : Prop := match e with
  | .normal => AW cl LP b s Q
  | e => Q e s
/-- the state behind a region -/
def aft (cl : FuncId → List D → List Blk → Nat → Option Out) (ops : List AOper) (n : Nat) (s : St) : St := clean (unS (reg true cl ops n s))
def aftP (cl : FuncId → List D → List Blk → Nat → Option Out) (ops : List AOper) (n : Nat) (s : St) : Prop := (unS (reg true cl ops n s)).p
/-- some of the slots are forgotten -/
def forget : List Nat → List D → List D
  | [], sl => sl
  | i :: l, sl => forget l (sl.set i .any)
def fgt (idx : List Nat) (s : St) : St := ⟨True, forget idx s.sl, s.hp, s.base, s.wr⟩
def put1 (i : Nat) (d : D) (s : St) : St := ⟨True, s.sl.set i d, s.hp, s.base, s.wr⟩
/-- the end of a function -/
def endO (raw : Bool) (nid : Nat) (fn : AFun) (e : Ex) (s : St) : Option Out := match exD e with
  | true => match resD s fn.results with
    | some rds => leave raw nid s rds
    | none => none
  | false => none
end
section
variable {K : Cust} {P : Program} {w0 : World} {ρ0 : List Own} {hp0 : List Blk} {s s' : St} {cl : FuncId → List D → List Blk → Nat → Option Out} {LP : ACode → St → (Ex → St → Prop) → Prop} {Q : Ex → St → Prop}

theorem seqP_eq {b : ACode} : seqP cl LP b Q = thenP (fun s => aw cl LP b s Q) Q := by
  funext e s
  cases e
  · exact propext ⟨fun h => h.out, fun h => ⟨h⟩⟩
  · rfl
  · rfl
theorem aw_seq {a b : ACode} (h : AW cl LP a s (seqP cl LP b Q)) : AW cl LP (.seq a b) s Q := by
  have h := h.out
  rw [seqP_eq] at h
  exact ⟨h⟩
theorem aw_assoc {a b c : ACode} (h : AW cl LP (.seq a (.seq b c)) s Q) : AW cl LP (.seq (.seq a b) c) s Q := by
  have h : aw cl LP a s (thenP (fun s => aw cl LP b s (thenP (fun s => aw cl LP c s Q) Q)) Q) := h.out
  refine ⟨?_⟩
  show aw cl LP a s (thenP (fun s => aw cl LP b s (thenP (fun s => aw cl LP c s Q) Q)) (thenP (fun s => aw cl LP c s Q) Q))
  have e : thenP (fun s => aw cl LP b s (thenP (fun s => aw cl LP c s Q) Q)) (thenP (fun s => aw cl LP c s Q) Q) = thenP (fun s => aw cl LP b s (thenP (fun s => aw cl LP c s Q) Q)) Q := by
    funext e s
    cases e <;> rfl
  rw [e]
  exact h
theorem aw_skip (h : Q .normal s) : AW cl LP .skip s Q := ⟨h⟩
theorem aw_exit {i : Nat} (h : Q (.exit i) s) : AW cl LP (.exit i) s Q := ⟨h⟩
theorem aw_ret (h : Q .ret s) : AW cl LP .ret s Q := ⟨h⟩
theorem aw_skips {b : ACode} (h : AW cl LP b s Q) : AW cl LP (.seq .skip b) s Q := aw_seq (aw_skip h)
theorem aw_exits {i : Nat} {b : ACode} (h : Q (.exit i) s) : AW cl LP (.seq (.exit i) b) s Q := aw_seq (aw_exit h)
theorem aw_rets {b : ACode} (h : Q .ret s) : AW cl LP (.seq .ret b) s Q := aw_seq (aw_ret h)
/-- the end of a block -/
def blkP (i : Nat) (Q : Ex → St → Prop) (e : Ex) (s : St) : Prop := blockP i Q e s
theorem aw_block {i : Nat} {b : ACode} (h : AW cl LP b s (blkP i Q)) : AW cl LP (.block i b) s Q := ⟨h.out⟩
theorem aw_blocks {i : Nat} {b r : ACode} (h : AW cl LP b s (blkP i (seqP cl LP r Q))) : AW cl LP (.seq (.block i b) r) s Q := aw_seq (aw_block h)
theorem seq_normal {b : ACode} (h : AW cl LP b s Q) : seqP cl LP b Q .normal s := h
theorem seq_ret {b : ACode} (h : Q .ret s) : seqP cl LP b Q .ret s := h
theorem seq_exit {b : ACode} {i : Nat} (h : Q (.exit i) s) : seqP cl LP b Q (.exit i) s := h
theorem blk_normal {i : Nat} (h : Q .normal s) : blkP i Q .normal s := h
theorem blk_ret {i : Nat} (h : Q .ret s) : blkP i Q .ret s := h
theorem blk_exit {i : Nat} (h : Q .normal s) : blkP i Q (.exit i) s := by
  show (match Nat.beq i i with | true => _ | false => _)
  rw [show Nat.beq i i = true from Nat.beq_refl i]
  exact h
theorem blk_out {i j : Nat} (hij : Nat.beq j i = false) (h : Q (.exit j) s) : blkP i Q (.exit j) s := by
  show (match Nat.beq j i with | true => _ | false => _)
  rw [hij]
  exact h
theorem stp_awO {n0 : Nat} {o : AOper} {k : St → Prop} (h : stp true cl n0 o s = some s') (hp : s'.p) (hk : k (clean s')) : awO cl n0 o (clean s) k ∧ s.p := by
  rcases stp_cases h with ⟨hy, out, ho, hw, rfl⟩ | ⟨hy, rfl⟩
  · have hfin : ∀ s2 : St, s2.sl = s.sl → s2.hp = s.hp → s2.base = s.base → s2.wr = s.wr → finS o s2 (n0 + o.rank) out = some ⟨andP s2.p out.p, setD s2.sl o.dst out.d, app out.δ s2.hp ++ out.grow, s2.base, addW s2.base out.δ s2.wr⟩ := fun s2 e1 e2 e3 e4 => by
      unfold finS
      split
      · rename_i h1 h2
        rw [h1, h2]
        simp [app, addW]
      · have : (o.wrt || calm o s2.sl (n0 + o.rank) out) = true := by rw [e1]; simpa using hw
        rw [this]
        simp
    have hps : s.p ∧ ∀ q, out.p = some q → q := by
      dsimp only at hp
      cases hq : out.p with
      | none => rw [hq] at hp; exact ⟨hp, fun q h => by cases h⟩
      | some q => rw [hq] at hp; exact ⟨hp.1, fun q' h => by cases h; exact hp.2⟩
    refine ⟨?_, hps.1⟩
    have hsome : someP (finS o (clean s) (n0 + o.rank) out) k := by
      rw [hfin (clean s) rfl rfl rfl rfl]
      exact hk
    have hdo : doP cl n0 o (clean s) k := by
      unfold doP
      split
      · rename_i c x y hop
        rw [hop] at ho
        simp only [core, coreF, c_pick] at ho
        unfold pickP
        show (match evO s.sl c with | .val (.bool t) => _ | _ => _)
        split at ho
        · rename_i t ht
          rw [ht]
          cases t
          · have := Option.some.inj ho
            subst this
            exact hsome
          · have := Option.some.inj ho
            subst this
            exact hsome
        · cases ho
      · unfold outP
        rw [hideK_eq]
        have ho' : core true cl (clean s).sl (hideL n0 (clean s).sl o.hide (clean s).hp) (n0 + o.rank) o.op = some out := ho
        rw [ho']
        show withP out.p (someP (finS o (clean s) (n0 + o.rank) out) k)
        unfold withP
        split
        · exact hsome
        · rename_i q hq
          exact ⟨hps.2 q hq, hsome⟩
    unfold awO
    split
    · exact hdo
    · rename_i g hg
      rw [hg] at hy
      have hy' : yes (clean s).sl (some g) = some true := hy
      rw [hy']
      exact hdo
  · refine ⟨?_, hp⟩
    unfold awO
    split
    · rename_i hg
      rw [hg] at hy
      cases hy
    · rename_i g hg
      rw [hg] at hy
      have hy' : yes (clean s).sl (some g) = some false := hy
      rw [hy']
      show someP _ k
      simp only [setT_eq]
      exact hk
theorem stps_awR {n0 : Nat} {k : St → Prop} : ∀ (l : List AOper) (s : St), stps true cl n0 l s = some s' → s'.p → k (clean s') → awR cl n0 l (clean s) k ∧ s.p
  | [], s, h, hp, hk => by
    rw [stps_nil] at h
    cases h
    exact ⟨hk, hp⟩
  | o :: l, s, h, hp, hk => by
    rw [stps_cons] at h
    split at h
    · rename_i s1 h1
      obtain ⟨g1, g2⟩ := stps_awR l s1 h hp hk
      exact stp_awO h1 g2 g1
    · cases h
theorem isSome_unS {r : Option St} (h : r.isSome = true) : r = some (unS r) := by
  cases r with
  | none => cases h
  | some s => rfl
/-- a region -/
theorem aw_region {ops : List AOper} {n : Nat} {q : Prop} (hs : clean s = s) (h : (reg true cl ops n s).isSome = true) (hq : aftP cl ops n s = q) (hp : q) (hk : Q .normal (aft cl ops n s)) : AW cl LP (.region ops n) s Q := by
  refine ⟨?_⟩
  have h1 := isSome_unS h
  have hp' : (unS (reg true cl ops n s)).p := by
    rw [← hq] at hp
    exact hp
  have hk' : Q .normal (clean (unS (reg true cl ops n s))) := hk
  generalize unS (reg true cl ops n s) = s' at h1 hp' hk'
  unfold reg at h1
  simp only [growS_eq, forceN_eq, lenG_eq] at h1
  have := (stps_awR (k := Q .normal) ops _ h1 hp' hk').1
  show regP cl ops n s (Q .normal)
  unfold regP
  simp only [growS_eq, lenG_eq]
  rw [← hs]
  exact this
theorem aw_reg {ops : List AOper} {n : Nat} {b : ACode} (q : Prop) (hp : q) (hk : AW cl LP b (aft cl ops n s) Q) (hs : clean s = s := by kernel_rfl) (h : (reg true cl ops n s).isSome = true := by kernel_rfl) (hq : aftP cl ops n s = q := by kernel_rfl) : AW cl LP (.seq (.region ops n) b) s Q :=
  aw_seq (aw_region hs h hq hp hk)
/-- a region without conditions -/
theorem aw_reg0 {ops : List AOper} {n : Nat} {b : ACode} (hk : AW cl LP b (aft cl ops n s) Q) (hs : clean s = s := by kernel_rfl) (h : (reg true cl ops n s).isSome = true := by kernel_rfl) (hq : aftP cl ops n s = True := by kernel_rfl) : AW cl LP (.seq (.region ops n) b) s Q :=
  aw_reg True trivial hk hs h hq
/-- a region at the end -/
theorem aw_end {ops : List AOper} {n : Nat} (q : Prop) (hp : q) (hk : Q .normal (aft cl ops n s)) (hs : clean s = s := by kernel_rfl) (h : (reg true cl ops n s).isSome = true := by kernel_rfl) (hq : aftP cl ops n s = q := by kernel_rfl) : AW cl LP (.region ops n) s Q :=
  aw_region hs h hq hp hk
theorem aw_end0 {ops : List AOper} {n : Nat} (hk : Q .normal (aft cl ops n s)) (hs : clean s = s := by kernel_rfl) (h : (reg true cl ops n s).isSome = true := by kernel_rfl) (hq : aftP cl ops n s = True := by kernel_rfl) : AW cl LP (.region ops n) s Q :=
  aw_region hs h hq trivial hk
/-- a test that is decided by what t is -/
theorem aw_if {c : Operand} {x y : ACode} (t : Bool) (h1 : t = true → AW cl LP x s Q) (h2 : t = false → AW cl LP y s Q) (h : evO s.sl c = .val (.bool t) := by kernel_rfl) : AW cl LP (.cond c x y) s Q := by
  refine ⟨?_⟩
  show testP (evO s.sl c) _ _
  rw [h]
  show iteP t _ _
  exact iteP_intro (fun e => (h1 e).out) (fun e => (h2 e).out)
theorem aw_ifs {c : Operand} {x y b : ACode} (t : Bool) (h1 : t = true → AW cl LP (.seq x b) s Q) (h2 : t = false → AW cl LP (.seq y b) s Q) (h : evO s.sl c = .val (.bool t) := by kernel_rfl) : AW cl LP (.seq (.cond c x y) b) s Q := by
  have key : ∀ z : ACode, AW cl LP (.seq z b) s Q → AW cl LP z s (seqP cl LP b Q) := fun z hz => by
    have := hz.out
    refine ⟨?_⟩
    rw [seqP_eq]
    exact this
  exact aw_seq (aw_if t (fun e => key _ (h1 e)) (fun e => key _ (h2 e)) h)
/-- a test whose way is known -/
theorem aw_yes {c : Operand} {x y b : ACode} (hk : AW cl LP (.seq x b) s Q) (h : evO s.sl c = .val (.bool true) := by kernel_rfl) : AW cl LP (.seq (.cond c x y) b) s Q :=
  aw_ifs true (fun _ => hk) (fun e => by cases e) h
theorem aw_no {c : Operand} {x y b : ACode} (hk : AW cl LP (.seq y b) s Q) (h : evO s.sl c = .val (.bool false) := by kernel_rfl) : AW cl LP (.seq (.cond c x y) b) s Q :=
  aw_ifs false (fun e => by cases e) (fun _ => hk) h
theorem aw_yesE {c : Operand} {x y : ACode} (hk : AW cl LP x s Q) (h : evO s.sl c = .val (.bool true) := by kernel_rfl) : AW cl LP (.cond c x y) s Q :=
  aw_if true (fun _ => hk) (fun e => by cases e) h
theorem aw_noE {c : Operand} {x y : ACode} (hk : AW cl LP y s Q) (h : evO s.sl c = .val (.bool false) := by kernel_rfl) : AW cl LP (.cond c x y) s Q :=
  aw_if false (fun e => by cases e) (fun _ => hk) h
theorem set_any (K : Cust) (i : Nat) (s : St) : Wk K w0 ρ0 hp0 s ⟨True, s.sl.set i .any, s.hp, s.base, s.wr⟩ := by
  refine Wk.slots (by simp) fun j d d' h1 h2 => ?_
  rw [List.getElem?_set] at h2
  split at h2
  · split at h2
    · cases h2; exact .any d
    · cases h2
  · rw [h1] at h2; cases h2; exact .refl d
theorem Wk.fgt : ∀ (idx : List Nat) (s : St), Wk K w0 ρ0 hp0 s (fgt idx s)
  | [], s => Wk.slots (p := True) rfl fun i d d' h1 h2 => by
      have h2 : s.sl[i]? = some d' := h2
      rw [h1] at h2
      cases h2
      exact .refl d
  | i :: l, s => (set_any K i s).trans (Wk.fgt l ⟨True, s.sl.set i .any, s.hp, s.base, s.wr⟩)
/-- the end of a round -/
structure RoundP {ι : Type} (K : Cust) (w0 : World) (ρ0 : List Own) (hp0 : List Blk) (st : ι → St) (μ : ι → Nat) (i : ι) (Q : Ex → St → Prop) (e : Ex) (s : St) : Prop where
  out : roundP K w0 ρ0 hp0 st μ i Q e s
/-- a loop -/
theorem aw_loop {ι : Type} (hm : P.follows .mixedOrders = true) (hcl : ClOK K P cl) {b r : ACode} {k : Nat} (idx : List Nat) (st : ι → St) (μ : ι → Nat) (i : ι)
    (round : ∀ i, AW cl (LoopA K P w0 ρ0 hp0) b (st i) (RoundP K w0 ρ0 hp0 st μ i (blkP k (seqP cl (LoopA K P w0 ρ0 hp0) r Q))))
    (he : Go.Ev.fgt idx s = st i) : AW cl (LoopA K P w0 ρ0 hp0) (.seq (.block k (.loop b)) r) s Q := by
  refine aw_blocks ⟨?_⟩
  refine loop_rule (Q := blkP k (seqP cl (LoopA K P w0 ρ0 hp0) r Q)) hm hcl st μ (fun i => ?_) i (he ▸ Wk.fgt idx s)
  have := (round i).out
  have e : RoundP K w0 ρ0 hp0 st μ i (blkP k (seqP cl (LoopA K P w0 ρ0 hp0) r Q)) = roundP K w0 ρ0 hp0 st μ i (blkP k (seqP cl (LoopA K P w0 ρ0 hp0) r Q)) := by
    funext e s
    exact propext ⟨fun h => h.out, fun h => ⟨h⟩⟩
  rw [e] at this
  exact this
theorem round_end {ι : Type} (idx : List Nat) {st : ι → St} {μ : ι → Nat} {i : ι} (j : ι) (hj : μ j < μ i) (he : Go.Ev.fgt idx s = st j) : RoundP K w0 ρ0 hp0 st μ i Q .normal s :=
  ⟨j, hj, he ▸ Wk.fgt idx s⟩
theorem round_exit {ι : Type} {st : ι → St} {μ : ι → Nat} {i : ι} {k : Nat} (h : Q (.exit k) s) : RoundP K w0 ρ0 hp0 st μ i Q (.exit k) s := ⟨h⟩
theorem round_ret {ι : Type} {st : ι → St} {μ : ι → Nat} {i : ι} (h : Q .ret s) : RoundP K w0 ρ0 hp0 st μ i Q .ret s := ⟨h⟩
/-- the end of a function -/
structure EndP (raw : Bool) (nid : Nat) (fn : AFun) (R : Out → Prop) (e : Ex) (s : St) : Prop where
  out : exitW raw nid fn R e s
theorem endO_p {raw : Bool} {nid : Nat} {fn : AFun} {R : Out → Prop} {e : Ex} (out : Out) (hR : R out) (h : endO raw nid fn e s = some out := by kernel_rfl) : EndP raw nid fn R e s := by
  refine ⟨?_⟩
  unfold endO at h
  unfold exitW
  split at h
  · rename_i h1
    rw [h1]
    split at h
    · rename_i rds h2
      rw [h2]
      show (match leave raw nid s rds with | some out => R out | none => False)
      rw [h]
      exact hR
    · cases h
  · cases h
/-- what is known of a test's slot may be written there -/
theorem slot_known {i : Nat} {d d' : D} (h : s.sl[i]? = some d) (e : d = d') : s.sl.set i d' = s.sl := by
  subst e
  apply List.ext_getElem?
  intro j
  rw [List.getElem?_set]
  split
  · rename_i hij
    subst hij
    rw [if_pos (List.getElem?_eq_some_iff.1 h).1, h]
  · rfl
/-- a region in whose middle stands a test: the operations up to it, and then both ways -/
theorem aw_split {n0 : Nat} {ops1 ops2 : List AOper} {k : St → Prop} (i : Nat) (q : Prop) (t : Bool) (hp : q)
    (h1 : t = true → awR cl n0 ops2 (put1 i (.val (.bool true)) (clean (unS (stps true cl n0 ops1 s)))) k) (h2 : t = false → awR cl n0 ops2 (put1 i (.val (.bool false)) (clean (unS (stps true cl n0 ops1 s)))) k)
    (hs : clean s = s := by kernel_rfl) (h : (stps true cl n0 ops1 s).isSome = true := by kernel_rfl) (hq : (unS (stps true cl n0 ops1 s)).p = q := by kernel_rfl) (hi : getG (unS (stps true cl n0 ops1 s)).sl i = some (.val (.bool t)) := by kernel_rfl) :
    awR cl n0 (ops1 ++ ops2) s k := by
  rw [getG_eq] at hi
  have happ : ∀ (l : List AOper) (s : St), awR cl n0 (l ++ ops2) s k = awR cl n0 l s (fun s => awR cl n0 ops2 s k) := by
    intro l
    induction l with
    | nil => intro s; rfl
    | cons o l ih =>
      intro s
      show awO cl n0 o s (fun s => awR cl n0 (l ++ ops2) s k) = awO cl n0 o s (fun s => awR cl n0 l s (fun s => awR cl n0 ops2 s k))
      congr 1
      funext s
      exact ih s
  rw [happ]
  have e := isSome_unS h
  have := (stps_awR (k := fun s => awR cl n0 ops2 s k) ops1 s e (by rw [hq]; exact hp) ?_).1
  · rw [hs] at this
    exact this
  · show awR cl n0 ops2 (clean (unS (stps true cl n0 ops1 s))) k
    cases t with
    | true =>
      have := h1 rfl
      unfold put1 at this
      have e2 := slot_known (s := clean (unS (stps true cl n0 ops1 s))) (i := i) (d := .val (.bool true)) (d' := .val (.bool true)) hi rfl
      rw [e2] at this
      exact this
    | false =>
      have := h2 rfl
      unfold put1 at this
      have e2 := slot_known (s := clean (unS (stps true cl n0 ops1 s))) (i := i) (d := .val (.bool false)) (d' := .val (.bool false)) hi rfl
      rw [e2] at this
      exact this
end
end Go.Ev
namespace Go.Ev
/-- a part of a code: 0 and 1 are the parts of a sequence or of a test, 0 the body of a block or a loop -/
def sub : List Nat → ACode → ACode
  | [], c => c
  | 0 :: p, .seq a _ => sub p a
  | 1 :: p, .seq _ b => sub p b
  | 0 :: p, .cond _ a _ => sub p a
  | 1 :: p, .cond _ _ b => sub p b
  | 0 :: p, .block _ b => sub p b
  | 0 :: p, .loop b => sub p b
  | _, c => c
def regs : ACode → List (List AOper × Nat)
  | .region l n => [(l, n)]
  | .seq a b | .cond _ a b => regs a ++ regs b
  | .block _ b | .loop b => regs b
  | _ => []
def regAt (c : ACode) (k : Nat) : List AOper × Nat := (regs c).getD k ([], 0)
/-- the state behind the k-th region -/
noncomputable def at_ (cl : FuncId → List D → List Blk → Nat → Option Out) (c : ACode) (k : Nat) (s : St) : St := aft cl (regAt c k).1 (regAt c k).2 s
def noC : FuncId → List D → List Blk → Nat → Option Out := fun _ _ _ _ => none
theorem noC_ok {K : Cust} {P : Program} : ClOK K P noC := fun _ _ _ _ _ h => by cases h
end Go.Ev
namespace Go.Ev
theorem EndP_eq {raw : Bool} {nid : Nat} {fn : AFun} {R : Out → Prop} : EndP raw nid fn R = exitW raw nid fn R := by
  funext e s
  exact propext ⟨fun h => h.out, fun h => ⟨h⟩⟩
/-- a function alone, by its walk -/
theorem Alone.ofW {P : Program} {cl : FuncId → List D → List Blk → Nat → Option Out} {f : FuncId} {fn : AFun} {raw : Bool} (hm : P.follows .mixedOrders = true) (hcl : ∀ K, ClOK K P cl) (hf : compF P f = some fn) {ds : List D} {d : D}
    (h : ∀ K w, AW cl (LoopA K P w [.fresh] [.dead]) fn.body (startF fn ds [.dead]) (EndP raw 0 fn fun o => o = ⟨none, d, [], []⟩)) : Alone P f ds d :=
  Alone.of hm hcl hf fun K w => by
    have := (h K w).out
    rw [EndP_eq] at this
    exact this
end Go.Ev
namespace Go.Ev
/-! ### Loops of so many rounds -/
/-- the loop ends within n rounds -/
def unroll (cl : FuncId → List D → List Blk → Nat → Option Out) (LP : ACode → St → (Ex → St → Prop) → Prop) (b : ACode) : Nat → (Ex → St → Prop) → St → Prop
  | 0, _, _ => False
  | n + 1, Q, s => aw cl LP b s (thenP (unroll cl LP b n Q) Q)
structure Unr (cl : FuncId → List D → List Blk → Nat → Option Out) (LP : ACode → St → (Ex → St → Prop) → Prop) (b : ACode) (n : Nat) (Q : Ex → St → Prop) (s : St) : Prop where
  out : unroll cl LP b n Q s
def unrP (cl : FuncId → List D → List Blk → Nat → Option Out) (LP : ACode → St → (Ex → St → Prop) → Prop) (b : ACode) (n : Nat) (Q : Ex → St → Prop) (e : Ex) (s : St) : Prop := match e with
  | .normal => Unr cl LP b n Q s
  | e => Q e s
section
variable {K : Cust} {P : Program} {w0 : World} {ρ0 : List Own} {hp0 : List Blk} {s : St} {cl : FuncId → List D → List Blk → Nat → Option Out} {LP : ACode → St → (Ex → St → Prop) → Prop} {Q : Ex → St → Prop} {b : ACode} {n : Nat}
theorem unr_step (h : AW cl LP b s (unrP cl LP b n Q)) : Unr cl LP b (n + 1) Q s := by
  refine ⟨?_⟩
  have h := h.out
  have e : unrP cl LP b n Q = thenP (unroll cl LP b n Q) Q := by
    funext e s
    cases e
    · exact propext ⟨fun h => h.out, fun h => ⟨h⟩⟩
    · rfl
    · rfl
  rw [e] at h
  exact h
theorem unr_next (h : Unr cl LP b n Q s) : unrP cl LP b n Q .normal s := h
theorem unr_exit {i : Nat} (h : Q (.exit i) s) : unrP cl LP b n Q (.exit i) s := h
theorem unr_ret (h : Q .ret s) : unrP cl LP b n Q .ret s := h
theorem unroll_loop (hm : P.follows .mixedOrders = true) (hcl : ClOK K P cl) (h : unroll cl (LoopA K P w0 ρ0 hp0) b n Q s) : LoopA K P w0 ρ0 hp0 b s Q := by
  intro c hc w ρ a hI
  refine wp_loop_rounds n ?_
  induction n generalizing w ρ a s with
  | zero => exact h.elim
  | succ n ih =>
    refine Code.wp_mono (fun x a' w' hx => ?_) (aw_ok hm hcl c b s _ hc h w ρ a hI)
    obtain ⟨e, s', ρ', rfl, hI', hq⟩ := hx
    cases e with
    | normal => exact ih hq w' ρ' a' hI'
    | exit i => exact ⟨.exit i, s', ρ', rfl, hI', hq⟩
    | ret => exact ⟨.ret, s', ρ', rfl, hI', hq⟩
theorem aw_unroll {r : ACode} {k : Nat} (n : Nat) (hm : P.follows .mixedOrders = true) (hcl : ClOK K P cl) (h : Unr cl (LoopA K P w0 ρ0 hp0) b n (blkP k (seqP cl (LoopA K P w0 ρ0 hp0) r Q)) s) :
    AW cl (LoopA K P w0 ρ0 hp0) (.seq (.block k (.loop b)) r) s Q :=
  aw_blocks ⟨unroll_loop hm hcl h.out⟩
end
/-- a region whose operations are taken in two parts -/
structure AWR (cl : FuncId → List D → List Blk → Nat → Option Out) (n0 : Nat) (ops : List AOper) (s : St) (k : St → Prop) : Prop where
  out : awR cl n0 ops s k
section
variable {s : St} {cl : FuncId → List D → List Blk → Nat → Option Out} {LP : ACode → St → (Ex → St → Prop) → Prop} {Q : Ex → St → Prop} {n0 : Nat} {k : St → Prop}
noncomputable def regS (n : Nat) (s : St) : St := ⟨True, s.sl, s.hp ++ deads n, s.base, s.wr⟩
theorem aw_open {ops : List AOper} {n : Nat} (h : AWR cl (lenG s.hp) ops (regS n s) (Q .normal)) (hs : clean s = s := by kernel_rfl) : AW cl LP (.region ops n) s Q := by
  refine ⟨?_⟩
  show regP cl ops n s (Q .normal)
  unfold regP
  simp only [growS_eq]
  have := h.out
  unfold regS at this
  have e : s.p = True := by rw [← hs]; rfl
  rw [e]
  exact this
theorem aw_opens {ops : List AOper} {n : Nat} {b : ACode} (h : AWR cl (lenG s.hp) ops (regS n s) (fun s => AW cl LP b s Q)) (hs : clean s = s := by kernel_rfl) : AW cl LP (.seq (.region ops n) b) s Q :=
  aw_seq (aw_open (Q := seqP cl LP b Q) h hs)
noncomputable def stS (cl : FuncId → List D → List Blk → Nat → Option Out) (n0 : Nat) (ops : List AOper) (s : St) : St := clean (unS (stps true cl n0 ops s))
/-- the first j operations, and then a test both ways -/
theorem awr_test {ops : List AOper} (j i : Nat) (t : Bool) (h1 : t = true → AWR cl n0 (ops.drop j) (put1 i (.val (.bool true)) (stS cl n0 (ops.take j) s)) k) (h2 : t = false → AWR cl n0 (ops.drop j) (put1 i (.val (.bool false)) (stS cl n0 (ops.take j) s)) k)
    (hs : clean s = s := by kernel_rfl) (h : (stps true cl n0 (ops.take j) s).isSome = true := by kernel_rfl) (hq : (unS (stps true cl n0 (ops.take j) s)).p = True := by kernel_rfl) (hi : getG (unS (stps true cl n0 (ops.take j) s)).sl i = some (.val (.bool t)) := by kernel_rfl) : AWR cl n0 ops s k := by
  have := aw_split (ops2 := ops.drop j) (k := k) i True t trivial (fun e => (h1 e).out) (fun e => (h2 e).out) hs h hq hi
  rw [List.take_append_drop] at this
  exact ⟨this⟩
/-- the rest of the operations -/
theorem awr_end {ops : List AOper} (q : Prop) (hp : q) (hk : k (stS cl n0 ops s)) (hs : clean s = s := by kernel_rfl) (h : (stps true cl n0 ops s).isSome = true := by kernel_rfl) (hq : (unS (stps true cl n0 ops s)).p = q := by kernel_rfl) : AWR cl n0 ops s k := by
  have e := isSome_unS h
  have := (stps_awR (k := k) ops s e (by rw [hq]; exact hp) hk).1
  rw [hs] at this
  exact ⟨this⟩
theorem awr_end0 {ops : List AOper} (hk : k (stS cl n0 ops s)) (hs : clean s = s := by kernel_rfl) (h : (stps true cl n0 ops s).isSome = true := by kernel_rfl) (hq : (unS (stps true cl n0 ops s)).p = True := by kernel_rfl) : AWR cl n0 ops s k :=
  awr_end True trivial hk hs h hq
end
end Go.Ev
end
section
namespace Go.Ev
/-! ### What a callee only reads: the caller's blocks are seen as if nobody's -/
def rowB (n : Nat) (b : Nat → Int) : D := .row 1 n fun i => [.val (.int .u8 (b i))]
def byteN : D → Option Int
  | .val (.int .u8 n) => if 0 ≤ n ∧ n < 256 then some n else none
  | _ => none
def intsOf : List D → Option (List Int)
  | [] => some []
  | d :: l => match byteN d, intsOf l with | some n, some r => some (n :: r) | _, _ => none
def cell1 : List D → Option Int
  | [d] => byteN d
  | _ => none
def rowInts (f : Nat → List D) : Nat → Nat → Option (List Int)
  | 0, _ => some []
  | n + 1, i => match cell1 (f i), rowInts f n (i + 1) with | some x, some r => some (x :: r) | _, _ => none
/-- the bytes of a slice -/
noncomputable def bytesOfD (hp : List Blk) : D → Option (List Int)
  | .val (.slice none 0 0) => some []
  | .sl id off len k _ => match Nat.beq k 1, cellsAt hp id with
    | true, some cs => match Nat.ble (off + len) (lenG cs) with | true => intsOf (takeG (dropG cs off) len) | false => none
    | _, _ => none
  | .row k len f => match Nat.beq k 1 with | true => rowInts f len 0 | false => none
  | _ => none
theorem byteN_some {d : D} {n : Int} (h : byteN d = some n) : d = .val (.int .u8 n) ∧ 0 ≤ n ∧ n < 256 := by
  unfold byteN at h
  split at h
  · split at h
    · cases h; exact ⟨rfl, by assumption⟩
    · cases h
  · cases h
theorem intsOf_get : ∀ {cs : List D} {ns : List Int}, intsOf cs = some ns → cs.length = ns.length ∧ ∀ i, i < ns.length → cs[i]? = some (.val (.int .u8 (ns.getD i 0))) ∧ 0 ≤ ns.getD i 0 ∧ ns.getD i 0 < 256
  | [], ns, h => by simp only [intsOf] at h; cases h; exact ⟨rfl, fun i hi => by simp at hi⟩
  | d :: cs, ns, h => by
    simp only [intsOf] at h
    split at h
    · rename_i n r hn hr
      cases h
      obtain ⟨rfl, h0, h1⟩ := byteN_some hn
      obtain ⟨g1, g2⟩ := intsOf_get hr
      refine ⟨by simp [g1], fun i hi => ?_⟩
      cases i with
      | zero => exact ⟨by simp, by simpa using h0, by simpa using h1⟩
      | succ i => simpa using g2 i (by simpa using hi)
    · cases h
theorem rowInts_get {f : Nat → List D} : ∀ {n i : Nat} {ns : List Int}, rowInts f n i = some ns → ns.length = n ∧ ∀ j, j < n → f (i + j) = [.val (.int .u8 (ns.getD j 0))] ∧ 0 ≤ ns.getD j 0 ∧ ns.getD j 0 < 256
  | 0, i, ns, h => by simp only [rowInts] at h; cases h; exact ⟨rfl, fun j hj => by omega⟩
  | n + 1, i, ns, h => by
    simp only [rowInts] at h
    split at h
    · rename_i x r hx hr
      cases h
      obtain ⟨g1, g2⟩ := rowInts_get hr
      have hx' : f i = [.val (.int .u8 x)] ∧ 0 ≤ x ∧ x < 256 := by
        unfold cell1 at hx
        split at hx
        · rename_i d hd
          obtain ⟨rfl, h01⟩ := byteN_some hx
          exact ⟨hd, h01⟩
        · cases hx
      refine ⟨by simp [g1], fun j hj => ?_⟩
      cases j with
      | zero => exact ⟨by simpa using hx'.1, by simpa using hx'.2.1, by simpa using hx'.2.2⟩
      | succ j =>
        have := g2 j (by omega)
        rw [show i + (j + 1) = i + 1 + j by omega]
        simpa using this
    · cases h
section
variable {K : Cust} {P : Program} {w w' : World} {ρ : List Own} {hp : List Blk} {nid : Nat}
theorem see_live {b : Nat} : isLive K [Own.fresh] b ↔ K.hid b := by
  constructor
  · rintro (h | ⟨i, n, hi⟩)
    · exact h
    · cases i <;> simp at hi
  · exact fun h => .inl h
theorem see_sub : Sub (mask K w ρ) (mask K w [.fresh]) := fun b cs ty fr h => by
  rw [mask_some] at *
  exact ⟨fun hl => h.1 (.inl (see_live.1 hl)), h.2⟩
theorem see_own {b : Nat} {cs : Array Value} {ty : TypeId} {fr : Nat × Nat} (h : w.heap[b]? = some (Obj.cells cs ty fr)) (hb : ¬ K.hid b) : (mask K w [.fresh]).heap[b]? = some (Obj.cells cs ty fr) :=
  mask_some.2 ⟨fun hl => hb (see_live.1 hl), h⟩
theorem OK.see (hk : OK K w ρ hp) : OK K w [.fresh] [.dead] := by
  refine ⟨rfl, fun i b n hi => ?_, fun i j b n m hi => ?_, fun i x hx => ?_, hk.hid, fun i b n hi => ?_⟩
  · cases i <;> simp at hi
  · cases i <;> simp at hi
  · cases i with
    | zero => simp at hx; subst hx; trivial
    | succ i => simp at hx
  · cases i <;> simp at hi
theorem Res.unsee {p : Option Prop} {x v : Value} (h : Res K w [.fresh] [.dead] 0 ⟨p, .val x, [], []⟩ v w') : Res K w ρ hp nid ⟨p, .val x, [], []⟩ v w' := by
  obtain ⟨ρ1, h1, h2⟩ := h
  have hkeep : ∀ b : Nat, b < w.heap.size → w'.heap[b]? = w.heap[b]? := fun b hb => h2.keep b hb fun i n hi => by cases i <;> simp at hi
  exact ⟨ρ, by simpa [Rep] using h1, Eff.foreign h2.size hkeep h2.env⟩
theorem see_bytes {d : D} {v : Value} {ns : List Int} (hk : OK K w ρ hp) (h : Rep K (mask K w ρ) ρ d v) (hb : bytesOfD hp d = some ns) :
    Rep K (mask K w [.fresh]) [.fresh] (rowB ns.length fun i => ns.getD i 0) v ∧ ∀ i, i < ns.length → 0 ≤ ns.getD i 0 ∧ ns.getD i 0 < 256 := by
  unfold bytesOfD at hb
  split at hb
  · cases hb
    simp only [Rep] at h
    subst h
    refine ⟨?_, fun i hi => by simp at hi⟩
    simp only [rowB, Rep]
    exact .inl ⟨by simp, rfl⟩
  · rename_i id off len k cap
    split at hb
    · rename_i cs hk1 hcs
      obtain rfl := Nat.eq_of_beq_eq_true hk1
      split at hb
      · rename_i hle
        have hle := Nat.le_of_ble_eq_true hle
        rw [lenG_eq] at hle
        rw [takeG_eq, dropG_eq] at hb
        obtain ⟨g1, g2⟩ := intsOf_get hb
        obtain ⟨b, n', ho1, hbl⟩ := cellsAt_own hk hcs
        simp only [Rep, ho1] at h
        obtain ⟨c, rfl, hlc, _⟩ := h
        have hr := own_reads hbl
        obtain ⟨vs, ty, q1, q2, q3⟩ := hbl
        have hnh := hk.apart id b n' (own_live ho1)
        have hlen : ns.length = len := by
          rw [← g1]
          simp
          omega
        refine ⟨?_, fun i hi => (g2 i hi).2⟩
        simp only [rowB, Rep]
        refine .inr ⟨b, off, c, by rw [hlen], by omega, fun i hi => ?_⟩
        obtain ⟨e1, _⟩ := g2 i hi
        rw [List.getElem?_take, if_pos (by omega), List.getElem?_drop] at e1
        obtain ⟨x, p1, p2⟩ := hr _ _ e1
        simp only [Rep] at p2
        subst p2
        simp only [RepC, and_true]
        refine ⟨.int .u8 (ns.getD i 0), ?_, by simp only [Rep]⟩
        unfold World.cell? at p1 ⊢
        simp only at p1 ⊢
        rw [q1] at p1
        rw [see_own q1 hnh]
        simp only at p1 ⊢
        rw [Nat.mul_one]
        rw [Nat.zero_add] at p1
        exact p1
      · cases hb
    · cases hb
  · rename_i k len f
    split at hb
    · rename_i hk1
      obtain rfl := Nat.eq_of_beq_eq_true hk1
      obtain ⟨g1, g2⟩ := rowInts_get hb
      subst g1
      refine ⟨?_, fun i hi => (g2 i hi).2⟩
      simp only [Rep] at h
      simp only [rowB, Rep]
      rcases h with ⟨h1, h2⟩ | ⟨b, o, c, h1, h2, h3⟩
      · exact .inl ⟨h1, h2⟩
      · refine .inr ⟨b, o, c, h1, h2, fun i hi => ?_⟩
        have h4 := h3 i hi
        have e := (g2 i hi).1
        rw [Nat.zero_add] at e
        rw [e] at h4
        simp only [RepC, and_true] at h4 ⊢
        obtain ⟨x, p1, p2⟩ := h4
        simp only [Rep] at p2
        exact ⟨x, see_sub.cell p1, by simp only [Rep]; exact p2⟩
    · cases hb
  · cases hb
end
end Go.Ev
end
section
namespace Go.Ev
/-! ### A table of calls that are reckoned in a heap of their own -/
noncomputable section
def isVal : D → Bool
  | .val _ => true
  | _ => false
def allVal : List D → Bool
  | [] => true
  | d :: l => match isVal d with | true => allVal l | false => false
def rowVal (f : Nat → List D) : Nat → Nat → Bool
  | 0, _ => true
  | n + 1, i => match allVal (f i) with | true => rowVal f n (i + 1) | false => false
/-- what is seen, as nobody's -/
def seeD (hp : List Blk) : Nat → D → Option D
  | 0, _ => none
  | n + 1, d => match d with
    | .val v => some (.val v)
    | .sl id off len k _ => match cellsAt hp id with
      | some cs => match Nat.ble (off + len * k) (lenG cs) with
        | true => match allVal cs with
          | true => some (.row k len fun i => takeG (dropG cs (off + i * k)) k)
          | false => none
        | false => none
      | none => none
    | .row k len f => match rowVal f len 0 with
      | true => some (.row k len f)
      | false => none
    | .agg ds => match ds.mapM (seeD hp n) with | some ds => some (.agg ds) | none => none
    | _ => none
def valO : Option Out → Option Out
  | some ⟨none, .val x, [], []⟩ => some ⟨none, .val x, [], []⟩
  | some ⟨none, .tup ds, [], []⟩ => match allVal ds with | true => some ⟨none, .tup ds, [], []⟩ | false => none
  | _ => none
/-- calls of the functions of a set, reckoned alone -/
def isoT (S : FuncId → Bool) (cl : FuncId → List D → List Blk → Nat → Option Out) (f : FuncId) (ds : List D) (hp : List Blk) (_ : Nat) : Option Out := match S f with
  | true => match ds.mapM (seeD hp 5) with
    | some ds' => valO (cl f ds' [.dead] 0)
    | none => none
  | false => none
end
section
variable {K : Cust} {P : Program} {w w' : World} {ρ : List Own} {hp : List Blk} {nid : Nat}
theorem allVal_mem : ∀ {l : List D}, allVal l = true → ∀ d ∈ l, ∃ v, d = .val v
  | [], _, d, h => by cases h
  | x :: l, ha, d, h => by
    simp only [allVal] at ha
    split at ha
    · rename_i hx
      rcases List.mem_cons.1 h with rfl | h
      · unfold isVal at hx
        split at hx
        · exact ⟨_, rfl⟩
        · cases hx
      · exact allVal_mem ha d h
    · cases ha
theorem rowVal_get {f : Nat → List D} : ∀ {n i : Nat}, rowVal f n i = true → ∀ j, j < n → allVal (f (i + j)) = true
  | 0, i, h, j, hj => by omega
  | n + 1, i, h, j, hj => by
    simp only [rowVal] at h
    split at h
    · rename_i h0
      cases j with
      | zero => exact h0
      | succ j =>
        rw [show i + (j + 1) = i + 1 + j by omega]
        exact rowVal_get h j (by omega)
    · cases h
/-- cells that are written out can be read by whoever sees the block -/
theorem repC_vals {M : World} {ρ' : List Own} {b : Nat} : ∀ {cs : List D} {o : Nat}, (∀ d ∈ cs, ∃ v, d = .val v) → (∀ (j : Nat) (v : Value), cs[j]? = some (.val v) → M.cell? ⟨b, o + j, none⟩ = some v) → RepC K M ρ' cs b o
  | [], o, _, _ => by simp [RepC]
  | d :: cs, o, hv, hc => by
    obtain ⟨v, rfl⟩ := hv d (List.mem_cons_self ..)
    simp only [RepC]
    refine ⟨⟨v, by simpa using hc 0 v rfl, by simp only [Rep]⟩, repC_vals (fun d hd => hv d (List.mem_cons_of_mem _ hd)) fun j v hj => ?_⟩
    rw [show o + 1 + j = o + (j + 1) by omega]
    exact hc (j + 1) v (by simpa using hj)
theorem repC_cells {M : World} {ρ' : List Own} {b : Nat} : ∀ {cs : List D} {o : Nat}, RepC K M ρ' cs b o → ∀ (j : Nat) (v : Value), cs[j]? = some (.val v) → M.cell? ⟨b, o + j, none⟩ = some v
  | [], o, _, j, v, h => by simp at h
  | d :: cs, o, hc, j, v, h => by
    simp only [RepC] at hc
    cases j with
    | zero =>
      simp only [List.getElem?_cons_zero, Option.some.injEq] at h
      subst h
      obtain ⟨⟨x, h1, h2⟩, _⟩ := hc
      simp only [Rep] at h2
      subst h2
      exact h1
    | succ j =>
      have := repC_cells hc.2 j v (by simpa using h)
      rw [show o + 1 + j = o + (j + 1) by omega] at this
      exact this
theorem mapM_some {α β : Type} {g : α → Option β} : ∀ {l : List α} {r : List β}, l.mapM g = some r → l.length = r.length ∧ ∀ (i : Nat) (x : α), l[i]? = some x → ∃ y, r[i]? = some y ∧ g x = some y
  | [], r, h => by
    simp at h
    subst h
    exact ⟨rfl, fun i x hx => by simp at hx⟩
  | x :: l, r, h => by
    rw [List.mapM_cons] at h
    simp only [bind, Option.bind_eq_some_iff, pure, Option.some.injEq] at h
    obtain ⟨y, hy, ys, hys, rfl⟩ := h
    obtain ⟨g1, g2⟩ := mapM_some hys
    refine ⟨by simp [g1], fun i x' hx => ?_⟩
    cases i with
    | zero => simp at hx; subst hx; exact ⟨y, by simp, hy⟩
    | succ i => simpa using g2 i x' (by simpa using hx)
theorem see_rep (hk : OK K w ρ hp) : ∀ (n : Nat) (d d' : D) (v : Value), Rep K (mask K w ρ) ρ d v → seeD hp n d = some d' → Rep K (mask K w [.fresh]) [.fresh] d' v
  | 0, d, d', v, h, hs => by simp [seeD] at hs
  | n + 1, d, d', v, h, hs => by
    unfold seeD at hs
    split at hs
    · cases hs
      simpa only [Rep] using h
    · rename_i id off len k cap
      split at hs
      · rename_i cs hcs
        split at hs
        · rename_i hle
          have hle := Nat.le_of_ble_eq_true hle
          rw [lenG_eq] at hle
          split at hs
          · rename_i hall
            cases hs
            have hv := allVal_mem hall
            obtain ⟨b, n', ho1, hbl⟩ := cellsAt_own hk hcs
            simp only [Rep, ho1] at h
            obtain ⟨c, rfl, hlc, _⟩ := h
            have hr := own_reads hbl
            obtain ⟨vs, ty, q1, q2, q3⟩ := hbl
            have hnh := hk.apart id b n' (own_live ho1)
            simp only [Rep]
            refine .inr ⟨b, off, c, rfl, hlc, fun i hi => ?_⟩
            simp only [takeG_eq, dropG_eq]
            refine repC_vals (fun d hd => hv d (List.mem_of_mem_drop (List.mem_of_mem_take hd))) fun j v hj => ?_
            rw [List.getElem?_take] at hj
            split at hj
            · rw [List.getElem?_drop] at hj
              obtain ⟨x, p1, p2⟩ := hr _ _ hj
              simp only [Rep] at p2
              subst p2
              unfold World.cell? at p1 ⊢
              simp only at p1 ⊢
              rw [q1] at p1
              rw [see_own q1 hnh]
              simp only at p1 ⊢
              rw [Nat.zero_add] at p1
              exact p1
            · cases hj
          · cases hs
        · cases hs
      · cases hs
    · rename_i k len f
      split at hs
      · rename_i hall
        cases hs
        simp only [Rep] at h ⊢
        rcases h with h | ⟨b, o, c, h1, h2, h3⟩
        · exact .inl h
        · refine .inr ⟨b, o, c, h1, h2, fun i hi => ?_⟩
          have ha := rowVal_get hall i hi
          rw [Nat.zero_add] at ha
          exact repC_vals (allVal_mem ha) fun j v hj => see_sub.cell (repC_cells (h3 i hi) j v hj)
      · cases hs
    · rename_i ds
      split at hs
      · rename_i ds' hds
        cases hs
        simp only [Rep] at h ⊢
        obtain ⟨vs, rfl, hr⟩ := h
        refine ⟨vs, rfl, ?_⟩
        obtain ⟨g1, g2⟩ := mapM_some hds
        have hl := repL_length hr
        refine repL_of (by omega) fun i d' hd' => ?_
        have hi : i < ds.length := by
          have := (List.getElem?_eq_some_iff.1 hd').1
          omega
        obtain ⟨y, hy, hg⟩ := g2 i ds[i] (List.getElem?_eq_getElem hi)
        rw [hy] at hd'
        cases hd'
        obtain ⟨u, hu, hru⟩ := repL_get hr (List.getElem?_eq_getElem hi)
        exact ⟨u, hu, see_rep hk n _ _ u hru hg⟩
      · cases hs
    · cases hs
theorem repL_allVal {M M' : World} {ρ ρ' : List Own} : ∀ {ds : List D} {vs : List Value}, allVal ds = true → RepL K M ρ ds vs → RepL K M' ρ' ds vs
  | [], vs, _, h => by simpa only [RepL] using h
  | d :: ds, vs, ha, h => by
    obtain ⟨v, rfl⟩ := allVal_mem ha d (List.mem_cons_self ..)
    simp only [allVal, isVal] at ha
    simp only [RepL] at h ⊢
    obtain ⟨x, r, rfl, h1, h2⟩ := h
    exact ⟨x, r, rfl, by simpa only [Rep] using h1, repL_allVal ha h2⟩
theorem isoT_ok {S : FuncId → Bool} {cl : FuncId → List D → List Blk → Nat → Option Out} (hcl : ClOK K P cl) : ClOK K P (isoT S cl) := by
  intro f ds hp nid out h hc
  unfold isoT at h
  split at h
  · split at h
    · rename_i ds' hds
      have key : ∃ out', cl f ds' [.dead] 0 = some out' ∧ out'.p = none ∧ ((∃ x, out' = ⟨none, .val x, [], []⟩ ∧ out = ⟨none, .val x, [], []⟩) ∨ (∃ es, allVal es = true ∧ out' = ⟨none, .tup es, [], []⟩ ∧ out = ⟨none, .tup es, [], []⟩)) := by
        unfold valO at h
        split at h
        · rename_i x hx
          exact ⟨_, hx, rfl, .inl ⟨x, rfl, (Option.some.inj h).symm⟩⟩
        · rename_i es hx
          split at h
          · rename_i ha
            exact ⟨_, hx, rfl, .inr ⟨es, ha, rfl, (Option.some.inj h).symm⟩⟩
          · cases h
        · cases h
      obtain ⟨out', h1, hp', h2⟩ := key
      obtain ⟨g1, g2⟩ := hcl f ds' [.dead] 0 out' h1 (fun p hp => by rw [hp'] at hp; cases hp)
      refine ⟨g1, fun w ρ args hk hr hn => ?_⟩
      obtain ⟨m1, m2⟩ := mapM_some hds
      have hl := repL_length hr
      have hr' : RepL K (mask K w [.fresh]) [.fresh] ds' args := repL_of (by omega) fun i d' hd' => by
        have hi : i < ds.length := by
          have := (List.getElem?_eq_some_iff.1 hd').1
          omega
        obtain ⟨y, hy, hg⟩ := m2 i ds[i] (List.getElem?_eq_getElem hi)
        rw [hy] at hd'
        cases hd'
        obtain ⟨u, hu, hru⟩ := repL_get hr (List.getElem?_eq_getElem hi)
        exact ⟨u, hu, see_rep hk 5 _ _ u hru hg⟩
      refine (g2 w [.fresh] args hk.see hr' rfl).mono fun e w' hx => ?_
      obtain ⟨v, rfl, ρ1, q1, q2⟩ := hx
      have hkeep : out'.δ = [] → out'.grow = [] → Eff K w ρ hp nid w' ρ [] [] := fun e1 e2 => by
        rw [e1, e2] at q2
        exact Eff.foreign q2.size (fun b hb => q2.keep b hb fun i n hi => by cases i <;> simp at hi) q2.env
      rcases h2 with ⟨x, rfl, rfl⟩ | ⟨es, ha, rfl, rfl⟩
      · exact ⟨v, rfl, ρ, by simpa only [Rep] using q1, hkeep rfl rfl⟩
      · refine ⟨v, rfl, ρ, ?_, hkeep rfl rfl⟩
        simp only [Rep] at q1 ⊢
        obtain ⟨vs, rfl, hvs⟩ := q1
        exact ⟨vs, rfl, repL_allVal ha hvs⟩
    · cases h
  · cases h
/-- functions but those of a set -/
def without (S : FuncId → Bool) (F : FuncId → Option AFun) (f : FuncId) : Option AFun := match S f with
  | true => none
  | false => F f
theorem without_ok {S : FuncId → Bool} {F : FuncId → Option AFun} (h : ∀ f fn, F f = some fn → compF P f = some fn) : ∀ f fn, without S F f = some fn → compF P f = some fn := fun f fn hf => by
  unfold without at hf
  split at hf
  · cases hf
  · exact h f fn hf
end
end Go.Ev
namespace Go.Ev
/-- a table of functions that are told alone, their arguments seen as nobody's -/
noncomputable def seeT (g : FuncId) (r : List D → Option Value) (f : FuncId) (ds : List D) (hp : List Blk) (_ : Nat) : Option Out := match Nat.beq f g with
  | true => match ds.mapM (seeD hp 5) with
    | some ds' => match r ds' with
      | some v => some ⟨none, .val v, [], []⟩
      | none => none
    | none => none
  | false => none
theorem seeT_ok {K : Cust} {P : Program} {g : FuncId} {r : List D → Option Value} (henter : ∀ args w, (callFunc g args).run P w = .ok (.enter g args) w)
    (h : ∀ ds v, r ds = some v → ∃ ds', Less ds ds' ∧ Alone P g ds' (.val v)) : ClOK K P (seeT g r) := by
  intro f ds hp nid out ho hc
  unfold seeT at ho
  split at ho
  · rename_i hfg
    obtain rfl := Nat.eq_of_beq_eq_true hfg
    split at ho
    · rename_i ds' hds
      split at ho
      · rename_i v hv
        obtain rfl := (Option.some.inj ho).symm
        refine ⟨henter, fun w ρ args hk hr hn => ?_⟩
        obtain ⟨ds2, hl, hA⟩ := h ds' v hv
        obtain ⟨m1, m2⟩ := mapM_some hds
        have hlen := repL_length hr
        have hr' : RepL K (mask K w [.fresh]) [.fresh] ds' args := repL_of (by omega) fun i d' hd' => by
          have hi : i < ds.length := by
            have := (List.getElem?_eq_some_iff.1 hd').1
            omega
          obtain ⟨y, hy, hg⟩ := m2 i ds[i] (List.getElem?_eq_getElem hi)
          rw [hy] at hd'
          cases hd'
          obtain ⟨u, hu, hru⟩ := repL_get hr (List.getElem?_eq_getElem hi)
          exact ⟨u, hu, see_rep hk 5 _ _ u hru hg⟩
        refine (hA K w args hk.see (hl K _ _ _ hr')).mono fun e w' hx => ?_
        obtain ⟨x, rfl, hres⟩ := hx
        exact ⟨x, rfl, hres.unsee⟩
      · cases ho
    · cases ho
  · cases ho
theorem Less.row {k n : Nat} {f g : Nat → List D} {ds ds' : List D} (h : ∀ i, i < n → ∀ (K : Cust) (M : World) (ρ : List Own) (b o : Nat), RepC K M ρ (f i) b o → RepC K M ρ (g i) b o) (h2 : Less ds ds') : Less (.row k n f :: ds) (.row k n g :: ds') := .cons (fun K M ρ v hv => by
  simp only [Rep] at *
  rcases hv with hv | ⟨b, o, c, h1, h3, h4⟩
  · exact .inl hv
  · exact .inr ⟨b, o, c, h1, h3, fun i hi => h i hi K M ρ b _ (h4 i hi)⟩) h2
end Go.Ev
end
section
namespace Go.Ev
/-! ### A function that hands back a new array of its own -/
noncomputable def flatAt (id : Nat) (s : St) : St := ⟨s.p, s.sl, s.hp.set id (flatB (s.hp.getD id .dead)), s.base, s.wr⟩
section
variable {K : Cust} {P : Program} {w w' w0 : World} {ρ ρ0 : List Own} {hp hp0 : List Blk} {nid : Nat} {a : Act} {s : St}
theorem Inv.flatAt {id : Nat} (h : Inv K w0 ρ0 hp0 w ρ a s) (hb : s.base ≤ id) : Inv K w0 ρ0 hp0 w ρ a (flatAt id s) := by
  have hbase := h.base
  have hblen := h.blen
  have get : ∀ j : Nat, j < s.base → (s.hp.set id (flatB (s.hp.getD id .dead)))[j]? = s.hp[j]? := fun j hj => by
    rw [List.getElem?_set, if_neg (by omega)]
  refine ⟨h.size, h.keep, h.new, h.le, by simpa [Go.Ev.flatAt] using h.rlen, h.base, by simpa [Go.Ev.flatAt] using h.blen, fun i hi hw => ?_, fun i h1 h2 => ?_, fun hp2 hle hk => ?_, h.fr, h.slots, h.defers, h.start, h.env⟩
  · exact (get i (by omega)).trans (h.same i hi hw)
  · obtain ⟨q1, q2, q3⟩ := h.hid i h1 h2
    have : i < hp0.length := (List.getElem?_eq_some_iff.1 h1).1
    exact ⟨(get i (by omega)).trans q1, q2, q3⟩
  · have hok := h.ok hp2 hle hk
    have hl2 : s.base = hp2.length := by rw [hbase]; exact hle.1
    refine ⟨?_, hok.lt, hok.inj, fun i x hx => ?_, hok.hid, hok.apart⟩
    · have := hok.len
      unfold over at this ⊢
      simp only [List.length_append, app_length, List.length_drop, Go.Ev.flatAt, List.length_set] at this ⊢
      exact this
    · have e1 : (over (Go.Ev.flatAt id s) hp2)[i]? = if i < s.base then (if i ∈ s.wr then (s.hp.set id (flatB (s.hp.getD id .dead)))[i]? else hp2[i]?) else (s.hp.set id (flatB (s.hp.getD id .dead)))[i]? :=
        over_get (s := Go.Ev.flatAt id s) (hp2 := hp2) hl2 (by simp [Go.Ev.flatAt]; omega) i
      have e2 := over_get (s := s) (hp2 := hp2) hl2 (by omega) i
      rw [e1] at hx
      by_cases hi : i < s.base
      · rw [if_pos hi, get i hi] at hx
        rw [if_pos hi] at e2
        exact hok.blk i x (e2.trans hx)
      · rw [if_neg hi] at hx e2
        rw [List.getElem?_set] at hx
        split at hx
        · rename_i hid
          subst hid
          split at hx
          · rename_i hlt
            simp only [Option.some.injEq] at hx
            subst hx
            have : s.hp[id]? = some (s.hp.getD id .dead) := by
              rw [List.getD_eq_getElem?_getD, List.getElem?_eq_getElem hlt]
              rfl
            exact RepB_flat.2 (hok.blk id _ (e2.trans this))
          · cases hx
        · exact hok.blk i x (e2.trans hx)
/-- the end of a function, that may hand back an array told by a function -/
structure EndA (raw : Bool) (nid : Nat) (fn : AFun) (R : Out → Prop) (e : Ex) (s : St) : Prop where
  out : exitP raw nid fn R e s ∨ ∃ id, s.base ≤ id ∧ exitP raw nid fn R e (flatAt id s)
theorem fun_okA {cl : FuncId → List D → List Blk → Nat → Option Out} (hm : P.follows .mixedOrders = true) (hcl : ClOK K P cl) {f : FuncId} {fn : AFun} (hf : compF P f = some fn) {raw : Bool} {ds : List D} {hp : List Blk} {nid : Nat} {R : Out → Prop} {w : World} {ρ : List Own} {args : List Value}
    (h : AW cl (LoopA K P w ρ hp) fn.body (startF fn ds hp) (EndA raw nid fn R)) (hk : OK K w ρ hp) (hr : RepL K (mask K w ρ) ρ ds args) (hn : ρ[nid]? = some .fresh) :
    Calls P f args.toArray w fun e w' => ∃ v out, e = .returned v ∧ R out ∧ Res K w ρ hp nid out v w' := by
  unfold compF at hf
  split at hf
  · rename_i fu hfn
    split at hf
    · rename_i c hbody
      split at hf
      · rename_i ab rs hab hrs hname
        cases hf
        refine calls_of_wp hfn hbody (wp_mono (aw_ok hm hcl c ab _ _ hab h.out w ρ _ (Inv.init hk hr)) fun x a' w' hx => ?_)
        obtain ⟨e, s', ρ', rfl, hI, hq⟩ := hx
        obtain ⟨s'', hI, hex, rds, out, hrd, hl, hR⟩ : ∃ s'', Inv K w ρ hp w' ρ' a' s'' ∧ exitP raw nid ⟨fu.ntmps, rs, ab⟩ R e s'' := by
          rcases hq.out with hq | ⟨id, hid, hq⟩
          · exact ⟨s', hI, hq⟩
          · exact ⟨_, hI.flatAt hid, hq⟩
        obtain ⟨v, hv1, hv2⟩ := results_ok (fn := fu) hI.okHp hI.slots hrs hrd
        have hres := leave_ok hI hv2 hl hn
        cases e with
        | normal => exact ⟨hI.defers, v, hv1, v, out, rfl, hR, hres⟩
        | ret => exact ⟨hI.defers, v, hv1, v, out, rfl, hR, hres⟩
        | exit i => simp [exD] at hex
      · cases hf
    · cases hf
  · cases hf
theorem frozen_vals {n0 : Nat} {ban : Option Nat} {hp : List Blk} {m : Nat} {f : Nat → D} (hv : ∀ j, j < m → ∃ v, f j = .val v) : (tabL m f).mapM (froz n0 ban hp 20) = some (tabL m f) := by
  have key : ∀ l : List D, (∀ d ∈ l, ∃ v, d = .val v) → l.mapM (froz n0 ban hp 20) = some l := by
    intro l
    induction l with
    | nil => intro _; rfl
    | cons d l ih =>
      intro h
      obtain ⟨v, rfl⟩ := h d (List.mem_cons_self ..)
      rw [List.mapM_cons, ih fun d hd => h d (List.mem_cons_of_mem _ hd)]
      rfl
  refine key _ fun d hd => ?_
  unfold tabL at hd
  obtain ⟨j, hj, rfl⟩ := List.mem_map.1 hd
  exact hv j (List.mem_range.1 hj)
theorem end_arr {nid : Nat} {fn : AFun} {R : Out → Prop} {e : Ex} {id off n k m t : Nat} {f : Nat → D} (hv : ∀ j, j < m → ∃ v, f j = .val v) (hR : R ⟨none, .sl nid off n k none, [(nid, .cells (tabL m f))], []⟩)
    (he : exD e = true) (hfr : fn.results = [.inl t]) (hr : getK s.sl t = .sl id off n k none) (hb : getG s.hp id = some (.arr m f)) (hw : s.wr = []) (hbase : Nat.ble s.base id = true) : EndA false nid fn R e s := by
  have hb' := Nat.le_of_ble_eq_true hbase
  rw [getG_eq] at hb
  have hlt := (List.getElem?_eq_some_iff.1 hb).1
  have hblk : cellsAt (flatAt id s).hp id = some (tabL m f) := by
    unfold cellsAt flatAt
    rw [getG_eq, List.getElem?_set, if_pos rfl, if_pos hlt, List.getD_eq_getElem?_getD, hb]
    rfl
  have hwr : wrote (flatAt id s) = [] := by
    unfold wrote flatAt
    simp only [hw]
    rfl
  have hres : resD (flatAt id s) fn.results = some [.sl id off n k none] := by
    rw [hfr]
    simp only [resD]
    rw [getK_eq] at hr
    show some [s.sl.getD t .any] = _
    rw [hr]
  refine ⟨.inr ⟨id, hb', he, _, _, hres, ?_, hR⟩⟩
  unfold leave
  rw [hwr]
  simp only [List.all_nil, Bool.not_true, Bool.or_false]
  have ho : ownRes (flatAt id s).base [.sl id off n k none] = some (id, off, n, k, none) := by
    unfold ownRes flatAt
    simp only
    rw [if_neg (by omega)]
  rw [ho]
  simp only [hblk, frozen_vals hv, List.nil_append]
/-- a function, alone, that hands back a new array -/
def AloneA (P : Program) (f : FuncId) (ds : List D) (n k m : Nat) (g : Nat → Value) : Prop :=
  ∀ (K : Cust) (w : World) (args : List Value), OK K w [.fresh] [.dead] → RepL K (mask K w [.fresh]) [.fresh] ds args →
    Calls P f args.toArray w fun e w' => ∃ v, e = .returned v ∧ Res K w [.fresh] [.dead] 0 ⟨none, .sl 0 0 n k none, [(0, .cells (tabL m fun j => .val (g j)))], []⟩ v w'
theorem Res.unseeA {v : Value} {n k m : Nat} {g : Nat → Value} (hk : OK K w ρ hp) (hn : ρ[nid]? = some .fresh) (h : Res K w [.fresh] [.dead] 0 ⟨none, .sl 0 0 n k none, [(0, .cells (tabL m fun j => .val (g j)))], []⟩ v w') :
    Res K w ρ hp nid ⟨none, .sl nid 0 n k none, [(nid, .arr m fun j => .val (g j))], []⟩ v w' := by
  obtain ⟨ρ1, h1, h2⟩ := h
  have hkeep : ∀ b : Nat, b < w.heap.size → w'.heap[b]? = w.heap[b]? := fun b hb => h2.keep b hb fun i n hi => by cases i <;> simp at hi
  have hok := h2.ok [.dead] (Le.refl _) hk.see
  have hb0 := hok.blk 0 (.cells (tabL m fun j => .val (g j))) (by simp [app])
  have hi : nid < ρ.length := (List.getElem?_eq_some_iff.1 hn).1
  cases ho : own ρ1 0 with
  | live b N =>
    rw [ho] at hb0
    simp only [Rep, ho] at h1
    obtain ⟨vs, ty, q1, q2, q3⟩ := hb0
    have hlive : isLive K ρ1 b := .inr ⟨0, N, own_live ho⟩
    have hbsz : w.heap.size ≤ b := by
      rcases h2.new b hlive with hl | hl
      · have := see_live.1 hl
        exact absurd this (hok.apart 0 b N (own_live ho))
      · exact hl
    refine ⟨ρ.set nid (.live b N), ?_, Eff.new_at h2.size hkeep hbsz (lt_of_cells q1) hn hk.lt ?_ h2.env⟩
    · simp only [Rep, own_set hi, if_true]
      exact h1
    · have h4 := readsL_size q3
      rw [tabL_length] at h4
      refine ⟨vs, ty, q1, q2, by omega, fun j hj => ?_⟩
      obtain ⟨x, p1, p2⟩ := q3 j _ (tabL_get.2 ⟨hj, rfl⟩)
      exact ⟨x, p1, by simpa only [Rep] using p2⟩
  | fresh => rw [ho] at hb0; exact hb0.elim
  | dead => rw [ho] at hb0; exact hb0.elim
theorem AloneA.ofW {cl : FuncId → List D → List Blk → Nat → Option Out} {f : FuncId} {fn : AFun} (hm : P.follows .mixedOrders = true) (hcl : ∀ K, ClOK K P cl) (hf : compF P f = some fn) {ds : List D} {n k m : Nat} {g : Nat → Value}
    (h : ∀ K w, AW cl (LoopA K P w [.fresh] [.dead]) fn.body (startF fn ds [.dead]) (EndA false 0 fn fun o => o = ⟨none, .sl 0 0 n k none, [(0, .cells (tabL m fun j => .val (g j)))], []⟩)) : AloneA P f ds n k m g := by
  intro K w args hk hr
  refine (fun_okA hm (hcl K) hf (h K w) hk hr rfl).mono fun e w' hx => ?_
  obtain ⟨v, o, he, rfl, hres⟩ := hx
  exact ⟨v, he, hres⟩
end
end Go.Ev
end
