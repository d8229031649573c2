import Derived.Test.YtmekepomgofiaaaEvZd
import Derived.KernelRfl
import Derived.LoopN
set_option linter.all false
namespace Go.Ev
/-! ### A walk by rules: what a region leaves is reckoned by the kernel, and never written out -/
noncomputable section
def unS (r : Option St) : St := match r with
  | some s => s
  | none => ⟨True, [], [], 0, []⟩
/-- what 'aw' says, so that nobody reckons it unasked -/
structure AW (cl : FuncId → List D → List Blk → Nat → Option Out) (LP : ACode → St → (Ex → St → Prop) → Prop) (c : ACode) (s : St) (Q : Ex → St → Prop) : Prop where
  out : aw cl LP c s Q
def seqP (cl : FuncId → List D → List Blk → Nat → Option Out) (LP : ACode → St → (Ex → St → Prop) → Prop) (b : ACode) (Q : Ex → St → Prop) (e : Ex) (s : St) : Prop := match e with
  | .normal => AW cl LP b s Q
  | e => Q e s
/-- the state behind a region -/
def aft (cl : FuncId → List D → List Blk → Nat → Option Out) (ops : List AOper) (n : Nat) (s : St) : St := clean (unS (reg true cl ops n s))
def aftP (cl : FuncId → List D → List Blk → Nat → Option Out) (ops : List AOper) (n : Nat) (s : St) : Prop := (unS (reg true cl ops n s)).p
/-- some of the slots are forgotten -/
def forget : List Nat → List D → List D
  | [], sl => sl
  | i :: l, sl => forget l (sl.set i .any)
def fgt (idx : List Nat) (s : St) : St := ⟨True, forget idx s.sl, s.hp, s.base, s.wr⟩
def put1 (i : Nat) (d : D) (s : St) : St := ⟨True, s.sl.set i d, s.hp, s.base, s.wr⟩
/-- the end of a function -/
def endO (raw : Bool) (nid : Nat) (fn : AFun) (e : Ex) (s : St) : Option Out := match exD e with
  | true => match resD s fn.results with
    | some rds => leave raw nid s rds
    | none => none
  | false => none
end
section
variable {K : Cust} {P : Program} {w0 : World} {ρ0 : List Own} {hp0 : List Blk} {s s' : St} {cl : FuncId → List D → List Blk → Nat → Option Out} {LP : ACode → St → (Ex → St → Prop) → Prop} {Q : Ex → St → Prop}

theorem seqP_eq {b : ACode} : seqP cl LP b Q = thenP (fun s => aw cl LP b s Q) Q := by
  funext e s
  cases e
  · exact propext ⟨fun h => h.out, fun h => ⟨h⟩⟩
  · rfl
  · rfl
theorem aw_seq {a b : ACode} (h : AW cl LP a s (seqP cl LP b Q)) : AW cl LP (.seq a b) s Q := by
  have h := h.out
  rw [seqP_eq] at h
  exact ⟨h⟩
theorem aw_assoc {a b c : ACode} (h : AW cl LP (.seq a (.seq b c)) s Q) : AW cl LP (.seq (.seq a b) c) s Q := by
  have h : aw cl LP a s (thenP (fun s => aw cl LP b s (thenP (fun s => aw cl LP c s Q) Q)) Q) := h.out
  refine ⟨?_⟩
  show aw cl LP a s (thenP (fun s => aw cl LP b s (thenP (fun s => aw cl LP c s Q) Q)) (thenP (fun s => aw cl LP c s Q) Q))
  have e : thenP (fun s => aw cl LP b s (thenP (fun s => aw cl LP c s Q) Q)) (thenP (fun s => aw cl LP c s Q) Q) = thenP (fun s => aw cl LP b s (thenP (fun s => aw cl LP c s Q) Q)) Q := by
    funext e s
    cases e <;> rfl
  rw [e]
  exact h
theorem aw_skip (h : Q .normal s) : AW cl LP .skip s Q := ⟨h⟩
theorem aw_exit {i : Nat} (h : Q (.exit i) s) : AW cl LP (.exit i) s Q := ⟨h⟩
theorem aw_ret (h : Q .ret s) : AW cl LP .ret s Q := ⟨h⟩
theorem aw_skips {b : ACode} (h : AW cl LP b s Q) : AW cl LP (.seq .skip b) s Q := aw_seq (aw_skip h)
theorem aw_exits {i : Nat} {b : ACode} (h : Q (.exit i) s) : AW cl LP (.seq (.exit i) b) s Q := aw_seq (aw_exit h)
theorem aw_rets {b : ACode} (h : Q .ret s) : AW cl LP (.seq .ret b) s Q := aw_seq (aw_ret h)
/-- the end of a block -/
def blkP (i : Nat) (Q : Ex → St → Prop) (e : Ex) (s : St) : Prop := blockP i Q e s
theorem aw_block {i : Nat} {b : ACode} (h : AW cl LP b s (blkP i Q)) : AW cl LP (.block i b) s Q := ⟨h.out⟩
theorem aw_blocks {i : Nat} {b r : ACode} (h : AW cl LP b s (blkP i (seqP cl LP r Q))) : AW cl LP (.seq (.block i b) r) s Q := aw_seq (aw_block h)
theorem seq_normal {b : ACode} (h : AW cl LP b s Q) : seqP cl LP b Q .normal s := h
theorem seq_ret {b : ACode} (h : Q .ret s) : seqP cl LP b Q .ret s := h
theorem seq_exit {b : ACode} {i : Nat} (h : Q (.exit i) s) : seqP cl LP b Q (.exit i) s := h
theorem blk_normal {i : Nat} (h : Q .normal s) : blkP i Q .normal s := h
theorem blk_ret {i : Nat} (h : Q .ret s) : blkP i Q .ret s := h
theorem blk_exit {i : Nat} (h : Q .normal s) : blkP i Q (.exit i) s := by
  show (match Nat.beq i i with | true => _ | false => _)
  rw [show Nat.beq i i = true from Nat.beq_refl i]
  exact h
theorem blk_out {i j : Nat} (hij : Nat.beq j i = false) (h : Q (.exit j) s) : blkP i Q (.exit j) s := by
  show (match Nat.beq j i with | true => _ | false => _)
  rw [hij]
  exact h
theorem stp_awO {n0 : Nat} {o : AOper} {k : St → Prop} (h : stp true cl n0 o s = some s') (hp : s'.p) (hk : k (clean s')) : awO cl n0 o (clean s) k ∧ s.p := by
  rcases stp_cases h with ⟨hy, out, ho, hw, rfl⟩ | ⟨hy, rfl⟩
  · have hfin : ∀ s2 : St, s2.sl = s.sl → s2.hp = s.hp → s2.base = s.base → s2.wr = s.wr → finS o s2 (n0 + o.rank) out = some ⟨andP s2.p out.p, setD s2.sl o.dst out.d, app out.δ s2.hp ++ out.grow, s2.base, addW s2.base out.δ s2.wr⟩ := fun s2 e1 e2 e3 e4 => by
      unfold finS
      split
      · rename_i h1 h2
        rw [h1, h2]
        simp [app, addW]
      · have : (o.wrt || calm o (n0 + o.rank) out) = true := by simpa using hw
        rw [this]
        simp
    have hps : s.p ∧ ∀ q, out.p = some q → q := by
      dsimp only at hp
      cases hq : out.p with
      | none => rw [hq] at hp; exact ⟨hp, fun q h => by cases h⟩
      | some q => rw [hq] at hp; exact ⟨hp.1, fun q' h => by cases h; exact hp.2⟩
    refine ⟨?_, hps.1⟩
    have hsome : someP (finS o (clean s) (n0 + o.rank) out) k := by
      rw [hfin (clean s) rfl rfl rfl rfl]
      exact hk
    have hdo : doP cl n0 o (clean s) k := by
      unfold doP
      split
      · rename_i c x y hop
        rw [hop] at ho
        simp only [core, coreF, c_pick] at ho
        unfold pickP
        show (match evO s.sl c with | .val (.bool t) => _ | _ => _)
        split at ho
        · rename_i t ht
          rw [ht]
          cases t
          · have := Option.some.inj ho
            subst this
            exact hsome
          · have := Option.some.inj ho
            subst this
            exact hsome
        · cases ho
      · unfold outP
        rw [hideK_eq]
        have ho' : core true cl (clean s).sl (hideL n0 o.hide (clean s).hp) (n0 + o.rank) o.op = some out := ho
        rw [ho']
        show withP out.p (someP (finS o (clean s) (n0 + o.rank) out) k)
        unfold withP
        split
        · exact hsome
        · rename_i q hq
          exact ⟨hps.2 q hq, hsome⟩
    unfold awO
    split
    · exact hdo
    · rename_i g hg
      rw [hg] at hy
      have hy' : yes (clean s).sl (some g) = some true := hy
      rw [hy']
      exact hdo
  · refine ⟨?_, hp⟩
    unfold awO
    split
    · rename_i hg
      rw [hg] at hy
      cases hy
    · rename_i g hg
      rw [hg] at hy
      have hy' : yes (clean s).sl (some g) = some false := hy
      rw [hy']
      show someP _ k
      simp only [setT_eq]
      exact hk
theorem stps_awR {n0 : Nat} {k : St → Prop} : ∀ (l : List AOper) (s : St), stps true cl n0 l s = some s' → s'.p → k (clean s') → awR cl n0 l (clean s) k ∧ s.p
  | [], s, h, hp, hk => by
    rw [stps_nil] at h
    cases h
    exact ⟨hk, hp⟩
  | o :: l, s, h, hp, hk => by
    rw [stps_cons] at h
    split at h
    · rename_i s1 h1
      obtain ⟨g1, g2⟩ := stps_awR l s1 h hp hk
      exact stp_awO h1 g2 g1
    · cases h
theorem isSome_unS {r : Option St} (h : r.isSome = true) : r = some (unS r) := by
  cases r with
  | none => cases h
  | some s => rfl
/-- a region -/
theorem aw_region {ops : List AOper} {n : Nat} {q : Prop} (hs : clean s = s) (h : (reg true cl ops n s).isSome = true) (hq : aftP cl ops n s = q) (hp : q) (hk : Q .normal (aft cl ops n s)) : AW cl LP (.region ops n) s Q := by
  refine ⟨?_⟩
  have h1 := isSome_unS h
  have hp' : (unS (reg true cl ops n s)).p := by
    rw [← hq] at hp
    exact hp
  have hk' : Q .normal (clean (unS (reg true cl ops n s))) := hk
  generalize unS (reg true cl ops n s) = s' at h1 hp' hk'
  unfold reg at h1
  simp only [growS_eq, forceN_eq, lenG_eq] at h1
  have := (stps_awR (k := Q .normal) ops _ h1 hp' hk').1
  show regP cl ops n s (Q .normal)
  unfold regP
  simp only [growS_eq, lenG_eq]
  rw [← hs]
  exact this
theorem aw_reg {ops : List AOper} {n : Nat} {b : ACode} (q : Prop) (hp : q) (hk : AW cl LP b (aft cl ops n s) Q) (hs : clean s = s := by kernel_rfl) (h : (reg true cl ops n s).isSome = true := by kernel_rfl) (hq : aftP cl ops n s = q := by kernel_rfl) : AW cl LP (.seq (.region ops n) b) s Q :=
  aw_seq (aw_region hs h hq hp hk)
/-- a region without conditions -/
theorem aw_reg0 {ops : List AOper} {n : Nat} {b : ACode} (hk : AW cl LP b (aft cl ops n s) Q) (hs : clean s = s := by kernel_rfl) (h : (reg true cl ops n s).isSome = true := by kernel_rfl) (hq : aftP cl ops n s = True := by kernel_rfl) : AW cl LP (.seq (.region ops n) b) s Q :=
  aw_reg True trivial hk hs h hq
/-- a region at the end -/
theorem aw_end {ops : List AOper} {n : Nat} (q : Prop) (hp : q) (hk : Q .normal (aft cl ops n s)) (hs : clean s = s := by kernel_rfl) (h : (reg true cl ops n s).isSome = true := by kernel_rfl) (hq : aftP cl ops n s = q := by kernel_rfl) : AW cl LP (.region ops n) s Q :=
  aw_region hs h hq hp hk
theorem aw_end0 {ops : List AOper} {n : Nat} (hk : Q .normal (aft cl ops n s)) (hs : clean s = s := by kernel_rfl) (h : (reg true cl ops n s).isSome = true := by kernel_rfl) (hq : aftP cl ops n s = True := by kernel_rfl) : AW cl LP (.region ops n) s Q :=
  aw_region hs h hq trivial hk
/-- a test that is decided by what t is -/
theorem aw_if {c : Operand} {x y : ACode} (t : Bool) (h1 : t = true → AW cl LP x s Q) (h2 : t = false → AW cl LP y s Q) (h : evO s.sl c = .val (.bool t) := by kernel_rfl) : AW cl LP (.cond c x y) s Q := by
  refine ⟨?_⟩
  show testP (evO s.sl c) _ _
  rw [h]
  show iteP t _ _
  exact iteP_intro (fun e => (h1 e).out) (fun e => (h2 e).out)
theorem aw_ifs {c : Operand} {x y b : ACode} (t : Bool) (h1 : t = true → AW cl LP (.seq x b) s Q) (h2 : t = false → AW cl LP (.seq y b) s Q) (h : evO s.sl c = .val (.bool t) := by kernel_rfl) : AW cl LP (.seq (.cond c x y) b) s Q := by
  have key : ∀ z : ACode, AW cl LP (.seq z b) s Q → AW cl LP z s (seqP cl LP b Q) := fun z hz => by
    have := hz.out
    refine ⟨?_⟩
    rw [seqP_eq]
    exact this
  exact aw_seq (aw_if t (fun e => key _ (h1 e)) (fun e => key _ (h2 e)) h)
/-- a test whose way is known -/
theorem aw_yes {c : Operand} {x y b : ACode} (hk : AW cl LP (.seq x b) s Q) (h : evO s.sl c = .val (.bool true) := by kernel_rfl) : AW cl LP (.seq (.cond c x y) b) s Q :=
  aw_ifs true (fun _ => hk) (fun e => by cases e) h
theorem aw_no {c : Operand} {x y b : ACode} (hk : AW cl LP (.seq y b) s Q) (h : evO s.sl c = .val (.bool false) := by kernel_rfl) : AW cl LP (.seq (.cond c x y) b) s Q :=
  aw_ifs false (fun e => by cases e) (fun _ => hk) h
theorem aw_yesE {c : Operand} {x y : ACode} (hk : AW cl LP x s Q) (h : evO s.sl c = .val (.bool true) := by kernel_rfl) : AW cl LP (.cond c x y) s Q :=
  aw_if true (fun _ => hk) (fun e => by cases e) h
theorem aw_noE {c : Operand} {x y : ACode} (hk : AW cl LP y s Q) (h : evO s.sl c = .val (.bool false) := by kernel_rfl) : AW cl LP (.cond c x y) s Q :=
  aw_if false (fun e => by cases e) (fun _ => hk) h
theorem set_any (K : Cust) (i : Nat) (s : St) : Wk K w0 ρ0 hp0 s ⟨True, s.sl.set i .any, s.hp, s.base, s.wr⟩ := by
  refine Wk.slots (by simp) fun j d d' h1 h2 => ?_
  rw [List.getElem?_set] at h2
  split at h2
  · split at h2
    · cases h2; exact .any d
    · cases h2
  · rw [h1] at h2; cases h2; exact .refl d
theorem Wk.fgt : ∀ (idx : List Nat) (s : St), Wk K w0 ρ0 hp0 s (fgt idx s)
  | [], s => Wk.slots (p := True) rfl fun i d d' h1 h2 => by
      have h2 : s.sl[i]? = some d' := h2
      rw [h1] at h2
      cases h2
      exact .refl d
  | i :: l, s => (set_any K i s).trans (Wk.fgt l ⟨True, s.sl.set i .any, s.hp, s.base, s.wr⟩)
/-- the end of a round -/
structure RoundP {ι : Type} (K : Cust) (w0 : World) (ρ0 : List Own) (hp0 : List Blk) (st : ι → St) (μ : ι → Nat) (i : ι) (Q : Ex → St → Prop) (e : Ex) (s : St) : Prop where
  out : roundP K w0 ρ0 hp0 st μ i Q e s
/-- a loop -/
theorem aw_loop {ι : Type} (hm : P.follows .mixedOrders = true) (hcl : ClOK K P cl) {b r : ACode} {k : Nat} (idx : List Nat) (st : ι → St) (μ : ι → Nat) (i : ι)
    (round : ∀ i, AW cl (LoopA K P w0 ρ0 hp0) b (st i) (RoundP K w0 ρ0 hp0 st μ i (blkP k (seqP cl (LoopA K P w0 ρ0 hp0) r Q))))
    (he : Go.Ev.fgt idx s = st i) : AW cl (LoopA K P w0 ρ0 hp0) (.seq (.block k (.loop b)) r) s Q := by
  refine aw_blocks ⟨?_⟩
  refine loop_rule (Q := blkP k (seqP cl (LoopA K P w0 ρ0 hp0) r Q)) hm hcl st μ (fun i => ?_) i (he ▸ Wk.fgt idx s)
  have := (round i).out
  have e : RoundP K w0 ρ0 hp0 st μ i (blkP k (seqP cl (LoopA K P w0 ρ0 hp0) r Q)) = roundP K w0 ρ0 hp0 st μ i (blkP k (seqP cl (LoopA K P w0 ρ0 hp0) r Q)) := by
    funext e s
    exact propext ⟨fun h => h.out, fun h => ⟨h⟩⟩
  rw [e] at this
  exact this
theorem round_end {ι : Type} (idx : List Nat) {st : ι → St} {μ : ι → Nat} {i : ι} (j : ι) (hj : μ j < μ i) (he : Go.Ev.fgt idx s = st j) : RoundP K w0 ρ0 hp0 st μ i Q .normal s :=
  ⟨j, hj, he ▸ Wk.fgt idx s⟩
theorem round_exit {ι : Type} {st : ι → St} {μ : ι → Nat} {i : ι} {k : Nat} (h : Q (.exit k) s) : RoundP K w0 ρ0 hp0 st μ i Q (.exit k) s := ⟨h⟩
theorem round_ret {ι : Type} {st : ι → St} {μ : ι → Nat} {i : ι} (h : Q .ret s) : RoundP K w0 ρ0 hp0 st μ i Q .ret s := ⟨h⟩
/-- the end of a function -/
structure EndP (raw : Bool) (nid : Nat) (fn : AFun) (R : Out → Prop) (e : Ex) (s : St) : Prop where
  out : exitW raw nid fn R e s
theorem endO_p {raw : Bool} {nid : Nat} {fn : AFun} {R : Out → Prop} {e : Ex} (out : Out) (hR : R out) (h : endO raw nid fn e s = some out := by kernel_rfl) : EndP raw nid fn R e s := by
  refine ⟨?_⟩
  unfold endO at h
  unfold exitW
  split at h
  · rename_i h1
    rw [h1]
    split at h
    · rename_i rds h2
      rw [h2]
      show (match leave raw nid s rds with | some out => R out | none => False)
      rw [h]
      exact hR
    · cases h
  · cases h
/-- what is known of a test's slot may be written there -/
theorem slot_known {i : Nat} {d d' : D} (h : s.sl[i]? = some d) (e : d = d') : s.sl.set i d' = s.sl := by
  subst e
  apply List.ext_getElem?
  intro j
  rw [List.getElem?_set]
  split
  · rename_i hij
    subst hij
    rw [if_pos (List.getElem?_eq_some_iff.1 h).1, h]
  · rfl
/-- a region in whose middle stands a test: the operations up to it, and then both ways -/
theorem aw_split {n0 : Nat} {ops1 ops2 : List AOper} {k : St → Prop} (i : Nat) (q : Prop) (t : Bool) (hp : q)
    (h1 : t = true → awR cl n0 ops2 (put1 i (.val (.bool true)) (clean (unS (stps true cl n0 ops1 s)))) k) (h2 : t = false → awR cl n0 ops2 (put1 i (.val (.bool false)) (clean (unS (stps true cl n0 ops1 s)))) k)
    (hs : clean s = s := by kernel_rfl) (h : (stps true cl n0 ops1 s).isSome = true := by kernel_rfl) (hq : (unS (stps true cl n0 ops1 s)).p = q := by kernel_rfl) (hi : getG (unS (stps true cl n0 ops1 s)).sl i = some (.val (.bool t)) := by kernel_rfl) :
    awR cl n0 (ops1 ++ ops2) s k := by
  rw [getG_eq] at hi
  have happ : ∀ (l : List AOper) (s : St), awR cl n0 (l ++ ops2) s k = awR cl n0 l s (fun s => awR cl n0 ops2 s k) := by
    intro l
    induction l with
    | nil => intro s; rfl
    | cons o l ih =>
      intro s
      show awO cl n0 o s (fun s => awR cl n0 (l ++ ops2) s k) = awO cl n0 o s (fun s => awR cl n0 l s (fun s => awR cl n0 ops2 s k))
      congr 1
      funext s
      exact ih s
  rw [happ]
  have e := isSome_unS h
  have := (stps_awR (k := fun s => awR cl n0 ops2 s k) ops1 s e (by rw [hq]; exact hp) ?_).1
  · rw [hs] at this
    exact this
  · show awR cl n0 ops2 (clean (unS (stps true cl n0 ops1 s))) k
    cases t with
    | true =>
      have := h1 rfl
      unfold put1 at this
      have e2 := slot_known (s := clean (unS (stps true cl n0 ops1 s))) (i := i) (d := .val (.bool true)) (d' := .val (.bool true)) hi rfl
      rw [e2] at this
      exact this
    | false =>
      have := h2 rfl
      unfold put1 at this
      have e2 := slot_known (s := clean (unS (stps true cl n0 ops1 s))) (i := i) (d := .val (.bool false)) (d' := .val (.bool false)) hi rfl
      rw [e2] at this
      exact this
end
end Go.Ev
namespace Go.Ev
/-- a part of a code: 0 and 1 are the parts of a sequence or of a test, 0 the body of a block or a loop -/
def sub : List Nat → ACode → ACode
  | [], c => c
  | 0 :: p, .seq a _ => sub p a
  | 1 :: p, .seq _ b => sub p b
  | 0 :: p, .cond _ a _ => sub p a
  | 1 :: p, .cond _ _ b => sub p b
  | 0 :: p, .block _ b => sub p b
  | 0 :: p, .loop b => sub p b
  | _, c => c
def regs : ACode → List (List AOper × Nat)
  | .region l n => [(l, n)]
  | .seq a b | .cond _ a b => regs a ++ regs b
  | .block _ b | .loop b => regs b
  | _ => []
def regAt (c : ACode) (k : Nat) : List AOper × Nat := (regs c).getD k ([], 0)
/-- the state behind the k-th region -/
noncomputable def at_ (cl : FuncId → List D → List Blk → Nat → Option Out) (c : ACode) (k : Nat) (s : St) : St := aft cl (regAt c k).1 (regAt c k).2 s
def noC : FuncId → List D → List Blk → Nat → Option Out := fun _ _ _ _ => none
theorem noC_ok {K : Cust} {P : Program} : ClOK K P noC := fun _ _ _ _ _ h => by cases h
end Go.Ev
namespace Go.Ev
theorem EndP_eq {raw : Bool} {nid : Nat} {fn : AFun} {R : Out → Prop} : EndP raw nid fn R = exitW raw nid fn R := by
  funext e s
  exact propext ⟨fun h => h.out, fun h => ⟨h⟩⟩
/-- a function alone, by its walk -/
theorem Alone.ofW {P : Program} {cl : FuncId → List D → List Blk → Nat → Option Out} {f : FuncId} {fn : AFun} {raw : Bool} (hm : P.follows .mixedOrders = true) (hcl : ∀ K, ClOK K P cl) (hf : compF P f = some fn) {ds : List D} {d : D}
    (h : ∀ K w, AW cl (LoopA K P w [.fresh] [.dead]) fn.body (startF fn ds [.dead]) (EndP raw 0 fn fun o => o = ⟨none, d, [], []⟩)) : Alone P f ds d :=
  Alone.of hm hcl hf fun K w => by
    have := (h K w).out
    rw [EndP_eq] at this
    exact this
end Go.Ev
namespace Go.Ev
/-! ### Loops of so many rounds -/
/-- the loop ends within n rounds -/
def unroll (cl : FuncId → List D → List Blk → Nat → Option Out) (LP : ACode → St → (Ex → St → Prop) → Prop) (b : ACode) : Nat → (Ex → St → Prop) → St → Prop
  | 0, _, _ => False
  | n + 1, Q, s => aw cl LP b s (thenP (unroll cl LP b n Q) Q)
structure Unr (cl : FuncId → List D → List Blk → Nat → Option Out) (LP : ACode → St → (Ex → St → Prop) → Prop) (b : ACode) (n : Nat) (Q : Ex → St → Prop) (s : St) : Prop where
  out : unroll cl LP b n Q s
def unrP (cl : FuncId → List D → List Blk → Nat → Option Out) (LP : ACode → St → (Ex → St → Prop) → Prop) (b : ACode) (n : Nat) (Q : Ex → St → Prop) (e : Ex) (s : St) : Prop := match e with
  | .normal => Unr cl LP b n Q s
  | e => Q e s
section
variable {K : Cust} {P : Program} {w0 : World} {ρ0 : List Own} {hp0 : List Blk} {s : St} {cl : FuncId → List D → List Blk → Nat → Option Out} {LP : ACode → St → (Ex → St → Prop) → Prop} {Q : Ex → St → Prop} {b : ACode} {n : Nat}
theorem unr_step (h : AW cl LP b s (unrP cl LP b n Q)) : Unr cl LP b (n + 1) Q s := by
  refine ⟨?_⟩
  have h := h.out
  have e : unrP cl LP b n Q = thenP (unroll cl LP b n Q) Q := by
    funext e s
    cases e
    · exact propext ⟨fun h => h.out, fun h => ⟨h⟩⟩
    · rfl
    · rfl
  rw [e] at h
  exact h
theorem unr_next (h : Unr cl LP b n Q s) : unrP cl LP b n Q .normal s := h
theorem unr_exit {i : Nat} (h : Q (.exit i) s) : unrP cl LP b n Q (.exit i) s := h
theorem unr_ret (h : Q .ret s) : unrP cl LP b n Q .ret s := h
theorem unroll_loop (hm : P.follows .mixedOrders = true) (hcl : ClOK K P cl) (h : unroll cl (LoopA K P w0 ρ0 hp0) b n Q s) : LoopA K P w0 ρ0 hp0 b s Q := by
  intro c hc w ρ a hI
  refine wp_loop_rounds n ?_
  induction n generalizing w ρ a s with
  | zero => exact h.elim
  | succ n ih =>
    refine Code.wp_mono (fun x a' w' hx => ?_) (aw_ok hm hcl c b s _ hc h w ρ a hI)
    obtain ⟨e, s', ρ', rfl, hI', hq⟩ := hx
    cases e with
    | normal => exact ih hq w' ρ' a' hI'
    | exit i => exact ⟨.exit i, s', ρ', rfl, hI', hq⟩
    | ret => exact ⟨.ret, s', ρ', rfl, hI', hq⟩
theorem aw_unroll {r : ACode} {k : Nat} (n : Nat) (hm : P.follows .mixedOrders = true) (hcl : ClOK K P cl) (h : Unr cl (LoopA K P w0 ρ0 hp0) b n (blkP k (seqP cl (LoopA K P w0 ρ0 hp0) r Q)) s) :
    AW cl (LoopA K P w0 ρ0 hp0) (.seq (.block k (.loop b)) r) s Q :=
  aw_blocks ⟨unroll_loop hm hcl h.out⟩
end
/-- a region whose operations are taken in two parts -/
structure AWR (cl : FuncId → List D → List Blk → Nat → Option Out) (n0 : Nat) (ops : List AOper) (s : St) (k : St → Prop) : Prop where
  out : awR cl n0 ops s k
section
variable {s : St} {cl : FuncId → List D → List Blk → Nat → Option Out} {LP : ACode → St → (Ex → St → Prop) → Prop} {Q : Ex → St → Prop} {n0 : Nat} {k : St → Prop}
noncomputable def regS (n : Nat) (s : St) : St := ⟨True, s.sl, s.hp ++ deads n, s.base, s.wr⟩
theorem aw_open {ops : List AOper} {n : Nat} (h : AWR cl (lenG s.hp) ops (regS n s) (Q .normal)) (hs : clean s = s := by kernel_rfl) : AW cl LP (.region ops n) s Q := by
  refine ⟨?_⟩
  show regP cl ops n s (Q .normal)
  unfold regP
  simp only [growS_eq]
  have := h.out
  unfold regS at this
  have e : s.p = True := by rw [← hs]; rfl
  rw [e]
  exact this
theorem aw_opens {ops : List AOper} {n : Nat} {b : ACode} (h : AWR cl (lenG s.hp) ops (regS n s) (fun s => AW cl LP b s Q)) (hs : clean s = s := by kernel_rfl) : AW cl LP (.seq (.region ops n) b) s Q :=
  aw_seq (aw_open (Q := seqP cl LP b Q) h hs)
noncomputable def stS (cl : FuncId → List D → List Blk → Nat → Option Out) (n0 : Nat) (ops : List AOper) (s : St) : St := clean (unS (stps true cl n0 ops s))
/-- the first j operations, and then a test both ways -/
theorem awr_test {ops : List AOper} (j i : Nat) (t : Bool) (h1 : t = true → AWR cl n0 (ops.drop j) (put1 i (.val (.bool true)) (stS cl n0 (ops.take j) s)) k) (h2 : t = false → AWR cl n0 (ops.drop j) (put1 i (.val (.bool false)) (stS cl n0 (ops.take j) s)) k)
    (hs : clean s = s := by kernel_rfl) (h : (stps true cl n0 (ops.take j) s).isSome = true := by kernel_rfl) (hq : (unS (stps true cl n0 (ops.take j) s)).p = True := by kernel_rfl) (hi : getG (unS (stps true cl n0 (ops.take j) s)).sl i = some (.val (.bool t)) := by kernel_rfl) : AWR cl n0 ops s k := by
  have := aw_split (ops2 := ops.drop j) (k := k) i True t trivial (fun e => (h1 e).out) (fun e => (h2 e).out) hs h hq hi
  rw [List.take_append_drop] at this
  exact ⟨this⟩
/-- the rest of the operations -/
theorem awr_end {ops : List AOper} (q : Prop) (hp : q) (hk : k (stS cl n0 ops s)) (hs : clean s = s := by kernel_rfl) (h : (stps true cl n0 ops s).isSome = true := by kernel_rfl) (hq : (unS (stps true cl n0 ops s)).p = q := by kernel_rfl) : AWR cl n0 ops s k := by
  have e := isSome_unS h
  have := (stps_awR (k := k) ops s e (by rw [hq]; exact hp) hk).1
  rw [hs] at this
  exact ⟨this⟩
theorem awr_end0 {ops : List AOper} (hk : k (stS cl n0 ops s)) (hs : clean s = s := by kernel_rfl) (h : (stps true cl n0 ops s).isSome = true := by kernel_rfl) (hq : (unS (stps true cl n0 ops s)).p = True := by kernel_rfl) : AWR cl n0 ops s k :=
  awr_end True trivial hk hs h hq
end
end Go.Ev
