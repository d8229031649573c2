import Derived.Test.YtmekepomgofiaaaF07
set_option linter.all false
section
namespace Go.Ev
section
variable {K : Cust} {P : Program} {w : World} {M M0 M' : World} {ρ ρ0 ρ' : List Own} {hp : List Blk} {n : Nat}

/-- ids below n are the same -/
def SameTo (n : Nat) (ρ ρ' : List Own) : Prop := ∀ i, i < n → own ρ i ≠ .fresh → own ρ' i = own ρ i

mutual
theorem below_rep (hs : Sub M M') (ho : SameTo n ρ ρ') : ∀ (d : D) (v : Value), below n d = true → Rep K M ρ d v → Rep K M' ρ' d v
  | .any, _, _, _ => trivial
  | .val _, _, _, h => h
  | .ptr id off, v, hb, h => by
    simp only [below, decide_eq_true_eq] at hb
    simp only [Rep] at *
    rw [ho id hb (fun e => by rw [e] at h; exact h)]
    exact h
  | .sl id off len k cap, v, hb, h => by
    simp only [below, decide_eq_true_eq] at hb
    simp only [Rep] at *
    rw [ho id hb (fun e => by rw [e] at h; exact h)]
    exact h
  | .row k len f, v, hb, h => by
    simp only [below] at hb
    simp only [Rep] at *
    refine h.imp id fun ⟨b, o, c, h1, h2, h3⟩ => ⟨b, o, c, h1, h2, fun i hi => ?_⟩
    exact below_repC hs ho (f i) b _ (List.all_eq_true.1 hb i (List.mem_range.2 hi)) (h3 i hi)
  | .ref cs off, v, hb, h => by
    simp only [below] at hb
    simp only [Rep] at *
    exact let ⟨b, o, h1, h2⟩ := h; ⟨b, o, h1, below_repC hs ho cs b o hb h2⟩
  | .agg ds, v, hb, h => by
    simp only [below] at hb
    simp only [Rep] at *
    exact let ⟨vs, h1, h2⟩ := h; ⟨vs, h1, below_repL hs ho ds vs hb h2⟩
  | .tup ds, v, hb, h => by
    simp only [below] at hb
    simp only [Rep] at *
    exact let ⟨vs, h1, h2⟩ := h; ⟨vs, h1, below_repL hs ho ds vs hb h2⟩
  | .fn f a b, v, hb, h => by
    simp only [below, Bool.and_eq_true] at hb
    simp only [Rep] at *
    exact let ⟨x, y, h1, h2, h3⟩ := h; ⟨x, y, h1, below_repL hs ho a x hb.1 h2, below_repL hs ho b y hb.2 h3⟩
  | .iface t d, v, hb, h => by
    simp only [below] at hb
    simp only [Rep] at *
    exact let ⟨x, h1, h2⟩ := h; ⟨x, h1, below_rep hs ho d x hb h2⟩
  | .map id, v, hb, h => by
    simp only [below, decide_eq_true_eq] at hb
    simp only [Rep] at *
    rw [ho id hb (fun e => by rw [e] at h; exact h)]
    exact h
  | .cust t q, v, _, h => by
    simp only [Rep] at *
    exact K.mono _ _ _ _ _ hs h
  | .emp z, v, _, h => by simp only [Rep] at *; exact h
theorem below_repC (hs : Sub M M') (ho : SameTo n ρ ρ') : ∀ (ds : List D) (b o : Nat), belowL n ds = true → RepC K M ρ ds b o → RepC K M' ρ' ds b o
  | [], _, _, _, _ => by simp only [RepC]
  | d :: ds, b, o, hb, h => by
    simp only [belowL, Bool.and_eq_true] at hb
    simp only [RepC] at *
    exact let ⟨⟨x, h1, h2⟩, h3⟩ := h; ⟨⟨x, hs.cell h1, below_rep hs ho d x hb.1 h2⟩, below_repC hs ho ds b (o + 1) hb.2 h3⟩
theorem below_repL (hs : Sub M M') (ho : SameTo n ρ ρ') : ∀ (ds : List D) (vs : List Value), belowL n ds = true → RepL K M ρ ds vs → RepL K M' ρ' ds vs
  | [], _, _, h => by simpa only [RepL] using h
  | d :: ds, vs, hb, h => by
    simp only [belowL, Bool.and_eq_true] at hb
    simp only [RepL] at *
    exact let ⟨x, r, h1, h2, h3⟩ := h; ⟨x, r, h1, below_rep hs ho d x hb.1 h2, below_repL hs ho ds r hb.2 h3⟩
end

theorem own_lt {ρ : List Own} {i : Nat} (h : own ρ i ≠ .fresh) : i < ρ.length := by
  rcases Nat.lt_or_ge i ρ.length with h' | h'
  · exact h'
  · exfalso; apply h; unfold own; rw [List.getD_eq_getElem?_getD, List.getElem?_eq_none h']; rfl

mutual
/-- what was there before names nothing newer -/
theorem old_rep (hs : Sub M M') (ho : SameTo ρ0.length ρ ρ') : ∀ (d : D) (v0 v : Value), Rep K M0 ρ0 d v0 → Rep K M ρ d v → Rep K M' ρ' d v
  | .any, _, _, _, _ => trivial
  | .val _, _, _, _, h => h
  | .ptr id off, v0, v, hb, h => by
    simp only [Rep] at *
    rw [ho id (own_lt fun e => by rw [e] at hb; exact hb) (fun e => by rw [e] at h; exact h)]
    exact h
  | .sl id off len k cap, v0, v, hb, h => by
    simp only [Rep] at *
    rw [ho id (own_lt fun e => by rw [e] at hb; exact hb) (fun e => by rw [e] at h; exact h)]
    exact h
  | .row k len f, v0, v, hb, h => by
    simp only [Rep] at *
    refine h.imp id fun ⟨b, o, c, h1, h2, h3⟩ => ⟨b, o, c, h1, h2, fun i hi => ?_⟩
    rcases hb with ⟨_, hb⟩ | ⟨b0, o0, c0, _, _, hb⟩
    · omega
    · exact old_repC hs ho (f i) b0 _ b _ (hb i hi) (h3 i hi)
  | .ref cs off, v0, v, hb, h => by
    simp only [Rep] at *
    obtain ⟨b0, o0, _, hb⟩ := hb
    exact let ⟨b, o, h1, h2⟩ := h; ⟨b, o, h1, old_repC hs ho cs b0 o0 b o hb h2⟩
  | .agg ds, v0, v, hb, h => by
    simp only [Rep] at *
    obtain ⟨vs0, _, hb⟩ := hb
    exact let ⟨vs, h1, h2⟩ := h; ⟨vs, h1, old_repL hs ho ds vs0 vs hb h2⟩
  | .tup ds, v0, v, hb, h => by
    simp only [Rep] at *
    obtain ⟨vs0, _, hb⟩ := hb
    exact let ⟨vs, h1, h2⟩ := h; ⟨vs, h1, old_repL hs ho ds vs0 vs hb h2⟩
  | .fn f a b, v0, v, hb, h => by
    simp only [Rep] at *
    obtain ⟨x0, y0, _, hb1, hb2⟩ := hb
    exact let ⟨x, y, h1, h2, h3⟩ := h; ⟨x, y, h1, old_repL hs ho a x0 x hb1 h2, old_repL hs ho b y0 y hb2 h3⟩
  | .iface t d, v0, v, hb, h => by
    simp only [Rep] at *
    obtain ⟨x0, _, hb⟩ := hb
    exact let ⟨x, h1, h2⟩ := h; ⟨x, h1, old_rep hs ho d x0 x hb h2⟩
  | .map id, v0, v, hb, h => by
    simp only [Rep] at *
    rw [ho id (own_lt fun e => by rw [e] at hb; exact hb) (fun e => by rw [e] at h; exact h)]
    exact h
  | .cust t q, v0, v, _, h => by
    simp only [Rep] at *
    exact K.mono _ _ _ _ _ hs h
  | .emp z, v0, v, _, h => by simp only [Rep] at *; exact h
theorem old_repC (hs : Sub M M') (ho : SameTo ρ0.length ρ ρ') : ∀ (ds : List D) (b0 o0 b o : Nat), RepC K M0 ρ0 ds b0 o0 → RepC K M ρ ds b o → RepC K M' ρ' ds b o
  | [], _, _, _, _, _, _ => by simp only [RepC]
  | d :: ds, b0, o0, b, o, hb, h => by
    simp only [RepC] at *
    obtain ⟨⟨x0, _, hb1⟩, hb2⟩ := hb
    exact let ⟨⟨x, h1, h2⟩, h3⟩ := h; ⟨⟨x, hs.cell h1, old_rep hs ho d x0 x hb1 h2⟩, old_repC hs ho ds b0 (o0 + 1) b (o + 1) hb2 h3⟩
theorem old_repL (hs : Sub M M') (ho : SameTo ρ0.length ρ ρ') : ∀ (ds : List D) (vs0 vs : List Value), RepL K M0 ρ0 ds vs0 → RepL K M ρ ds vs → RepL K M' ρ' ds vs
  | [], _, _, _, h => by simpa only [RepL] using h
  | d :: ds, vs0, vs, hb, h => by
    simp only [RepL] at *
    obtain ⟨x0, r0, _, hb1, hb2⟩ := hb
    exact let ⟨x, r, h1, h2, h3⟩ := h; ⟨x, r, h1, old_rep hs ho d x0 x hb1 h2, old_repL hs ho ds r0 r hb2 h3⟩
end

theorem mapM_get {f : D → Option D} : ∀ {ds ds' : List D}, ds.mapM f = some ds' → ds'.length = ds.length ∧ ∀ (i : Nat) (d' : D), ds'[i]? = some d' → ∃ d, ds[i]? = some d ∧ f d = some d'
  | [], ds', h => by
    simp at h
    subst h
    exact ⟨rfl, fun i d' hi => by simp at hi⟩
  | d :: ds, ds', h => by
    rw [List.mapM_cons] at h
    simp only [Option.bind_eq_bind, Option.bind_eq_some_iff, Option.pure_def, Option.some.injEq] at h
    obtain ⟨e, he, r, hr, rfl⟩ := h
    obtain ⟨g1, g2⟩ := mapM_get hr
    refine ⟨by simp [g1], fun i d' hi => ?_⟩
    cases i with
    | zero => simp at hi; subst hi; exact ⟨d, by simp, he⟩
    | succ i => simpa using g2 i d' (by simpa using hi)

/-- what is frozen -/
theorem froz_ok {ban : Option Nat} (hk : OK K w ρ hp) (hs : Sub (mask K w ρ) M') (ho : SameTo n ρ ρ')
    (hV : ∀ j b m : Nat, n ≤ j → bans ban j = false → own ρ j = .live b m → ∀ vs ty fr, w.heap[b]? = some (Obj.cells vs ty fr) → M'.heap[b]? = some (Obj.cells vs ty fr)) :
    ∀ (fuel : Nat) (d d' : D) (v : Value), froz n ban hp fuel d = some d' → Rep K (mask K w ρ) ρ d v → Rep K M' ρ' d' v
  | 0, d, d', v, h, _ => by simp [froz] at h
  | fuel + 1, d, d', v, h, hr => by
    have ih := froz_ok hk hs ho hV fuel
    have ihL : ∀ {ds ds' : List D} {vs : List Value}, ds.mapM (froz n ban hp fuel) = some ds' → RepL K (mask K w ρ) ρ ds vs → RepL K M' ρ' ds' vs := fun {ds ds' vs} hm hl => by
      obtain ⟨g1, g2⟩ := mapM_get hm
      refine repL_of (by rw [g1]; exact repL_length hl) fun i d' hi => ?_
      obtain ⟨d, q1, q2⟩ := g2 i d' hi
      obtain ⟨v, q3, q4⟩ := repL_get hl q1
      exact ⟨v, q3, ih d d' v q2 q4⟩
    have ihB : ∀ {id b m : Nat} {cs cs' : List D}, n ≤ id → bans ban id = false → own ρ id = .live b m → cellsAt hp id = some cs → cs.mapM (froz n ban hp fuel) = some cs' → Reads K M' M' ρ' cs' b 0 := fun {id b m cs cs'} h1 h2 h3 h4 h5 => by
      obtain ⟨b', m', e1, e2⟩ := cellsAt_own hk h4
      rw [h3] at e1
      cases e1
      obtain ⟨vs, ty, g1, _, g3⟩ := e2
      have hv := hV id b m h1 h2 h3 vs ty.1 ty.2 g1
      obtain ⟨q1, q2⟩ := mapM_get h5
      intro j d' hj
      obtain ⟨d, q3, q4⟩ := q2 j d' hj
      obtain ⟨x, q5, q6⟩ := g3 j d q3
      exact ⟨x, by rw [cell_of hv, Nat.zero_add]; exact q5, ih d d' x q4 q6⟩
    cases d with
    | ptr id off =>
      simp only [froz] at h
      split at h
      · rename_i hlt
        obtain rfl := Option.some.inj h
        simp only [Rep] at *
        rw [ho id hlt (fun e => by rw [e] at hr; exact hr)]
        exact hr
      · rename_i hge
        split at h
        · cases h
        · rename_i hban
          split at h
          · rename_i cs hcs
            split at h
            · rename_i cs' hcs'
              obtain rfl := Option.some.inj h
              obtain ⟨b, m, e1, e2⟩ := cellsAt_own hk hcs
              have := ihB (by omega) hban e1 hcs hcs'
              simp only [Rep, e1] at hr ⊢
              exact ⟨b, 0, by rw [Nat.zero_add]; exact hr, reads_C this⟩
            · cases h
          · cases h
    | sl id off len k cap =>
      simp only [froz] at h
      split at h
      · rename_i hlt
        obtain rfl := Option.some.inj h
        simp only [Rep] at *
        rw [ho id hlt (fun e => by rw [e] at hr; exact hr)]
        exact hr
      · rename_i hge
        split at h
        · cases h
        · rename_i hban
          split at h
          · rename_i cs hcs
            split at h
            · rename_i cs' hcs'
              split at h
              · obtain rfl := Option.some.inj h
                obtain ⟨b, m, e1, e2⟩ := cellsAt_own hk hcs
                have hrd := ihB (by omega) hban e1 hcs hcs'
                simp only [Rep, e1] at hr ⊢
                obtain ⟨c, hr, h2, _⟩ := hr
                refine .inr ⟨b, off, c, hr, h2, fun i hi => reads_C fun j d hj => ?_⟩
                rw [List.getElem?_take] at hj
                split at hj
                · rw [List.getElem?_drop] at hj
                  have := hrd _ d hj
                  rw [Nat.zero_add] at this
                  exact this
                · cases hj
              · cases h
            · cases h
          · cases h
    | map id =>
      simp only [froz] at h
      split at h
      · rename_i hlt
        obtain rfl := Option.some.inj h
        simp only [Rep] at *
        rw [ho id hlt (fun e => by rw [e] at hr; exact hr)]
        exact hr
      · cases h
    | agg ds =>
      simp only [froz] at h
      split at h
      · rename_i ds' hd
        obtain rfl := Option.some.inj h
        simp only [Rep] at *
        obtain ⟨vs, h1, h2⟩ := hr
        exact ⟨vs, h1, ihL hd h2⟩
      · cases h
    | tup ds =>
      simp only [froz] at h
      split at h
      · rename_i ds' hd
        obtain rfl := Option.some.inj h
        simp only [Rep] at *
        obtain ⟨vs, h1, h2⟩ := hr
        exact ⟨vs, h1, ihL hd h2⟩
      · cases h
    | fn f x y =>
      simp only [froz] at h
      split at h
      · rename_i x' y' hx hy
        obtain rfl := Option.some.inj h
        simp only [Rep] at *
        obtain ⟨u, v, h1, h2, h3⟩ := hr
        exact ⟨u, v, h1, ihL hx h2, ihL hy h3⟩
      · cases h
    | iface t d =>
      simp only [froz] at h
      split at h
      · rename_i d' hd
        obtain rfl := Option.some.inj h
        simp only [Rep] at *
        obtain ⟨x, h1, h2⟩ := hr
        exact ⟨x, h1, ih d d' x hd h2⟩
      · cases h
    | _ =>
      simp only [froz] at h
      split at h
      · rename_i hb
        obtain rfl := Option.some.inj h
        exact below_rep hs ho _ v hb hr
      · cases h
end
end Go.Ev
end
section
namespace Go.Ev
/-! reckoned with numbers alone, no condition is left -/
def ClTrue (cl : FuncId → List D → List Blk → Nat → Option Out) : Prop := ∀ f ds hp nid out, cl f ds hp nid = some out → ∀ p, out.p = some p → p
section
variable {cl : FuncId → List D → List Blk → Nat → Option Out} {sl : List D} {hp : List Blk} {nid : Nat} {out : Out}
theorem binV_none {op : BinOp} {a b : Value} {p : Option Prop} {v : Value} (h : binV false op a b = some (p, v)) : p = none := by
  unfold binV at h
  split at h
  · unfold int2V at h
    split at h
    · cases op <;> simp only [intV, intF, wrapV, quoV, remV, boolV, bitsV, justV] at h <;> first
        | (exact (some_pair h).1.symm)
        | (split at h <;> first | (exact (some_pair h).1.symm) | cases h)
    · cases h
  · unfold strX justV at h
    simp only at h
    split at h
    · exact (some_pair h).1.symm
    · cases h
  · unfold boV boolV at h
    split at h <;> first | (exact (some_pair h).1.symm) | cases h
  · cases h
theorem appendTo_none {k n m : Nat} {a b : List D} {d : D} (h : appendTo hp nid k n m a b d = some out) : out.p = none := by
  unfold appendTo ok at h
  repeat' split at h
  all_goals first | (cases h; rfl) | cases h
theorem core_true (hcl : ClTrue cl) {ao : AOp} (h : core false cl sl hp nid ao = some out) : ∀ p, out.p = some p → p := by
  have no : out.p = none → ∀ p, out.p = some p → p := fun e p hp => by rw [e] at hp; cases hp
  cases ao <;> simp only [core, coreF] at h
  case bin kb op x y =>
    refine no ?_
    unfold c_bin at h
    split at h
    · split at h
      · split at h
        · rename_i p v hv
          rw [forceX_eq] at h
          obtain rfl := (Option.some.inj h).symm
          exact binV_none hv
        · cases h
      · cases h
    · cases h
  case call f l => exact hcl _ _ _ _ _ h
  case callv x l =>
    unfold c_callv at h
    split at h
    · exact hcl _ _ _ _ _ h
    · cases h
  case append k x y =>
    refine no ?_
    unfold c_append at h
    split at h
    · split at h
      · exact appendTo_none h
      · cases h
    · cases h
  case appS x y =>
    refine no ?_
    unfold c_appS at h
    split at h
    · split at h
      · exact appendTo_none h
      · cases h
    · cases h
  case mlook kd z ok' m k =>
    refine no ?_
    unfold c_mlook lookM lookR ok at h
    repeat' split at h
    all_goals first | contradiction | (cases h; rfl) | cases h
  case mlookS kd z ok' m k =>
    refine no ?_
    unfold c_mlookS lookR ok at h
    repeat' split at h
    all_goals first | contradiction | (cases h; rfl) | cases h
  case s2b x =>
    refine no ?_
    unfold c_s2b ok at h
    split at h
    · split at h
      · cases h; rfl
      · rw [forceL_eq] at h; cases h; rfl
    · cases h
  all_goals
    refine no ?_
    first | (unfold c_eqPtr at h) | (guard_hyp h : ok (D.emp true) = some out) | unfold c_aidx at h | unfold c_aidx at h | unfold c_sidx at h | unfold c_sslice at h | unfold c_b2s at h | unfold c_copS at h | unfold c_mkMap at h | unfold c_mput at h | unfold c_mputS at h | unfold c_mlen at h | unfold c_ixb at h | unfold c_mkI at h | unfold c_mov at h | unfold c_pick at h | unfold c_zero at h | unfold c_box at h | unfold c_build at h | unfold c_bslice at h | unfold c_load at h | unfold c_store at h | unfold c_nilCheck at h | unfold c_eqNil at h | unfold c_eqAgg at h | unfold c_un at h | unfold c_convInt at h | unfold c_convStr at h | unfold c_mkFn at h | unfold c_mkSlice at h | unfold c_slice at h | unfold c_faddr at h | unfold c_field at h | unfold c_iaddr at h | unfold c_extract at h | unfold c_len at h | unfold c_copy at h | unfold c_clear at h | unfold c_minmax at h
    try unfold ok at h
    repeat' split at h
    all_goals first | contradiction | (cases h; rfl) | cases h
theorem stps_true (hcl : ClTrue cl) {n0 : Nat} : ∀ (l : List AOper) (s s' : St), stps false cl n0 l s = some s' → s.p → s'.p
  | [], s, s', h, hp => by rw [stps_nil] at h; cases h; exact hp
  | o :: l, s, s', h, hp => by
    rw [stps_cons] at h
    split at h
    · rename_i s1 h1
      refine stps_true hcl l s1 s' h ?_
      rcases stp_cases h1 with ⟨_, out, ho, _, rfl⟩ | ⟨_, rfl⟩
      · have := core_true hcl ho
        dsimp only
        cases hq : out.p with
        | none => exact hp
        | some q => exact ⟨hp, this q hq⟩
      · exact hp
    · cases h
theorem leave_p {raw : Bool} {s : St} {ds : List D} (h : leave raw nid s ds = some out) : out.p = none := by
  unfold leave at h
  split at h
  · rw [← Option.some.inj h]
  · split at h
    · split at h
      · split at h
        · rw [← Option.some.inj h]
        · cases h
      · cases h
    · split at h
      · rw [← Option.some.inj h]
      · cases h
theorem plainO_some {r : Option Out} (h : plainO r = some out) : r = some out ∧ out.p = none := by
  unfold plainO at h
  split at h
  · rw [← Option.some.inj h]; exact ⟨rfl, rfl⟩
  · cases h
theorem callF_cases {F : FuncId → Option AFun} {raw : Raw} {n f : Nat} {ds : List D} (h : callF F raw (n + 1) f ds hp nid = some out) :
    (F f = none ∧ raw.tab f ds hp nid = some out ∧ out.p = none) ∨ ∃ fn e s rs, F f = some fn ∧ runC F raw n fn.body ⟨True, ds ++ List.replicate (fn.ntmps - ds.length) undefD, hp, hp.length, []⟩ = some (e, s) ∧ exD e = true ∧ resD s fn.results = some rs ∧ leave (raw f) nid s rs = some out := by
  simp only [callF] at h
  split at h
  · rename_i hF
    exact .inl ⟨hF, plainO_some h⟩
  · refine .inr ?_
    rename_i fn hfn
    unfold startC at h
    simp only [appK_eq, forceN_eq] at h
    unfold endC at h
    split at h
    · rename_i e s he
      split at h
      · rename_i hex
        split at h
        · rename_i rs hr
          exact ⟨fn, e, s, rs, hfn, he, hex, hr, h⟩
        · cases h
      · cases h
    · cases h
theorem callF_true {F : FuncId → Option AFun} {raw : Raw} : ∀ n, ClTrue (callF F raw n) := by
  intro n f ds hp nid out h p hp
  cases n with
  | zero => simp [callF] at h
  | succ n =>
    rcases callF_cases h with ⟨_, _, h3⟩ | ⟨fn, e, s, rs, _, _, _, _, hl⟩
    · rw [h3] at hp
      cases hp
    · rw [leave_p hl] at hp
      cases hp
theorem runC_true {F : FuncId → Option AFun} {raw : Raw} : ∀ (m : Nat) (c : ACode) (s s' : St) (e : Ex), runC F raw m c s = some (e, s') → s.p → s'.p
  | 0, c, s, s', e, h, _ => by simp [runC] at h
  | m + 1, c, s, s', e, h, hp => by
    cases c <;> simp only [runC, stepC] at h
    case skip => obtain ⟨_, rfl⟩ := some_pair h; exact hp
    case region ops k =>
      obtain ⟨h1, _⟩ := someC_cases h
      unfold reg at h1
      simp only [growS_eq, forceN_eq, lenG_eq] at h1
      exact stps_true (callF_true m) _ _ _ h1 hp
    case seq x y =>
      rcases thenC_cases h with ⟨s1, h1, h2⟩ | ⟨_, h1⟩
      · exact runC_true m y s1 s' e h2 (runC_true m x s s1 _ h1 hp)
      · exact runC_true m x s s' e h1 hp
    case cond c x y =>
      obtain ⟨t, _, h1⟩ := testC_cases h
      cases t
      · exact runC_true m y s s' e h1 hp
      · exact runC_true m x s s' e h1 hp
    case block i b =>
      rcases outC_cases h with ⟨h1, _⟩ | ⟨j, _, h1, _⟩ | ⟨h1, _⟩
      · exact runC_true m b s _ _ h1 hp
      · exact runC_true m b s _ _ h1 hp
      · exact runC_true m b s _ _ h1 hp
    case loop b =>
      rcases thenC_cases h with ⟨s1, h1, h2⟩ | ⟨_, h1⟩
      · exact runC_true m (.loop b) s1 s' e h2 (runC_true m b s s1 _ h1 hp)
      · exact runC_true m b s s' e h1 hp
    case exit i => obtain ⟨_, rfl⟩ := some_pair h; exact hp
    case ret => obtain ⟨_, rfl⟩ := some_pair h; exact hp
end
end Go.Ev
end
section
namespace Go.Ev
section
variable {K : Cust} {P : Program} {w0 w : World} {ρ0 ρ ρ' : List Own} {hp0 : List Blk} {a : Act} {s : St} {nid : Nat} {out : Out}

theorem sub_mask (h : ∀ b, isLive K ρ' b → isLive K ρ b) : Sub (mask K w ρ) (mask K w ρ') := fun b cs ty fr hb => by
  rw [mask_some] at *
  exact ⟨fun hl => hb.1 (h b hl), hb.2⟩
theorem own_get {ρ : List Own} {i : Nat} {o : Own} (h : ρ[i]? = some o) : own ρ i = o := by
  unfold own; rw [List.getD_eq_getElem?_getD, h]; rfl

theorem belowB_rep {n b m : Nat} {x : Blk} (hs : Sub (mask K w ρ) (mask K w ρ')) (ho : SameTo n ρ ρ') (hb : belowB n x = true) (h : RepB K w (mask K w ρ) ρ (.live b m) x) : RepB K w (mask K w ρ') ρ' (.live b m) x := by
  cases x with
  | dead => trivial
  | cells cs =>
    obtain ⟨vs, ty, h1, h2, h3⟩ := h
    refine ⟨vs, ty, h1, h2, fun j d hj => ?_⟩
    obtain ⟨v, q1, q2⟩ := h3 j d hj
    refine ⟨v, q1, below_rep hs ho d v ?_ q2⟩
    simp only [belowB] at hb
    clear h3 q1 q2
    induction cs generalizing j with
    | nil => simp at hj
    | cons e cs ih =>
      simp only [belowL, Bool.and_eq_true] at hb
      cases j with
      | zero => simp at hj; exact hj ▸ hb.1
      | succ j => exact ih hb.2 j (by simpa using hj)
  | map es =>
    obtain ⟨ents, cl, h1, h2, h3, h4⟩ := h
    refine ⟨ents, cl, h1, h2, h3, fun j k d hj => ?_⟩
    obtain ⟨e, q1, q2, q3⟩ := h4 j k d hj
    refine ⟨e, q1, q2, below_rep hs ho d _ ?_ q3⟩
    simp only [belowB] at hb
    exact List.all_eq_true.1 hb (k, d) (List.mem_of_getElem? hj)
  | arr n f => simp [belowB] at hb
theorem oldB_rep {b m : Nat} {o0 : Own} {x : Blk} (hs : Sub (mask K w ρ) (mask K w ρ')) (ho : SameTo ρ0.length ρ ρ') (h0 : RepB K w0 (mask K w0 ρ0) ρ0 o0 x) (h : RepB K w (mask K w ρ) ρ (.live b m) x) : RepB K w (mask K w ρ') ρ' (.live b m) x := by
  cases x with
  | dead => trivial
  | cells cs =>
    obtain ⟨vs, ty, h1, h2, h3⟩ := h
    cases o0 with
    | live b0 m0 =>
      obtain ⟨vs0, _, _, _, h0⟩ := h0
      refine ⟨vs, ty, h1, h2, fun j d hj => ?_⟩
      obtain ⟨v, q1, q2⟩ := h3 j d hj
      obtain ⟨v0, _, q3⟩ := h0 j d hj
      exact ⟨v, q1, old_rep hs ho d v0 v q3 q2⟩
    | _ => exact h0.elim
  | map es =>
    obtain ⟨ents, cl, h1, h2, h3, h4⟩ := h
    cases o0 with
    | live b0 m0 =>
      obtain ⟨ents0, _, _, _, _, h0⟩ := h0
      refine ⟨ents, cl, h1, h2, h3, fun j k d hj => ?_⟩
      obtain ⟨e, q1, q2, q3⟩ := h4 j k d hj
      obtain ⟨e0, _, _, q4⟩ := h0 j k d hj
      exact ⟨e, q1, q2, old_rep hs ho d _ _ q4 q3⟩
    | _ => exact h0.elim
  | arr n f =>
    obtain ⟨vs, ty, h1, h2, h3, h4⟩ := h
    cases o0 with
    | live b0 m0 =>
      obtain ⟨vs0, _, _, _, _, h0⟩ := h0
      refine ⟨vs, ty, h1, h2, h3, fun j hj => ?_⟩
      obtain ⟨v, q1, q2⟩ := h4 j hj
      obtain ⟨v0, _, q3⟩ := h0 j hj
      exact ⟨v, q1, old_rep hs ho _ v0 v q3 q2⟩
    | _ => exact h0.elim

/-- the blocks that were made are given up; or all but one, which is the new block -/
theorem Inv.trunc {δe : List (Nat × Blk)} (hI : Inv K w0 ρ0 hp0 w ρ a s) (hb : (wrote s).all (fun x => belowB s.base x.2) = true) (hn : ρ0[nid]? = some .fresh)
    (hlen : ρ'.length = s.base) (hsame : ∀ i, i < s.base → i ≠ nid → ρ'[i]? = ρ[i]?) (hlive : ∀ b, isLive K ρ' b → isLive K ρ b)
    (hE : (δe = [] ∧ ρ'[nid]? = some .fresh) ∨ ∃ x id b m, δe = [(nid, x)] ∧ ρ'[nid]? = some (Own.live b m) ∧ s.base ≤ id ∧ ρ[id]? = some (Own.live b m) ∧ RepB K w (mask K w ρ') ρ' (.live b m) x) :
    Eff K w0 ρ0 hp0 nid w ρ' (wrote s ++ δe) [] := by
  have hbase := hI.base
  have h0len := hI.start.len
  have hnl := (List.getElem?_eq_some_iff.1 hn).1
  have hblen := hI.blen
  have hrlen := hI.rlen
  have hsub := sub_mask (w := w) hlive
  have hfresh : own ρ nid = .fresh := own_get (hI.fr nid hn)
  have hst : SameTo s.base ρ ρ' := fun i hi hf => by
    have hne : i ≠ nid := fun e => hf (e ▸ hfresh)
    unfold own
    rw [List.getD_eq_getElem?_getD, List.getD_eq_getElem?_getD, hsame i hi hne]
  have hst0 : SameTo ρ0.length ρ ρ' := by rw [h0len, ← hbase]; exact hst
  refine ⟨hI.size, hI.keep, fun b h => hI.new b (hlive b h), by simp [hlen, hbase, h0len], fun i => ?_, fun hp2 hl2 hk2 => ?_, fun i h1 h2 => ?_, fun i h1 h2 => ?_, hI.env⟩
  · by_cases hi : i < s.base
    · by_cases hin : i = nid
      · subst hin
        rw [own_get hn]; trivial
      · have := hI.le i
        have e : own ρ' i = own ρ i := by
          unfold own
          rw [List.getD_eq_getElem?_getD, List.getD_eq_getElem?_getD, hsame i hi hin]
        rw [e]; exact this
    · have : own ρ0 i = .fresh := by unfold own; rw [List.getD_eq_getElem?_getD, List.getElem?_eq_none (by omega)]; rfl
      rw [this]; trivial
  · rw [List.append_nil]
    have hk := hI.ok hp2 hl2 hk2
    have hb2 : s.base = hp2.length := hbase.trans hl2.1
    -- what is live in ρ' is live in ρ, under the same name or as the new block
    have cases' : ∀ i b m : Nat, ρ'[i]? = some (Own.live b m) → (i ≠ nid ∧ ρ[i]? = some (Own.live b m)) ∨ (i = nid ∧ ∃ id, s.base ≤ id ∧ ρ[id]? = some (Own.live b m)) := fun i b m h => by
      have hi : i < s.base := by rw [← hlen]; exact (List.getElem?_eq_some_iff.1 h).1
      by_cases hin : i = nid
      · subst hin
        rcases hE with ⟨_, he⟩ | ⟨x, id, b', m', _, he, hid, hr, _⟩
        · rw [he] at h; cases h
        · rw [he] at h; cases h; exact .inr ⟨rfl, id, hid, hr⟩
      · exact .inl ⟨hin, by rw [← hsame i hi hin]; exact h⟩
    refine ⟨by simp [hlen, hb2], fun i b m h => ?_, fun i j b m m' h1 h2 => ?_, fun i x hx => ?_, hk.hid, fun i b m h => (cases' i b m h).elim (fun h => hk.apart _ _ _ h.2) (fun h => h.2.elim fun _ h => hk.apart _ _ _ h.2)⟩
    · rcases cases' i b m h with ⟨_, h⟩ | ⟨_, id, _, h⟩
      · exact hk.lt i b m h
      · exact hk.lt id b m h
    · have hi : i < s.base := by rw [← hlen]; exact (List.getElem?_eq_some_iff.1 h1).1
      have hj : j < s.base := by rw [← hlen]; exact (List.getElem?_eq_some_iff.1 h2).1
      rcases cases' i b m h1 with ⟨n1, h1⟩ | ⟨rfl, id1, g1, h1⟩ <;> rcases cases' j b m' h2 with ⟨n2, h2⟩ | ⟨rfl, id2, g2, h2⟩
      · exact hk.inj i j b m m' h1 h2
      · have := hk.inj _ _ _ _ _ h1 h2; omega
      · have := hk.inj _ _ _ _ _ h1 h2; omega
      · rfl
    · -- an old block
      have old : ∀ i x, i ≠ nid → (app (wrote s) hp2)[i]? = some x → RepB K w (mask K w ρ') ρ' (own ρ' i) x := fun i x hin hx => by
        have hi : i < s.base := by have := (List.getElem?_eq_some_iff.1 hx).1; simp at this; omega
        have hov : (over s hp2)[i]? = some x := by
          unfold over
          rw [List.getElem?_append_left (by simp; omega)]
          exact hx
        have hr := hk.blk i x hov
        cases x with
        | dead => cases own ρ' i <;> trivial
        | _ =>
          cases hoi : own ρ i with
          | live b m =>
            rw [hoi] at hr
            rw [hst i hi (by rw [hoi]; simp), hoi]
            unfold wrote at hx
            rw [app_map_get] at hx
            split at hx
            · rename_i hw
              have hbel := List.all_eq_true.1 hb (i, s.hp.getD i .dead) (List.mem_map.2 ⟨i, hw.1, rfl⟩)
              rw [Option.some.inj hx] at hbel
              exact belowB_rep hsub hst hbel hr
            · exact oldB_rep hsub hst0 (hk2.blk i _ hx) hr
          | _ => rw [hoi] at hr; exact hr.elim
      rcases hE with ⟨rfl, he⟩ | ⟨x', id, b, m, rfl, he, hid, hr, hrep⟩
      · rw [List.append_nil] at hx
        by_cases hin : i = nid
        · subst hin
          have hi : i < s.base := by omega
          rw [own_get he]
          have hov : (over s hp2)[i]? = some x := by
            unfold over
            rw [List.getElem?_append_left (by simp; omega)]
            exact hx
          have := hk.blk i x hov
          rw [hfresh] at this
          cases x with
          | dead => trivial
          | _ => exact this.elim
        · exact old i x hin hx
      · have e : app (wrote s ++ [(nid, x')]) hp2 = (app (wrote s) hp2).set nid x' := by
          unfold app
          rw [List.foldl_append]
          rfl
        rw [e, List.getElem?_set] at hx
        split at hx
        · rename_i hin
          subst hin
          split at hx
          · obtain rfl := Option.some.inj hx
            rw [own_get he]
            exact hrep
          · cases hx
        · rename_i hin
          exact old i x (Ne.symm hin) hx
  · obtain ⟨g1, g2, g3⟩ := hI.hid i h1 h2
    have hin : i ≠ nid := fun e => h2 (e ▸ hn)
    have hi : i < s.base := by have := (List.getElem?_eq_some_iff.1 h1).1; omega
    refine ⟨fun x hx => ?_, (hsame i hi hin).trans g3⟩
    rcases List.mem_append.1 hx with hx | hx
    · unfold wrote at hx
      obtain ⟨j, hj, rfl⟩ := List.mem_map.1 hx
      rintro rfl
      exact g2 hj
    · rcases hE with ⟨rfl, _⟩ | ⟨x', id, b, m, rfl, _⟩
      · cases hx
      · rw [List.mem_singleton] at hx
        subst hx
        exact Ne.symm hin
  · have hi : i < s.base := by have := (List.getElem?_eq_some_iff.1 h1).1; omega
    rw [hsame i hi h2]
    exact hI.fr i h1

theorem take_get {i : Nat} (hi : i < s.base) : (ρ.take s.base)[i]? = ρ[i]? := by rw [List.getElem?_take, if_pos hi]
theorem leave_ok {raw : Bool} {ds : List D} {v : Value} (hI : Inv K w0 ρ0 hp0 w ρ a s) (hv : Rep K (mask K w ρ) ρ (tupD ds) v) (h : leave raw nid s ds = some out) (hn : ρ0[nid]? = some .fresh) : Res K w0 ρ0 hp0 nid out v w := by
  have hbase := hI.base
  have h0len := hI.start.len
  have hnl := (List.getElem?_eq_some_iff.1 hn).1
  have hblen := hI.blen
  have hrlen := hI.rlen
  unfold leave at h
  split at h
  · obtain rfl := (Option.some.inj h).symm
    refine ⟨ρ, hv, hI.size, hI.keep, hI.new, by simp; omega, hI.le, fun hp2 h1 h2 => hI.ok hp2 h1 h2, fun i h1 h2 => ?_, fun i h1 _ => hI.fr i h1, hI.env⟩
    obtain ⟨g1, g2, g3⟩ := hI.hid i h1 h2
    refine ⟨fun x hx => ?_, g3⟩
    unfold wrote at hx
    obtain ⟨j, hj, rfl⟩ := List.mem_map.1 hx
    rintro rfl
    exact g2 hj
  · rename_i hraw
    have hb : (wrote s).all (fun x => belowB s.base x.2) = true := by
      rw [Bool.or_eq_false_iff] at hraw
      simpa using hraw.2
    split at h
    · rename_i id off len k cap ho
      split at h
      · rename_i cs hcs
        split at h
        · rename_i cs' hcs'
          obtain rfl := (Option.some.inj h).symm
          -- the result is a slice of a block that was made here
          have hds : ds = [.sl id off len k cap] ∧ s.base ≤ id := by
            unfold ownRes at ho
            split at ho
            · split at ho
              · cases ho
              · cases ho; exact ⟨rfl, by omega⟩
            · cases ho
          obtain ⟨rfl, hid⟩ := hds
          obtain ⟨b, m, e1, e2⟩ := cellsAt_own hI.okHp hcs
          have hrl := own_live e1
          have hgn : ∀ i, i < s.base → i ≠ nid → ((ρ.take s.base).set nid (.live b m))[i]? = ρ[i]? := fun i hi hin => by
            rw [List.getElem?_set, if_neg (Ne.symm hin), take_get hi]
          have hnid : ((ρ.take s.base).set nid (.live b m))[nid]? = some (Own.live b m) := by
            rw [List.getElem?_set, if_pos rfl, if_pos (by simp; omega)]
          have hlive : ∀ c, isLive K ((ρ.take s.base).set nid (.live b m)) c → isLive K ρ c := by
            rintro c (hh | ⟨i, q, hi⟩)
            · exact .inl hh
            by_cases hin : i = nid
            · subst hin
              rw [hnid] at hi
              cases hi
              exact .inr ⟨id, m, hrl⟩
            · rw [List.getElem?_set, if_neg (Ne.symm hin), List.getElem?_take] at hi
              split at hi
              · exact .inr ⟨i, q, hi⟩
              · cases hi
          have hst : SameTo s.base ρ ((ρ.take s.base).set nid (.live b m)) := fun i hi hf => by
            have hne : i ≠ nid := fun e => hf (e ▸ own_get (hI.fr nid hn))
            unfold own
            rw [List.getD_eq_getElem?_getD, List.getD_eq_getElem?_getD, hgn i hi hne]
          have hV : ∀ j b' m' : Nat, s.base ≤ j → bans (some id) j = false → own ρ j = .live b' m' → ∀ vs ty fr, w.heap[b']? = some (Obj.cells vs ty fr) → (mask K w ((ρ.take s.base).set nid (.live b m))).heap[b']? = some (Obj.cells vs ty fr) := fun j b' m' hj hban hoj vs ty fr hw => by
            rw [mask_some]
            refine ⟨?_, hw⟩
            rintro (hh | ⟨i, q, hi⟩)
            · exact absurd hh (hI.okHp.apart _ _ _ (own_live hoj))
            by_cases hin : i = nid
            · subst hin
              rw [hnid] at hi
              cases hi
              have := hI.okHp.inj _ _ _ _ _ hrl (own_live hoj)
              subst this
              simp [bans] at hban
            · rw [List.getElem?_set, if_neg (Ne.symm hin), List.getElem?_take] at hi
              split at hi
              · have := hI.okHp.inj _ _ _ _ _ hi (own_live hoj); omega
              · cases hi
          obtain ⟨vs, ty, g1, g2, g3⟩ := e2
          obtain ⟨q1, q2⟩ := mapM_get hcs'
          refine ⟨(ρ.take s.base).set nid (.live b m), ?_, hI.trunc hb hn (by simp; omega) hgn hlive (.inr ⟨.cells cs', id, b, m, rfl, hnid, hid, hrl, vs, ty, g1, g2, fun j d' hj => ?_⟩)⟩
          · simp only [tupD, Rep, e1] at hv
            simp only [Rep, own_get hnid]
            exact hv
          · obtain ⟨d, q3, q4⟩ := q2 j d' hj
            obtain ⟨u, q5, q6⟩ := g3 j d q3
            exact ⟨u, q5, froz_ok hI.okHp (sub_mask hlive) hst hV 20 d d' u q4 q6⟩
        · cases h
      · cases h
    · split at h
      · rename_i d hd
        obtain rfl := (Option.some.inj h).symm
        have hfn : (ρ.take s.base)[nid]? = some Own.fresh := by rw [take_get (by omega)]; exact hI.fr nid hn
        have hlive : ∀ c, isLive K (ρ.take s.base) c → isLive K ρ c := by
          rintro c (hh | ⟨i, q, hi⟩)
          · exact .inl hh
          rw [List.getElem?_take] at hi
          split at hi
          · exact .inr ⟨i, q, hi⟩
          · cases hi
        have hst : SameTo s.base ρ (ρ.take s.base) := fun i hi _ => by
          unfold own
          rw [List.getD_eq_getElem?_getD, List.getD_eq_getElem?_getD, take_get hi]
        have ht := hI.trunc (ρ' := ρ.take s.base) (δe := []) hb hn (by simp; omega) (fun i hi _ => take_get hi) hlive (.inl ⟨rfl, hfn⟩)
        rw [List.append_nil] at ht
        refine ⟨ρ.take s.base, froz_ok hI.okHp (sub_mask hlive) hst (fun j b m hj _ hoj vs ty fr hw => ?_) 20 _ d v hd hv, ht⟩
        rw [mask_some]
        refine ⟨?_, hw⟩
        rintro (hh | ⟨i, q, hi⟩)
        · exact absurd hh (hI.okHp.apart _ _ _ (own_live hoj))
        rw [List.getElem?_take] at hi
        split at hi
        · have := hI.okHp.inj _ _ _ _ _ hi (own_live hoj); omega
        · cases hi
      · cases h

theorem enters {fn : Func} {f : FuncId} {c : Code} (hf : P.funcs[f]? = some fn) (hname : (fn.name == "runtime.NumGoroutine") = false) (hb : fn.body = some c) (args : Array Value) (w : World) : (callFunc f args).run P w = .ok (.enter f args) w := by
  simp only [callFunc, Sem.run_bind, run_program', Result.andThen_ok, hf, hname, Bool.false_eq_true, if_false, hb, Option.isNone_some]
  rfl
/-- every call that the evaluator carries out to its end is carried out so by the program -/
theorem callF_ok {F : FuncId → Option AFun} {raw : Raw} (hdr : Drawn P) (hF : ∀ f fn, F f = some fn → compF P f = some fn) (hT : ClOK K P raw.tab) : ∀ n, ClOK K P (callF F raw n) := by
  intro n
  induction n using Nat.strongRecOn with
  | _ n ih =>
    intro f ds hp nid out h hcond
    cases n with
    | zero => simp [callF] at h
    | succ n =>
      rcases callF_cases h with ⟨_, h2, _⟩ | ⟨af, e, s, rds, haf, he, hex, hrd, hl⟩
      · exact hT f ds hp nid out h2 hcond
      have hc := hF f af haf
      unfold compF at hc
      split at hc
      · rename_i fn hfn
        split at hc
        · rename_i c hbody
          split at hc
          · rename_i ab rs hab hrs hname
            cases hc
            refine ⟨enters hfn hname hbody, fun w ρ args hk hr hn => ?_⟩
            have hsp : s.p := runC_true n _ _ _ _ he trivial
            refine calls_of_wp hfn hbody (wp_mono (runC_ok hdr (fun m hm => ih m (by omega)) n (Nat.le_refl _) c ab w ρ _ _ s e hab (Inv.init hk hr) he hsp) fun x a' w' hx => ?_)
            obtain ⟨rfl, ρ', hI⟩ := hx
            obtain ⟨v, hv1, hv2⟩ := results_ok (fn := fn) hI.okHp hI.slots hrs hrd
            have hres := leave_ok hI hv2 hl hn
            cases e with
            | normal => exact ⟨hI.defers, v, hv1, v, rfl, hres⟩
            | ret => exact ⟨hI.defers, v, hv1, v, rfl, hres⟩
            | exit i => simp [exD] at hex
          · cases hc
        · cases hc
      · cases hc
end
end Go.Ev
end
section
namespace Go.Ev
section
variable {ex : Bool} {cl : FuncId → List D → List Blk → Nat → Option Out} {sl : List D} {hp hp' : List Blk} {nid nid' t : Nat} {d : D} {out : Out}

theorem evO_set {x : Operand} (h : t ∉ tmpO x) : evO (sl.set t d) x = evO sl x := by
  cases x with
  | tmp u =>
    simp only [tmpO, List.mem_singleton] at h
    simp only [evO, evF, getK_eq, List.getD_eq_getElem?_getD, List.getElem?_set, if_neg h]
  | _ => rfl
theorem evL_set : ∀ {l : List Operand}, t ∉ tmpL l → evL (sl.set t d) l = evL sl l
  | [], _ => rfl
  | x :: l, h => by
    simp only [tmpL, List.flatMap_cons, List.mem_append, not_or] at h
    simp only [evL, evO_set h.1]
    rw [evL_set (l := l) h.2]
theorem partsD_set : ∀ {l : List (Nat × Nat × Operand)}, (t ∉ l.flatMap fun p => tmpO p.2.2) → partsD (sl.set t d) l = partsD sl l
  | [], _ => rfl
  | (o, n, x) :: l, h => by
    simp only [List.flatMap_cons, List.mem_append, not_or] at h
    simp only [partsD, evO_set h.1]
    rw [partsD_set (l := l) h.2]
theorem partsS_set {k : Nat} : ∀ {l : List (Nat × Operand)}, (t ∉ l.flatMap fun p => tmpO p.2) → partsS (sl.set t d) k l = partsS sl k l
  | [], _ => rfl
  | (o, x) :: l, h => by
    simp only [List.flatMap_cons, List.mem_append, not_or] at h
    simp only [partsS, evO_set h.1]
    rw [partsS_set (l := l) h.2]
theorem opt_set {x : Option Operand} (h : t ∉ tmpL x.toList) : x.map (evO (sl.set t d)) = x.map (evO sl) := by
  cases x with
  | none => rfl
  | some x =>
    simp only [Option.toList, tmpL, List.flatMap_cons, List.flatMap_nil, List.append_nil] at h
    simp only [Option.map_some, evO_set h]
theorem core_set {ao : AOp} (h : t ∉ uses ao) : core ex cl (sl.set t d) hp nid ao = core ex cl sl hp nid ao := by
  cases ao <;> simp only [uses, List.mem_append, not_or] at h <;> simp only [core, coreF]
  case mov x => simp only [c_mov, evO_set h]
  case pick c a b => simp only [c_pick, evO_set h.1.1, evO_set h.1.2, evO_set h.2]
  case zero => rfl
  case box n x => simp only [c_box, evO_set h]
  case build z l => simp only [c_build, partsD_set h]
  case bslice k n z l => simp only [c_bslice, partsS_set h]
  case load n x => simp only [c_load, c_loadS, evO_set h]
  case store n x y => simp only [c_store, c_storeS, evO_set h.1, evO_set h.2]
  case nilCheck x => simp only [c_nilCheck, evO_set h]
  case bin kb op x y => simp only [c_bin, evO_set h.1, evO_set h.2]
  case eqNil kd op x y => simp only [c_eqNil, evO_set h.1, evO_set h.2]
  case eqAgg op ks x y => simp only [c_eqAgg, evO_set h.1, evO_set h.2]
  case un op x => simp only [c_un, evO_set h]
  case convInt k x => simp only [c_convInt, evO_set h]
  case convStr x => simp only [c_convStr, evO_set h]
  case mkFn f a b => simp only [c_mkFn, evL_set h.1, evL_set h.2]
  case mkSlice k b z x y => simp only [c_mkSlice, c_mkSliceS, evO_set h.1, evO_set h.2]
  case slice k x lo hi mx => simp only [c_slice, evO_set h.1.1.1, opt_set h.1.1.2, opt_set h.1.2, opt_set h.2]
  case faddr n x => simp only [c_faddr, evO_set h]
  case field n o x => simp only [c_field, evO_set h]
  case iaddr k x y => simp only [c_iaddr, c_iaddrS, evO_set h.1, evO_set h.2]
  case extract x i => simp only [c_extract, evO_set h]
  case call f l => simp only [c_call, evL_set h]
  case callv x l => simp only [c_callv, evO_set h.1, evL_set h.2]
  case len b x => simp only [c_len, c_lenS, evO_set h]
  case append k x y => simp only [c_append, c_appendS, c_appE, evO_set h.1, evO_set h.2]
  case copy k x y => simp only [c_copy, evO_set h.1, evO_set h.2]
  case clear k z x => simp only [c_clear, evO_set h]
  case minmax m l => rfl
  case aidx n len k x i => simp only [c_aidx, evO_set h.1, evO_set h.2]
  case sidx x i => simp only [c_sidx, evO_set h.1, evO_set h.2]
  case sslice x lo hi => simp only [c_sslice, evO_set h.1.1, opt_set h.1.2, opt_set h.2]
  case s2b x => simp only [c_s2b, c_s2bS, evO_set h]
  case b2s x => simp only [c_b2s, c_b2sS, evO_set h]
  case appS x y => simp only [c_appS, evO_set h.1, evO_set h.2]
  case copS x y => simp only [c_copS, evO_set h.1, evO_set h.2]
  case mkMap => rfl
  case mlook kd z ok' x y => simp only [c_mlook, evO_set h.1, evO_set h.2]
  case mlookS nf z ok' x y => simp only [c_mlookS, evO_set h.1, evO_set h.2]
  case mput kd x y z => simp only [c_mput, evO_set h.1.1, evO_set h.1.2, evO_set h.2]
  case mputS nf x y z => simp only [c_mputS, evO_set h.1.1, evO_set h.1.2, evO_set h.2]
  case mlen x => simp only [c_mlen, evO_set h]
  case ixb x y => simp only [c_ixb, evO_set h.1, evO_set h.2]
  case mkI t x => simp only [c_mkI, evO_set h]
  case eqPtr op x y => simp only [c_eqPtr, evO_set h.1, evO_set h.2]
theorem core_setD {ao : AOp} {t : Option Nat} (h : ∀ u, t = some u → u ∉ uses ao) : core ex cl (setD sl t d) hp nid ao = core ex cl sl hp nid ao := by
  cases t with
  | none => rfl
  | some t => exact core_set (h t rfl)
theorem core_pure {ao : AOp} (h : pureA ao = true) : core ex cl sl hp nid ao = core ex cl sl hp' nid' ao := by
  cases ao <;> first | rfl | (simp [pureA] at h)
theorem pure_out {ao : AOp} (h : pureA ao = true) (ho : core ex cl sl hp nid ao = some out) : out.δ = [] ∧ out.grow = [] := by
  cases ao <;> simp only [pureA, Bool.false_eq_true] at h <;> simp only [core, coreF] at ho
  case mov x => unfold c_mov ok at ho; cases ho; exact ⟨rfl, rfl⟩
  case emptyS => unfold ok at ho; cases ho; exact ⟨rfl, rfl⟩
  case pick c a b =>
    unfold c_pick ok at ho
    split at ho
    · split at ho <;> cases ho <;> exact ⟨rfl, rfl⟩
    · cases ho
  case build z l =>
    unfold c_build ok at ho
    split at ho
    · split at ho
      · cases ho; exact ⟨rfl, rfl⟩
      · cases ho
    · cases ho
  case bin kb op x y =>
    unfold c_bin at ho
    split at ho
    · split at ho
      · split at ho
        · rw [forceX_eq] at ho; cases ho; exact ⟨rfl, rfl⟩
        · cases ho
      · cases ho
    · cases ho
  case un op x =>
    unfold c_un ok at ho
    split at ho
    · split at ho
      · cases ho; exact ⟨rfl, rfl⟩
      · cases ho
    · cases ho
  case convInt k x =>
    unfold c_convInt ok at ho
    split at ho
    · cases ho; exact ⟨rfl, rfl⟩
    · cases ho
  case convStr x =>
    unfold c_convStr ok at ho
    split at ho
    · cases ho; exact ⟨rfl, rfl⟩
    · cases ho
  case mkFn f a b => unfold c_mkFn ok at ho; cases ho; exact ⟨rfl, rfl⟩
  case field n o x =>
    unfold c_field ok at ho
    split at ho
    · split at ho
      · cases ho; exact ⟨rfl, rfl⟩
      · cases ho
    · cases ho
  case extract x i =>
    unfold c_extract ok at ho
    split at ho
    · split at ho
      · cases ho; exact ⟨rfl, rfl⟩
      · cases ho
    · cases ho

  case aidx n len k x i =>
    unfold c_aidx ok at ho
    repeat' split at ho
    all_goals first | contradiction | (cases ho; exact ⟨rfl, rfl⟩) | cases ho
  case sidx x i =>
    unfold c_sidx ok at ho
    repeat' split at ho
    all_goals first | contradiction | (cases ho; exact ⟨rfl, rfl⟩) | cases ho
  case sslice x lo hi =>
    unfold c_sslice ok at ho
    repeat' split at ho
    all_goals first | contradiction | (cases ho; exact ⟨rfl, rfl⟩) | cases ho
  case ixb x y =>
    unfold c_ixb ok at ho
    repeat' split at ho
    all_goals first | contradiction | (cases ho; exact ⟨rfl, rfl⟩) | cases ho
  case mkI t x => unfold c_mkI ok at ho; cases ho; exact ⟨rfl, rfl⟩

theorem setD_comm {a b : Option Nat} {x y : D} (h : ∀ t, a = some t → b ≠ some t) : setD (setD sl a x) b y = setD (setD sl b y) a x := by
  cases a with
  | none => rfl
  | some a =>
    cases b with
    | none => rfl
    | some b =>
      have : a ≠ b := fun e => h a rfl (by rw [e])
      simp only [setD]
      exact List.set_comm x y this
theorem yes_setD {g : Option (Option Nat × Bool)} {t : Option Nat} (h : ∀ u, t = some u → u ∉ (match g with | some (some t, _) => [t] | _ => [])) : yes (setD sl t d) g = yes sl g := by
  cases t with
  | none => rfl
  | some t =>
    have h := h t rfl
    unfold yes
    split
    · rfl
    · rfl
    · rename_i u want
      simp only [List.mem_singleton] at h
      simp only [setD, getG_eq, List.getElem?_set, if_neg h]

theorem hide_set {n0 r : Nat} {x : Blk} : ∀ {l : List Nat} {hp : List Blk}, r ∈ l → hideL n0 l (hp.set (n0 + r) x) = hideL n0 l hp
  | q :: l, hp, h => by
    simp only [hideL]
    by_cases e : r ∈ l
    · rw [hide_set e]
    · have : r = q := by rcases List.mem_cons.1 h with h | h; exact h; exact absurd h e
      subst this
      clear h
      apply List.ext_getElem?
      intro i
      rw [List.getElem?_set, List.getElem?_set]
      have hl : (hideL n0 l (hp.set (n0 + r) x)).length = (hideL n0 l hp).length := by rw [(hideL_get n0 l _ 0).1, (hideL_get n0 l _ 0).1]; simp
      by_cases hi : n0 + r = i
      · rw [if_pos hi, if_pos hi, hl]
      · rw [if_neg hi, if_neg hi]
        clear hl
        induction l with
        | nil => simp only [hideL, List.getElem?_set, if_neg hi]
        | cons q l ih =>
          simp only [List.mem_cons, not_or] at e
          simp only [hideL, List.getElem?_set]
          have hl : (hideL n0 l (hp.set (n0 + r) x)).length = (hideL n0 l hp).length := by rw [(hideL_get n0 l _ 0).1, (hideL_get n0 l _ 0).1]; simp
          rw [hl, ih e.2]
theorem hide_app {n0 : Nat} {l R : List Nat} (hR : ∀ r ∈ R, r ∈ l) : ∀ (δ : List (Nat × Blk)) (hp : List Blk), (∀ x ∈ δ, ∃ r ∈ R, x.1 = n0 + r) → hideL n0 l (app δ hp) = hideL n0 l hp
  | [], hp, _ => rfl
  | x :: δ, hp, h => by
    obtain ⟨r, hr, e⟩ := h x (List.mem_cons_self ..)
    show hideL n0 l (app δ (hp.set x.1 x.2)) = _
    rw [hide_app hR δ _ fun y hy => h y (List.mem_cons_of_mem _ hy), e, hide_set (hR r hr)]
theorem app_set_comm {n : Nat} {x : Blk} : ∀ (ε : List (Nat × Blk)) (hp : List Blk), (∀ y ∈ ε, y.1 ≠ n) → (app ε hp).set n x = app ε (hp.set n x)
  | [], hp, _ => rfl
  | y :: ε, hp, h => by
    show (app ε (hp.set y.1 y.2)).set n x = app ε ((hp.set n x).set y.1 y.2)
    rw [app_set_comm ε _ fun z hz => h z (List.mem_cons_of_mem _ hz), List.set_comm _ _ (h y (List.mem_cons_self ..))]
theorem app_comm {n0 : Nat} {R S : List Nat} (hne : ∀ r ∈ R, r ∉ S) : ∀ (δ ε : List (Nat × Blk)) (hp : List Blk), (∀ x ∈ δ, ∃ r ∈ R, x.1 = n0 + r) → (∀ x ∈ ε, ∃ r ∈ S, x.1 = n0 + r) → app δ (app ε hp) = app ε (app δ hp)
  | [], ε, hp, _, _ => rfl
  | x :: δ, ε, hp, h1, h2 => by
    obtain ⟨r, hr, e⟩ := h1 x (List.mem_cons_self ..)
    show app δ ((app ε hp).set x.1 x.2) = app ε (app δ (hp.set x.1 x.2))
    rw [app_set_comm ε hp fun y hy he => by
      obtain ⟨q, hq, e2⟩ := h2 y hy
      have : q = r := by omega
      exact hne r hr (this ▸ hq)]
    exact app_comm hne δ ε _ (fun y hy => h1 y (List.mem_cons_of_mem _ hy)) h2
theorem addW_high {base : Nat} : ∀ (δ : List (Nat × Blk)) (w : List Nat), (∀ x ∈ δ, base ≤ x.1) → addW base δ w = w
  | [], w, _ => rfl
  | x :: δ, w, h => by
    have := h x (List.mem_cons_self ..)
    simp only [addW]
    rw [if_neg (by omega)]
    exact addW_high δ w fun y hy => h y (List.mem_cons_of_mem _ hy)
theorem calm_some {o : AOper} {n0 : Nat} {out : Out} (h : calm o (n0 + o.rank) out = true) : out.grow = [] ∧ ∀ x ∈ out.δ, ∃ r ∈ o.rank :: o.own, x.1 = n0 + r := by
  unfold calm at h
  split at h
  · refine ⟨by assumption, fun x hx => ?_⟩
    have := List.all_eq_true.1 h x hx
    simp only [Bool.or_eq_true, beq_iff_eq, List.any_eq_true] at this
    rcases this with h | ⟨r, hr, h⟩
    · exact ⟨_, List.mem_cons_self .., h⟩
    · exact ⟨r, List.mem_cons_of_mem _ hr, by omega⟩
  · cases h

/-- how a step came about -/
theorem doS_of {n0 : Nat} {o : AOper} {s : St} (ho : core ex cl s.sl (hideL n0 o.hide s.hp) (n0 + o.rank) o.op = some out) (hw : o.wrt = true ∨ calm o (n0 + o.rank) out = true) :
    doS ex cl n0 o s = some ⟨andP s.p out.p, setD s.sl o.dst out.d, app out.δ s.hp ++ out.grow, s.base, addW s.base out.δ s.wr⟩ := by
  unfold doS someS
  rw [forceN_eq, hideK_eq]
  simp only [ho]
  unfold finS
  split
  · rename_i h1 h2
    rw [h1, h2]
    simp [app, addW]
  · have : (o.wrt || calm o (n0 + o.rank) out) = true := by simpa using hw
    rw [this]
    simp
theorem stp_of {n0 : Nat} {o : AOper} {s : St} (hy : yes s.sl o.guard = some true) (ho : core ex cl s.sl (hideL n0 o.hide s.hp) (n0 + o.rank) o.op = some out) (hw : o.wrt = true ∨ calm o (n0 + o.rank) out = true) :
    stp ex cl n0 o s = some ⟨andP s.p out.p, setD s.sl o.dst out.d, app out.δ s.hp ++ out.grow, s.base, addW s.base out.δ s.wr⟩ := by
  unfold stp
  split
  · exact doS_of ho hw
  · rename_i g hg
    rw [← hg, hy]
    exact doS_of ho hw
theorem stp_no {n0 : Nat} {o : AOper} {s : St} (hy : yes s.sl o.guard = some false) : stp ex cl n0 o s = some ⟨s.p, setD s.sl o.dst undefD, s.hp, s.base, s.wr⟩ := by
  unfold stp
  split
  · rename_i hg
    rw [hg] at hy
    cases hy
  · rename_i g hg
    rw [← hg, hy]
    simp [ifS]

theorem andP_comm {p : Prop} {q r : Option Prop} : andP (andP p q) r = andP (andP p r) q := by
  cases q <;> cases r <;> simp only [andP]
  exact propext ⟨fun ⟨⟨a, b⟩, c⟩ => ⟨⟨a, c⟩, b⟩, fun ⟨⟨a, b⟩, c⟩ => ⟨⟨a, c⟩, b⟩⟩

/-- what makes two steps change places -/
theorem indep_spec {x y : AOper} (h : indep x y = true) : (∀ t, x.dst = some t → t ∉ looks y ∧ y.dst ≠ some t) ∧ (∀ t, y.dst = some t → t ∉ looks x) ∧
    (pureA x.op = true ∨ pureA y.op = true ∨ (x.wrt = false ∧ y.wrt = false ∧ (∀ r ∈ x.rank :: x.own, r ∈ y.hide) ∧ (∀ r ∈ y.rank :: y.own, r ∈ x.hide) ∧ (∀ r ∈ x.rank :: x.own, r ∉ y.rank :: y.own))) := by
  unfold indep at h
  simp only [Bool.and_eq_true, Bool.or_eq_true] at h
  obtain ⟨⟨h1, h2⟩, h3⟩ := h
  refine ⟨fun t ht => ?_, fun t ht => ?_, ?_⟩
  · rw [ht] at h1
    simp only [Bool.and_eq_true, Bool.not_eq_true'] at h1
    refine ⟨fun hm => ?_, fun e => ?_⟩
    · have : (looks y).contains t = true := by simpa using hm
      rw [this] at h1; cases h1.1
    · rw [e] at h1; simp at h1
  · rw [ht] at h2
    simp only [Bool.not_eq_true'] at h2
    intro hm
    have : (looks x).contains t = true := by simpa using hm
    rw [this] at h2; cases h2
  · rcases h3 with (h3 | h3) | h3
    · exact .inl h3
    · exact .inr (.inl h3)
    · simp only [Bool.and_eq_true, Bool.not_eq_true', List.all_eq_true] at h3
      obtain ⟨⟨⟨h3, h4⟩, h5⟩, h6⟩ := h3
      refine .inr (.inr ⟨h3, h4, fun r hr => by simpa using (h5 r hr).1, fun r hr => by simpa using h6 r hr, fun r hr hm => ?_⟩)
      have := (h5 r hr).2
      rw [List.contains_iff_mem.2 hm] at this
      cases this

theorem swap {n0 : Nat} {x y : AOper} {s s1 s2 : St} (hb : s.base ≤ n0) (hi : indep x y = true) (h1 : stp ex cl n0 x s = some s1) (h2 : stp ex cl n0 y s1 = some s2) :
    ∃ s1', stp ex cl n0 y s = some s1' ∧ stp ex cl n0 x s1' = some s2 := by
  obtain ⟨i1, i2, i3⟩ := indep_spec hi
  have lx : ∀ u, y.dst = some u → u ∉ uses x.op ∧ u ∉ (match x.guard with | some (some t, _) => [t] | _ => []) := fun u hu => by
    have := i2 u hu
    unfold looks at this
    simp only [List.mem_append, not_or] at this
    exact this
  have ly : ∀ u, x.dst = some u → u ∉ uses y.op ∧ u ∉ (match y.guard with | some (some t, _) => [t] | _ => []) := fun u hu => by
    have := (i1 u hu).1
    unfold looks at this
    simp only [List.mem_append, not_or] at this
    exact this
  have hyx : ∀ (d : D) (sl : List D), yes (setD sl y.dst d) x.guard = yes sl x.guard := fun d sl => yes_setD fun u hu => (lx u hu).2
  have hyy : ∀ (d : D) (sl : List D), yes (setD sl x.dst d) y.guard = yes sl y.guard := fun d sl => yes_setD fun u hu => (ly u hu).2
  have hsl : ∀ (d e : D) (sl : List D), setD (setD sl x.dst d) y.dst e = setD (setD sl y.dst e) x.dst d := fun d e sl => setD_comm fun t ht => (i1 t ht).2
  rcases stp_cases h1 with ⟨gx, ox, cx, wx, rfl⟩ | ⟨gx, rfl⟩ <;> rcases stp_cases h2 with ⟨gy, oy, cy, wy, rfl⟩ | ⟨gy, rfl⟩ <;> dsimp only at gy
  · -- both are carried out
    rw [hyy] at gy
    dsimp only at cy
    rw [core_setD fun u hu => (ly u hu).1] at cy
    rcases i3 with hp | hp | ⟨w1, w2, m1, m2, hne⟩
    · obtain ⟨e1, e2⟩ := pure_out hp cx
      simp only [e1, e2, app, List.foldl_nil, List.append_nil, addW] at cy ⊢
      refine ⟨_, stp_of gy cy wy, ?_⟩
      rw [stp_of (out := ox) (by rw [hyx]; exact gx) ?_ wx]
      · simp only [e1, e2, app, List.foldl_nil, List.append_nil, addW, hsl, andP_comm]
      · dsimp only
        rw [core_setD fun u hu => (lx u hu).1, core_pure (hp' := hideL n0 x.hide s.hp) (nid' := n0 + x.rank) hp]
        exact cx
    · have cy' := cy
      rw [core_pure (hp' := hideL n0 y.hide s.hp) (nid' := n0 + y.rank) hp] at cy
      obtain ⟨e1, e2⟩ := pure_out hp cy
      refine ⟨_, stp_of gy cy wy, ?_⟩
      rw [stp_of (out := ox) (by rw [hyx]; exact gx) ?_ wx]
      · simp only [e1, e2, app, List.foldl_nil, List.append_nil, addW, hsl, andP_comm]
      · dsimp only
        rw [core_setD fun u hu => (lx u hu).1]
        simp only [e1, e2, app, List.foldl_nil, List.append_nil]
        exact cx
    · rw [w1] at wx
      rw [w2] at wy
      have kx := calm_some (wx.resolve_left (by simp))
      have ky := calm_some (wy.resolve_left (by simp))
      rw [kx.1, List.append_nil, hide_app m1 _ _ kx.2] at cy
      refine ⟨_, stp_of gy cy (by rw [w2]; exact wy), ?_⟩
      rw [stp_of (out := ox) (by rw [hyx]; exact gx) ?_ (by rw [w1]; exact wx)]
      · simp only [kx.1, ky.1, List.append_nil, hsl, andP_comm, app_comm hne _ _ _ kx.2 ky.2,
          addW_high (base := s.base) ox.δ _ (fun z hz => by obtain ⟨r, _, e⟩ := kx.2 z hz; omega), addW_high (base := s.base) oy.δ _ (fun z hz => by obtain ⟨r, _, e⟩ := ky.2 z hz; omega)]
      · dsimp only
        rw [core_setD fun u hu => (lx u hu).1, ky.1, List.append_nil, hide_app m2 _ _ ky.2]
        exact cx
  · rw [hyy] at gy
    refine ⟨_, stp_no gy, ?_⟩
    rw [stp_of (out := ox) (by rw [hyx]; exact gx) ?_ wx]
    · simp only [hsl]
    · dsimp only
      rw [core_setD fun u hu => (lx u hu).1]
      exact cx
  · rw [hyy] at gy
    dsimp only at cy
    rw [core_setD fun u hu => (ly u hu).1] at cy
    refine ⟨_, stp_of gy cy wy, ?_⟩
    rw [stp_no (by rw [hyx]; exact gx)]
    simp only [hsl]
  · rw [hyy] at gy
    refine ⟨_, stp_no gy, ?_⟩
    rw [stp_no (by rw [hyx]; exact gx)]
    simp only [hsl]
theorem stp_base {n0 : Nat} {o : AOper} {s s' : St} (h : stp ex cl n0 o s = some s') : s'.base = s.base := by
  rcases stp_cases h with ⟨_, out, _, _, rfl⟩ | ⟨_, rfl⟩ <;> rfl
/-- a step that may come now, may come first -/
theorem front {n0 : Nat} {y : AOper} {l2 : List AOper} {sF : St} : ∀ (l1 : List AOper) (s : St), s.base ≤ n0 → (∀ x ∈ l1, indep x y = true) → stps ex cl n0 (l1 ++ y :: l2) s = some sF → ∃ s1, stp ex cl n0 y s = some s1 ∧ stps ex cl n0 (l1 ++ l2) s1 = some sF
  | [], s, _, _, h => by
    rw [List.nil_append, stps_cons] at h
    split at h
    · rename_i s1 h1; exact ⟨s1, h1, h⟩
    · cases h
  | x :: l1, s, hb, hi, h => by
    rw [List.cons_append, stps_cons] at h
    split at h
    · rename_i sx hx
      obtain ⟨s2, g1, g2⟩ := front l1 sx (by rw [stp_base hx]; exact hb) (fun z hz => hi z (List.mem_cons_of_mem _ hz)) h
      obtain ⟨s1, q1, q2⟩ := swap hb (hi x (List.mem_cons_self ..)) hx g1
      refine ⟨s1, q1, ?_⟩
      rw [List.cons_append, stps_cons]
      simp only [q2]
      exact g2
    · cases h
end
end Go.Ev
end
