import Derived.Test.YtmekepomgofiaaaCS07
set_option linter.all false
section
namespace Go.Ev
section
variable {K : Cust} {P : Program} {w : World} {M M0 M' : World} {ρ ρ0 ρ' : List Own} {hp : List Blk} {n : Nat}

/-- ids below n are the same -/
def SameTo (n : Nat) (ρ ρ' : List Own) : Prop := ∀ i, i < n → own ρ i ≠ .fresh → own ρ' i = own ρ i

mutual
theorem below_rep (hs : Sub M M') (ho : SameTo n ρ ρ') : ∀ (d : D) (v : Value), below n d = true → Rep K M ρ d v → Rep K M' ρ' d v
  | .any, _, _, _ => trivial
  | .val _, _, _, h => h
  | .ptr id off, v, hb, h => by
    simp only [below, decide_eq_true_eq] at hb
    simp only [Rep] at *
    rw [ho id hb (fun e => by rw [e] at h; exact h)]
    exact h
  | .sl id off len k cap, v, hb, h => by
    simp only [below, decide_eq_true_eq] at hb
    simp only [Rep] at *
    rw [ho id hb (fun e => by rw [e] at h; exact h)]
    exact h
  | .row k len f, v, hb, h => by
    simp only [below] at hb
    simp only [Rep] at *
    refine h.imp id fun ⟨b, o, c, h1, h2, h3⟩ => ⟨b, o, c, h1, h2, fun i hi => ?_⟩
    exact below_repC hs ho (f i) b _ (List.all_eq_true.1 hb i (List.mem_range.2 hi)) (h3 i hi)
  | .ref cs off, v, hb, h => by
    simp only [below] at hb
    simp only [Rep] at *
    exact let ⟨b, o, h1, h2⟩ := h; ⟨b, o, h1, below_repC hs ho cs b o hb h2⟩
  | .agg ds, v, hb, h => by
    simp only [below] at hb
    simp only [Rep] at *
    exact let ⟨vs, h1, h2⟩ := h; ⟨vs, h1, below_repL hs ho ds vs hb h2⟩
  | .tup ds, v, hb, h => by
    simp only [below] at hb
    simp only [Rep] at *
    exact let ⟨vs, h1, h2⟩ := h; ⟨vs, h1, below_repL hs ho ds vs hb h2⟩
  | .fn f a b, v, hb, h => by
    simp only [below, Bool.and_eq_true] at hb
    simp only [Rep] at *
    exact let ⟨x, y, h1, h2, h3⟩ := h; ⟨x, y, h1, below_repL hs ho a x hb.1 h2, below_repL hs ho b y hb.2 h3⟩
  | .iface t d, v, hb, h => by
    simp only [below] at hb
    simp only [Rep] at *
    exact let ⟨x, h1, h2⟩ := h; ⟨x, h1, below_rep hs ho d x hb h2⟩
  | .map id, v, hb, h => by
    simp only [below, decide_eq_true_eq] at hb
    simp only [Rep] at *
    rw [ho id hb (fun e => by rw [e] at h; exact h)]
    exact h
  | .cust t q, v, _, h => by
    simp only [Rep] at *
    exact K.mono _ _ _ _ _ hs h
  | .emp z, v, _, h => by simp only [Rep] at *; exact h
theorem below_repC (hs : Sub M M') (ho : SameTo n ρ ρ') : ∀ (ds : List D) (b o : Nat), belowL n ds = true → RepC K M ρ ds b o → RepC K M' ρ' ds b o
  | [], _, _, _, _ => by simp only [RepC]
  | d :: ds, b, o, hb, h => by
    simp only [belowL, Bool.and_eq_true] at hb
    simp only [RepC] at *
    exact let ⟨⟨x, h1, h2⟩, h3⟩ := h; ⟨⟨x, hs.cell h1, below_rep hs ho d x hb.1 h2⟩, below_repC hs ho ds b (o + 1) hb.2 h3⟩
theorem below_repL (hs : Sub M M') (ho : SameTo n ρ ρ') : ∀ (ds : List D) (vs : List Value), belowL n ds = true → RepL K M ρ ds vs → RepL K M' ρ' ds vs
  | [], _, _, h => by simpa only [RepL] using h
  | d :: ds, vs, hb, h => by
    simp only [belowL, Bool.and_eq_true] at hb
    simp only [RepL] at *
    exact let ⟨x, r, h1, h2, h3⟩ := h; ⟨x, r, h1, below_rep hs ho d x hb.1 h2, below_repL hs ho ds r hb.2 h3⟩
end

theorem own_lt {ρ : List Own} {i : Nat} (h : own ρ i ≠ .fresh) : i < ρ.length := by
  rcases Nat.lt_or_ge i ρ.length with h' | h'
  · exact h'
  · exfalso; apply h; unfold own; rw [List.getD_eq_getElem?_getD, List.getElem?_eq_none h']; rfl

mutual
/-- what was there before names nothing newer -/
theorem old_rep (hs : Sub M M') (ho : SameTo ρ0.length ρ ρ') : ∀ (d : D) (v0 v : Value), Rep K M0 ρ0 d v0 → Rep K M ρ d v → Rep K M' ρ' d v
  | .any, _, _, _, _ => trivial
  | .val _, _, _, _, h => h
  | .ptr id off, v0, v, hb, h => by
    simp only [Rep] at *
    rw [ho id (own_lt fun e => by rw [e] at hb; exact hb) (fun e => by rw [e] at h; exact h)]
    exact h
  | .sl id off len k cap, v0, v, hb, h => by
    simp only [Rep] at *
    rw [ho id (own_lt fun e => by rw [e] at hb; exact hb) (fun e => by rw [e] at h; exact h)]
    exact h
  | .row k len f, v0, v, hb, h => by
    simp only [Rep] at *
    refine h.imp id fun ⟨b, o, c, h1, h2, h3⟩ => ⟨b, o, c, h1, h2, fun i hi => ?_⟩
    rcases hb with ⟨_, hb⟩ | ⟨b0, o0, c0, _, _, hb⟩
    · omega
    · exact old_repC hs ho (f i) b0 _ b _ (hb i hi) (h3 i hi)
  | .ref cs off, v0, v, hb, h => by
    simp only [Rep] at *
    obtain ⟨b0, o0, _, hb⟩ := hb
    exact let ⟨b, o, h1, h2⟩ := h; ⟨b, o, h1, old_repC hs ho cs b0 o0 b o hb h2⟩
  | .agg ds, v0, v, hb, h => by
    simp only [Rep] at *
    obtain ⟨vs0, _, hb⟩ := hb
    exact let ⟨vs, h1, h2⟩ := h; ⟨vs, h1, old_repL hs ho ds vs0 vs hb h2⟩
  | .tup ds, v0, v, hb, h => by
    simp only [Rep] at *
    obtain ⟨vs0, _, hb⟩ := hb
    exact let ⟨vs, h1, h2⟩ := h; ⟨vs, h1, old_repL hs ho ds vs0 vs hb h2⟩
  | .fn f a b, v0, v, hb, h => by
    simp only [Rep] at *
    obtain ⟨x0, y0, _, hb1, hb2⟩ := hb
    exact let ⟨x, y, h1, h2, h3⟩ := h; ⟨x, y, h1, old_repL hs ho a x0 x hb1 h2, old_repL hs ho b y0 y hb2 h3⟩
  | .iface t d, v0, v, hb, h => by
    simp only [Rep] at *
    obtain ⟨x0, _, hb⟩ := hb
    exact let ⟨x, h1, h2⟩ := h; ⟨x, h1, old_rep hs ho d x0 x hb h2⟩
  | .map id, v0, v, hb, h => by
    simp only [Rep] at *
    rw [ho id (own_lt fun e => by rw [e] at hb; exact hb) (fun e => by rw [e] at h; exact h)]
    exact h
  | .cust t q, v0, v, _, h => by
    simp only [Rep] at *
    exact K.mono _ _ _ _ _ hs h
  | .emp z, v0, v, _, h => by simp only [Rep] at *; exact h
theorem old_repC (hs : Sub M M') (ho : SameTo ρ0.length ρ ρ') : ∀ (ds : List D) (b0 o0 b o : Nat), RepC K M0 ρ0 ds b0 o0 → RepC K M ρ ds b o → RepC K M' ρ' ds b o
  | [], _, _, _, _, _, _ => by simp only [RepC]
  | d :: ds, b0, o0, b, o, hb, h => by
    simp only [RepC] at *
    obtain ⟨⟨x0, _, hb1⟩, hb2⟩ := hb
    exact let ⟨⟨x, h1, h2⟩, h3⟩ := h; ⟨⟨x, hs.cell h1, old_rep hs ho d x0 x hb1 h2⟩, old_repC hs ho ds b0 (o0 + 1) b (o + 1) hb2 h3⟩
theorem old_repL (hs : Sub M M') (ho : SameTo ρ0.length ρ ρ') : ∀ (ds : List D) (vs0 vs : List Value), RepL K M0 ρ0 ds vs0 → RepL K M ρ ds vs → RepL K M' ρ' ds vs
  | [], _, _, _, h => by simpa only [RepL] using h
  | d :: ds, vs0, vs, hb, h => by
    simp only [RepL] at *
    obtain ⟨x0, r0, _, hb1, hb2⟩ := hb
    exact let ⟨x, r, h1, h2, h3⟩ := h; ⟨x, r, h1, old_rep hs ho d x0 x hb1 h2, old_repL hs ho ds r0 r hb2 h3⟩
end

theorem mapM_get {f : D → Option D} : ∀ {ds ds' : List D}, ds.mapM f = some ds' → ds'.length = ds.length ∧ ∀ (i : Nat) (d' : D), ds'[i]? = some d' → ∃ d, ds[i]? = some d ∧ f d = some d'
  | [], ds', h => by
    simp at h
    subst h
    exact ⟨rfl, fun i d' hi => by simp at hi⟩
  | d :: ds, ds', h => by
    rw [List.mapM_cons] at h
    simp only [Option.bind_eq_bind, Option.bind_eq_some_iff, Option.pure_def, Option.some.injEq] at h
    obtain ⟨e, he, r, hr, rfl⟩ := h
    obtain ⟨g1, g2⟩ := mapM_get hr
    refine ⟨by simp [g1], fun i d' hi => ?_⟩
    cases i with
    | zero => simp at hi; subst hi; exact ⟨d, by simp, he⟩
    | succ i => simpa using g2 i d' (by simpa using hi)

/-- what is frozen -/
theorem froz_ok {ban : Option Nat} (hk : OK K w ρ hp) (hs : Sub (mask K w ρ) M') (ho : SameTo n ρ ρ')
    (hV : ∀ j b m : Nat, n ≤ j → bans ban j = false → own ρ j = .live b m → ∀ vs ty fr, w.heap[b]? = some (Obj.cells vs ty fr) → M'.heap[b]? = some (Obj.cells vs ty fr)) :
    ∀ (fuel : Nat) (d d' : D) (v : Value), froz n ban hp fuel d = some d' → Rep K (mask K w ρ) ρ d v → Rep K M' ρ' d' v
  | 0, d, d', v, h, _ => by simp [froz] at h
  | fuel + 1, d, d', v, h, hr => by
    have ih := froz_ok hk hs ho hV fuel
    have ihL : ∀ {ds ds' : List D} {vs : List Value}, ds.mapM (froz n ban hp fuel) = some ds' → RepL K (mask K w ρ) ρ ds vs → RepL K M' ρ' ds' vs := fun {ds ds' vs} hm hl => by
      obtain ⟨g1, g2⟩ := mapM_get hm
      refine repL_of (by rw [g1]; exact repL_length hl) fun i d' hi => ?_
      obtain ⟨d, q1, q2⟩ := g2 i d' hi
      obtain ⟨v, q3, q4⟩ := repL_get hl q1
      exact ⟨v, q3, ih d d' v q2 q4⟩
    have ihB : ∀ {id b m : Nat} {cs cs' : List D}, n ≤ id → bans ban id = false → own ρ id = .live b m → cellsAt hp id = some cs → cs.mapM (froz n ban hp fuel) = some cs' → Reads K M' M' ρ' cs' b 0 := fun {id b m cs cs'} h1 h2 h3 h4 h5 => by
      obtain ⟨b', m', e1, e2⟩ := cellsAt_own hk h4
      rw [h3] at e1
      cases e1
      obtain ⟨vs, ty, g1, _, g3⟩ := e2
      have hv := hV id b m h1 h2 h3 vs ty.1 ty.2 g1
      obtain ⟨q1, q2⟩ := mapM_get h5
      intro j d' hj
      obtain ⟨d, q3, q4⟩ := q2 j d' hj
      obtain ⟨x, q5, q6⟩ := g3 j d q3
      exact ⟨x, by rw [cell_of hv, Nat.zero_add]; exact q5, ih d d' x q4 q6⟩
    cases d with
    | ptr id off =>
      simp only [froz] at h
      split at h
      · rename_i hlt
        obtain rfl := Option.some.inj h
        simp only [Rep] at *
        rw [ho id hlt (fun e => by rw [e] at hr; exact hr)]
        exact hr
      · rename_i hge
        split at h
        · cases h
        · rename_i hban
          split at h
          · rename_i cs hcs
            split at h
            · rename_i cs' hcs'
              obtain rfl := Option.some.inj h
              obtain ⟨b, m, e1, e2⟩ := cellsAt_own hk hcs
              have := ihB (by omega) hban e1 hcs hcs'
              simp only [Rep, e1] at hr ⊢
              exact ⟨b, 0, by rw [Nat.zero_add]; exact hr, reads_C this⟩
            · cases h
          · cases h
    | sl id off len k cap =>
      simp only [froz] at h
      split at h
      · rename_i hlt
        obtain rfl := Option.some.inj h
        simp only [Rep] at *
        rw [ho id hlt (fun e => by rw [e] at hr; exact hr)]
        exact hr
      · rename_i hge
        split at h
        · cases h
        · rename_i hban
          split at h
          · rename_i cs hcs
            split at h
            · rename_i cs' hcs'
              split at h
              · obtain rfl := Option.some.inj h
                obtain ⟨b, m, e1, e2⟩ := cellsAt_own hk hcs
                have hrd := ihB (by omega) hban e1 hcs hcs'
                simp only [Rep, e1] at hr ⊢
                obtain ⟨c, hr, h2, _⟩ := hr
                refine .inr ⟨b, off, c, hr, h2, fun i hi => reads_C fun j d hj => ?_⟩
                rw [List.getElem?_take] at hj
                split at hj
                · rw [List.getElem?_drop] at hj
                  have := hrd _ d hj
                  rw [Nat.zero_add] at this
                  exact this
                · cases hj
              · cases h
            · cases h
          · cases h
    | map id =>
      simp only [froz] at h
      split at h
      · rename_i hlt
        obtain rfl := Option.some.inj h
        simp only [Rep] at *
        rw [ho id hlt (fun e => by rw [e] at hr; exact hr)]
        exact hr
      · cases h
    | agg ds =>
      simp only [froz] at h
      split at h
      · rename_i ds' hd
        obtain rfl := Option.some.inj h
        simp only [Rep] at *
        obtain ⟨vs, h1, h2⟩ := hr
        exact ⟨vs, h1, ihL hd h2⟩
      · cases h
    | tup ds =>
      simp only [froz] at h
      split at h
      · rename_i ds' hd
        obtain rfl := Option.some.inj h
        simp only [Rep] at *
        obtain ⟨vs, h1, h2⟩ := hr
        exact ⟨vs, h1, ihL hd h2⟩
      · cases h
    | fn f x y =>
      simp only [froz] at h
      split at h
      · rename_i x' y' hx hy
        obtain rfl := Option.some.inj h
        simp only [Rep] at *
        obtain ⟨u, v, h1, h2, h3⟩ := hr
        exact ⟨u, v, h1, ihL hx h2, ihL hy h3⟩
      · cases h
    | iface t d =>
      simp only [froz] at h
      split at h
      · rename_i d' hd
        obtain rfl := Option.some.inj h
        simp only [Rep] at *
        obtain ⟨x, h1, h2⟩ := hr
        exact ⟨x, h1, ih d d' x hd h2⟩
      · cases h
    | _ =>
      simp only [froz] at h
      split at h
      · rename_i hb
        obtain rfl := Option.some.inj h
        exact below_rep hs ho _ v hb hr
      · cases h
end
end Go.Ev
end
section
namespace Go.Ev
/-! reckoned with numbers alone, no condition is left -/
def ClTrue (cl : FuncId → List D → List Blk → Nat → Option Out) : Prop := ∀ f ds hp nid out, cl f ds hp nid = some out → ∀ p, out.p = some p → p
section
variable {cl : FuncId → List D → List Blk → Nat → Option Out} {sl : List D} {hp : List Blk} {nid : Nat} {out : Out}
theorem binV_none {op : BinOp} {a b : Value} {p : Option Prop} {v : Value} (h : binV false op a b = some (p, v)) : p = none := by
  unfold binV at h
  split at h
  · unfold int2V at h
    split at h
    · cases op <;> simp only [intV, intF, wrapV, quoV, remV, boolV, bitsV, justV] at h <;> first
        | (exact (some_pair h).1.symm)
        | (split at h <;> first | (exact (some_pair h).1.symm) | cases h)
    · cases h
  · unfold strX justV at h
    simp only at h
    split at h
    · exact (some_pair h).1.symm
    · cases h
  · unfold boV boolV at h
    split at h <;> first | (exact (some_pair h).1.symm) | cases h
  · cases h
theorem appendTo_none {k n m : Nat} {a b : List D} {d : D} (h : appendTo hp nid k n m a b d = some out) : out.p = none := by
  unfold appendTo ok at h
  repeat' split at h
  all_goals first | (cases h; rfl) | cases h
theorem core_true (hcl : ClTrue cl) {ao : AOp} (h : core false cl sl hp nid ao = some out) : ∀ p, out.p = some p → p := by
  have no : out.p = none → ∀ p, out.p = some p → p := fun e p hp => by rw [e] at hp; cases hp
  cases ao <;> simp only [core, coreF] at h
  case bin kb op x y =>
    refine no ?_
    unfold c_bin at h
    split at h
    · split at h
      · split at h
        · rename_i p v hv
          rw [forceX_eq] at h
          obtain rfl := (Option.some.inj h).symm
          exact binV_none hv
        · cases h
      · cases h
    · cases h
  case call f l => exact hcl _ _ _ _ _ h
  case callv x l =>
    unfold c_callv at h
    split at h
    · exact hcl _ _ _ _ _ h
    · cases h
  case append k x y =>
    refine no ?_
    unfold c_append at h
    split at h
    · split at h
      · exact appendTo_none h
      · cases h
    · cases h
  case appS x y =>
    refine no ?_
    unfold c_appS at h
    split at h
    · split at h
      · exact appendTo_none h
      · cases h
    · cases h
  case mlook kd z ok' m k =>
    refine no ?_
    unfold c_mlook lookM lookR ok at h
    repeat' split at h
    all_goals first | contradiction | (cases h; rfl) | cases h
  case mlookS kd z ok' m k =>
    refine no ?_
    unfold c_mlookS lookR ok at h
    repeat' split at h
    all_goals first | contradiction | (cases h; rfl) | cases h
  case s2b x =>
    refine no ?_
    unfold c_s2b ok at h
    split at h
    · split at h
      · cases h; rfl
      · rw [forceL_eq] at h; cases h; rfl
    · cases h
  all_goals
    refine no ?_
    first | (unfold c_eqPtr at h) | (guard_hyp h : ok (D.emp true) = some out) | unfold c_aidx at h | unfold c_aidx at h | unfold c_sidx at h | unfold c_sslice at h | unfold c_b2s at h | unfold c_copS at h | unfold c_mkMap at h | unfold c_mput at h | unfold c_mputS at h | unfold c_mlen at h | unfold c_ixb at h | unfold c_mkI at h | unfold c_mov at h | unfold c_pick at h | unfold c_zero at h | unfold c_box at h | unfold c_build at h | unfold c_bslice at h | unfold c_load at h | unfold c_store at h | unfold c_nilCheck at h | unfold c_eqNil at h | unfold c_eqAgg at h | unfold c_un at h | unfold c_convInt at h | unfold c_convStr at h | unfold c_mkFn at h | unfold c_mkSlice at h | unfold c_slice at h | unfold c_faddr at h | unfold c_field at h | unfold c_iaddr at h | unfold c_extract at h | unfold c_len at h | unfold c_copy at h | unfold c_clear at h | unfold c_minmax at h
    try unfold ok at h
    repeat' split at h
    all_goals first | contradiction | (cases h; rfl) | cases h
theorem stps_true (hcl : ClTrue cl) {n0 : Nat} : ∀ (l : List AOper) (s s' : St), stps false cl n0 l s = some s' → s.p → s'.p
  | [], s, s', h, hp => by rw [stps_nil] at h; cases h; exact hp
  | o :: l, s, s', h, hp => by
    rw [stps_cons] at h
    split at h
    · rename_i s1 h1
      refine stps_true hcl l s1 s' h ?_
      rcases stp_cases h1 with ⟨_, out, ho, _, rfl⟩ | ⟨_, rfl⟩
      · have := core_true hcl ho
        dsimp only
        cases hq : out.p with
        | none => exact hp
        | some q => exact ⟨hp, this q hq⟩
      · exact hp
    · cases h
theorem leave_p {raw : Bool} {s : St} {ds : List D} (h : leave raw nid s ds = some out) : out.p = none := by
  unfold leave at h
  split at h
  · rw [← Option.some.inj h]
  · split at h
    · split at h
      · split at h
        · rw [← Option.some.inj h]
        · cases h
      · cases h
    · split at h
      · rw [← Option.some.inj h]
      · cases h
theorem plainO_some {r : Option Out} (h : plainO r = some out) : r = some out ∧ out.p = none := by
  unfold plainO at h
  split at h
  · rw [← Option.some.inj h]; exact ⟨rfl, rfl⟩
  · cases h
theorem callF_cases {F : FuncId → Option AFun} {raw : Raw} {n f : Nat} {ds : List D} (h : callF F raw (n + 1) f ds hp nid = some out) :
    (F f = none ∧ raw.tab f ds hp nid = some out ∧ out.p = none) ∨ ∃ fn e s rs, F f = some fn ∧ runC F raw n fn.body ⟨True, ds ++ List.replicate (fn.ntmps - ds.length) undefD, hp, hp.length, []⟩ = some (e, s) ∧ exD e = true ∧ resD s fn.results = some rs ∧ leave (raw f) nid s rs = some out := by
  simp only [callF] at h
  split at h
  · rename_i hF
    exact .inl ⟨hF, plainO_some h⟩
  · refine .inr ?_
    rename_i fn hfn
    unfold startC at h
    simp only [appK_eq, forceN_eq] at h
    unfold endC at h
    split at h
    · rename_i e s he
      split at h
      · rename_i hex
        split at h
        · rename_i rs hr
          exact ⟨fn, e, s, rs, hfn, he, hex, hr, h⟩
        · cases h
      · cases h
    · cases h
theorem callF_true {F : FuncId → Option AFun} {raw : Raw} : ∀ n, ClTrue (callF F raw n) := by
  intro n f ds hp nid out h p hp
  cases n with
  | zero => simp [callF] at h
  | succ n =>
    rcases callF_cases h with ⟨_, _, h3⟩ | ⟨fn, e, s, rs, _, _, _, _, hl⟩
    · rw [h3] at hp
      cases hp
    · rw [leave_p hl] at hp
      cases hp
theorem runC_true {F : FuncId → Option AFun} {raw : Raw} : ∀ (m : Nat) (c : ACode) (s s' : St) (e : Ex), runC F raw m c s = some (e, s') → s.p → s'.p
  | 0, c, s, s', e, h, _ => by simp [runC] at h
  | m + 1, c, s, s', e, h, hp => by
    cases c <;> simp only [runC, stepC] at h
    case skip => obtain ⟨_, rfl⟩ := some_pair h; exact hp
    case region ops k =>
      obtain ⟨h1, _⟩ := someC_cases h
      unfold reg at h1
      simp only [growS_eq, forceN_eq, lenG_eq] at h1
      exact stps_true (callF_true m) _ _ _ h1 hp
    case seq x y =>
      rcases thenC_cases h with ⟨s1, h1, h2⟩ | ⟨_, h1⟩
      · exact runC_true m y s1 s' e h2 (runC_true m x s s1 _ h1 hp)
      · exact runC_true m x s s' e h1 hp
    case cond c x y =>
      obtain ⟨t, _, h1⟩ := testC_cases h
      cases t
      · exact runC_true m y s s' e h1 hp
      · exact runC_true m x s s' e h1 hp
    case block i b =>
      rcases outC_cases h with ⟨h1, _⟩ | ⟨j, _, h1, _⟩ | ⟨h1, _⟩
      · exact runC_true m b s _ _ h1 hp
      · exact runC_true m b s _ _ h1 hp
      · exact runC_true m b s _ _ h1 hp
    case loop b =>
      rcases thenC_cases h with ⟨s1, h1, h2⟩ | ⟨_, h1⟩
      · exact runC_true m (.loop b) s1 s' e h2 (runC_true m b s s1 _ h1 hp)
      · exact runC_true m b s s' e h1 hp
    case exit i => obtain ⟨_, rfl⟩ := some_pair h; exact hp
    case ret => obtain ⟨_, rfl⟩ := some_pair h; exact hp
end
end Go.Ev
end
section
namespace Go.Ev
section
variable {K : Cust} {P : Program} {w0 w : World} {ρ0 ρ ρ' : List Own} {hp0 : List Blk} {a : Act} {s : St} {nid : Nat} {out : Out}

theorem sub_mask (h : ∀ b, isLive K ρ' b → isLive K ρ b) : Sub (mask K w ρ) (mask K w ρ') := fun b cs ty fr hb => by
  rw [mask_some] at *
  exact ⟨fun hl => hb.1 (h b hl), hb.2⟩
theorem own_get {ρ : List Own} {i : Nat} {o : Own} (h : ρ[i]? = some o) : own ρ i = o := by
  unfold own; rw [List.getD_eq_getElem?_getD, h]; rfl

theorem belowB_rep {n b m : Nat} {x : Blk} (hs : Sub (mask K w ρ) (mask K w ρ')) (ho : SameTo n ρ ρ') (hb : belowB n x = true) (h : RepB K w (mask K w ρ) ρ (.live b m) x) : RepB K w (mask K w ρ') ρ' (.live b m) x := by
  cases x with
  | dead => trivial
  | cells cs =>
    obtain ⟨vs, ty, h1, h2, h3⟩ := h
    refine ⟨vs, ty, h1, h2, fun j d hj => ?_⟩
    obtain ⟨v, q1, q2⟩ := h3 j d hj
    refine ⟨v, q1, below_rep hs ho d v ?_ q2⟩
    simp only [belowB] at hb
    clear h3 q1 q2
    induction cs generalizing j with
    | nil => simp at hj
    | cons e cs ih =>
      simp only [belowL, Bool.and_eq_true] at hb
      cases j with
      | zero => simp at hj; exact hj ▸ hb.1
      | succ j => exact ih hb.2 j (by simpa using hj)
  | map es =>
    obtain ⟨ents, cl, h1, h2, h3, h4⟩ := h
    refine ⟨ents, cl, h1, h2, h3, fun j k d hj => ?_⟩
    obtain ⟨e, q1, q2, q3⟩ := h4 j k d hj
    refine ⟨e, q1, q2, below_rep hs ho d _ ?_ q3⟩
    simp only [belowB] at hb
    exact List.all_eq_true.1 hb (k, d) (List.mem_of_getElem? hj)
  | arr n f => simp [belowB] at hb
theorem oldB_rep {b m : Nat} {o0 : Own} {x : Blk} (hs : Sub (mask K w ρ) (mask K w ρ')) (ho : SameTo ρ0.length ρ ρ') (h0 : RepB K w0 (mask K w0 ρ0) ρ0 o0 x) (h : RepB K w (mask K w ρ) ρ (.live b m) x) : RepB K w (mask K w ρ') ρ' (.live b m) x := by
  cases x with
  | dead => trivial
  | cells cs =>
    obtain ⟨vs, ty, h1, h2, h3⟩ := h
    cases o0 with
    | live b0 m0 =>
      obtain ⟨vs0, _, _, _, h0⟩ := h0
      refine ⟨vs, ty, h1, h2, fun j d hj => ?_⟩
      obtain ⟨v, q1, q2⟩ := h3 j d hj
      obtain ⟨v0, _, q3⟩ := h0 j d hj
      exact ⟨v, q1, old_rep hs ho d v0 v q3 q2⟩
    | _ => exact h0.elim
  | map es =>
    obtain ⟨ents, cl, h1, h2, h3, h4⟩ := h
    cases o0 with
    | live b0 m0 =>
      obtain ⟨ents0, _, _, _, _, h0⟩ := h0
      refine ⟨ents, cl, h1, h2, h3, fun j k d hj => ?_⟩
      obtain ⟨e, q1, q2, q3⟩ := h4 j k d hj
      obtain ⟨e0, _, _, q4⟩ := h0 j k d hj
      exact ⟨e, q1, q2, old_rep hs ho d _ _ q4 q3⟩
    | _ => exact h0.elim
  | arr n f =>
    obtain ⟨vs, ty, h1, h2, h3, h4⟩ := h
    cases o0 with
    | live b0 m0 =>
      obtain ⟨vs0, _, _, _, _, h0⟩ := h0
      refine ⟨vs, ty, h1, h2, h3, fun j hj => ?_⟩
      obtain ⟨v, q1, q2⟩ := h4 j hj
      obtain ⟨v0, _, q3⟩ := h0 j hj
      exact ⟨v, q1, old_rep hs ho _ v0 v q3 q2⟩
    | _ => exact h0.elim

/-- the blocks that were made are given up; or all but one, which is the new block -/
theorem Inv.trunc {δe : List (Nat × Blk)} (hI : Inv K w0 ρ0 hp0 w ρ a s) (hb : (wrote s).all (fun x => belowB s.base x.2) = true) (hn : ρ0[nid]? = some .fresh)
    (hlen : ρ'.length = s.base) (hsame : ∀ i, i < s.base → i ≠ nid → ρ'[i]? = ρ[i]?) (hlive : ∀ b, isLive K ρ' b → isLive K ρ b)
    (hE : (δe = [] ∧ ρ'[nid]? = some .fresh) ∨ ∃ x id b m, δe = [(nid, x)] ∧ ρ'[nid]? = some (Own.live b m) ∧ s.base ≤ id ∧ ρ[id]? = some (Own.live b m) ∧ RepB K w (mask K w ρ') ρ' (.live b m) x) :
    Eff K w0 ρ0 hp0 nid w ρ' (wrote s ++ δe) [] := by
  have hbase := hI.base
  have h0len := hI.start.len
  have hnl := (List.getElem?_eq_some_iff.1 hn).1
  have hblen := hI.blen
  have hrlen := hI.rlen
  have hsub := sub_mask (w := w) hlive
  have hfresh : own ρ nid = .fresh := own_get (hI.fr nid hn)
  have hst : SameTo s.base ρ ρ' := fun i hi hf => by
    have hne : i ≠ nid := fun e => hf (e ▸ hfresh)
    unfold own
    rw [List.getD_eq_getElem?_getD, List.getD_eq_getElem?_getD, hsame i hi hne]
  have hst0 : SameTo ρ0.length ρ ρ' := by rw [h0len, ← hbase]; exact hst
  refine ⟨hI.size, hI.keep, fun b h => hI.new b (hlive b h), by simp [hlen, hbase, h0len], fun i => ?_, fun hp2 hl2 hk2 => ?_, fun i h1 h2 => ?_, fun i h1 h2 => ?_, hI.env⟩
  · by_cases hi : i < s.base
    · by_cases hin : i = nid
      · subst hin
        rw [own_get hn]; trivial
      · have := hI.le i
        have e : own ρ' i = own ρ i := by
          unfold own
          rw [List.getD_eq_getElem?_getD, List.getD_eq_getElem?_getD, hsame i hi hin]
        rw [e]; exact this
    · have : own ρ0 i = .fresh := by unfold own; rw [List.getD_eq_getElem?_getD, List.getElem?_eq_none (by omega)]; rfl
      rw [this]; trivial
  · rw [List.append_nil]
    have hk := hI.ok hp2 hl2 hk2
    have hb2 : s.base = hp2.length := hbase.trans hl2.1
    -- what is live in ρ' is live in ρ, under the same name or as the new block
    have cases' : ∀ i b m : Nat, ρ'[i]? = some (Own.live b m) → (i ≠ nid ∧ ρ[i]? = some (Own.live b m)) ∨ (i = nid ∧ ∃ id, s.base ≤ id ∧ ρ[id]? = some (Own.live b m)) := fun i b m h => by
      have hi : i < s.base := by rw [← hlen]; exact (List.getElem?_eq_some_iff.1 h).1
      by_cases hin : i = nid
      · subst hin
        rcases hE with ⟨_, he⟩ | ⟨x, id, b', m', _, he, hid, hr, _⟩
        · rw [he] at h; cases h
        · rw [he] at h; cases h; exact .inr ⟨rfl, id, hid, hr⟩
      · exact .inl ⟨hin, by rw [← hsame i hi hin]; exact h⟩
    refine ⟨by simp [hlen, hb2], fun i b m h => ?_, fun i j b m m' h1 h2 => ?_, fun i x hx => ?_, hk.hid, fun i b m h => (cases' i b m h).elim (fun h => hk.apart _ _ _ h.2) (fun h => h.2.elim fun _ h => hk.apart _ _ _ h.2)⟩
    · rcases cases' i b m h with ⟨_, h⟩ | ⟨_, id, _, h⟩
      · exact hk.lt i b m h
      · exact hk.lt id b m h
    · have hi : i < s.base := by rw [← hlen]; exact (List.getElem?_eq_some_iff.1 h1).1
      have hj : j < s.base := by rw [← hlen]; exact (List.getElem?_eq_some_iff.1 h2).1
      rcases cases' i b m h1 with ⟨n1, h1⟩ | ⟨rfl, id1, g1, h1⟩ <;> rcases cases' j b m' h2 with ⟨n2, h2⟩ | ⟨rfl, id2, g2, h2⟩
      · exact hk.inj i j b m m' h1 h2
      · have := hk.inj _ _ _ _ _ h1 h2; omega
      · have := hk.inj _ _ _ _ _ h1 h2; omega
      · rfl
    · -- an old block
      have old : ∀ i x, i ≠ nid → (app (wrote s) hp2)[i]? = some x → RepB K w (mask K w ρ') ρ' (own ρ' i) x := fun i x hin hx => by
        have hi : i < s.base := by have := (List.getElem?_eq_some_iff.1 hx).1; simp at this; omega
        have hov : (over s hp2)[i]? = some x := by
          unfold over
          rw [List.getElem?_append_left (by simp; omega)]
          exact hx
        have hr := hk.blk i x hov
        cases x with
        | dead => cases own ρ' i <;> trivial
        | _ =>
          cases hoi : own ρ i with
          | live b m =>
            rw [hoi] at hr
            rw [hst i hi (by rw [hoi]; simp), hoi]
            unfold wrote at hx
            rw [app_map_get] at hx
            split at hx
            · rename_i hw
              have hbel := List.all_eq_true.1 hb (i, s.hp.getD i .dead) (List.mem_map.2 ⟨i, hw.1, rfl⟩)
              rw [Option.some.inj hx] at hbel
              exact belowB_rep hsub hst hbel hr
            · exact oldB_rep hsub hst0 (hk2.blk i _ hx) hr
          | _ => rw [hoi] at hr; exact hr.elim
      rcases hE with ⟨rfl, he⟩ | ⟨x', id, b, m, rfl, he, hid, hr, hrep⟩
      · rw [List.append_nil] at hx
        by_cases hin : i = nid
        · subst hin
          have hi : i < s.base := by omega
          rw [own_get he]
          have hov : (over s hp2)[i]? = some x := by
            unfold over
            rw [List.getElem?_append_left (by simp; omega)]
            exact hx
          have := hk.blk i x hov
          rw [hfresh] at this
          cases x with
          | dead => trivial
          | _ => exact this.elim
        · exact old i x hin hx
      · have e : app (wrote s ++ [(nid, x')]) hp2 = (app (wrote s) hp2).set nid x' := by
          unfold app
          rw [List.foldl_append]
          rfl
        rw [e, List.getElem?_set] at hx
        split at hx
        · rename_i hin
          subst hin
          split at hx
          · obtain rfl := Option.some.inj hx
            rw [own_get he]
            exact hrep
          · cases hx
        · rename_i hin
          exact old i x (Ne.symm hin) hx
  · obtain ⟨g1, g2, g3⟩ := hI.hid i h1 h2
    have hin : i ≠ nid := fun e => h2 (e ▸ hn)
    have hi : i < s.base := by have := (List.getElem?_eq_some_iff.1 h1).1; omega
    refine ⟨fun x hx => ?_, (hsame i hi hin).trans g3⟩
    rcases List.mem_append.1 hx with hx | hx
    · unfold wrote at hx
      obtain ⟨j, hj, rfl⟩ := List.mem_map.1 hx
      rintro rfl
      exact g2 hj
    · rcases hE with ⟨rfl, _⟩ | ⟨x', id, b, m, rfl, _⟩
      · cases hx
      · rw [List.mem_singleton] at hx
        subst hx
        exact Ne.symm hin
  · have hi : i < s.base := by have := (List.getElem?_eq_some_iff.1 h1).1; omega
    rw [hsame i hi h2]
    exact hI.fr i h1

theorem take_get {i : Nat} (hi : i < s.base) : (ρ.take s.base)[i]? = ρ[i]? := by rw [List.getElem?_take, if_pos hi]
theorem leave_ok {raw : Bool} {ds : List D} {v : Value} (hI : Inv K w0 ρ0 hp0 w ρ a s) (hv : Rep K (mask K w ρ) ρ (tupD ds) v) (h : leave raw nid s ds = some out) (hn : ρ0[nid]? = some .fresh) : Res K w0 ρ0 hp0 nid out v w := by
  have hbase := hI.base
  have h0len := hI.start.len
  have hnl := (List.getElem?_eq_some_iff.1 hn).1
  have hblen := hI.blen
  have hrlen := hI.rlen
  unfold leave at h
  split at h
  · obtain rfl := (Option.some.inj h).symm
    refine ⟨ρ, hv, hI.size, hI.keep, hI.new, by simp; omega, hI.le, fun hp2 h1 h2 => hI.ok hp2 h1 h2, fun i h1 h2 => ?_, fun i h1 _ => hI.fr i h1, hI.env⟩
    obtain ⟨g1, g2, g3⟩ := hI.hid i h1 h2
    refine ⟨fun x hx => ?_, g3⟩
    unfold wrote at hx
    obtain ⟨j, hj, rfl⟩ := List.mem_map.1 hx
    rintro rfl
    exact g2 hj
  · rename_i hraw
    have hb : (wrote s).all (fun x => belowB s.base x.2) = true := by
      rw [Bool.or_eq_false_iff] at hraw
      simpa using hraw.2
    split at h
    · rename_i id off len k cap ho
      split at h
      · rename_i cs hcs
        split at h
        · rename_i cs' hcs'
          obtain rfl := (Option.some.inj h).symm
          -- the result is a slice of a block that was made here
          have hds : ds = [.sl id off len k cap] ∧ s.base ≤ id := by
            unfold ownRes at ho
            split at ho
            · split at ho
              · cases ho
              · cases ho; exact ⟨rfl, by omega⟩
            · cases ho
          obtain ⟨rfl, hid⟩ := hds
          obtain ⟨b, m, e1, e2⟩ := cellsAt_own hI.okHp hcs
          have hrl := own_live e1
          have hgn : ∀ i, i < s.base → i ≠ nid → ((ρ.take s.base).set nid (.live b m))[i]? = ρ[i]? := fun i hi hin => by
            rw [List.getElem?_set, if_neg (Ne.symm hin), take_get hi]
          have hnid : ((ρ.take s.base).set nid (.live b m))[nid]? = some (Own.live b m) := by
            rw [List.getElem?_set, if_pos rfl, if_pos (by simp; omega)]
          have hlive : ∀ c, isLive K ((ρ.take s.base).set nid (.live b m)) c → isLive K ρ c := by
            rintro c (hh | ⟨i, q, hi⟩)
            · exact .inl hh
            by_cases hin : i = nid
            · subst hin
              rw [hnid] at hi
              cases hi
              exact .inr ⟨id, m, hrl⟩
            · rw [List.getElem?_set, if_neg (Ne.symm hin), List.getElem?_take] at hi
              split at hi
              · exact .inr ⟨i, q, hi⟩
              · cases hi
          have hst : SameTo s.base ρ ((ρ.take s.base).set nid (.live b m)) := fun i hi hf => by
            have hne : i ≠ nid := fun e => hf (e ▸ own_get (hI.fr nid hn))
            unfold own
            rw [List.getD_eq_getElem?_getD, List.getD_eq_getElem?_getD, hgn i hi hne]
          have hV : ∀ j b' m' : Nat, s.base ≤ j → bans (some id) j = false → own ρ j = .live b' m' → ∀ vs ty fr, w.heap[b']? = some (Obj.cells vs ty fr) → (mask K w ((ρ.take s.base).set nid (.live b m))).heap[b']? = some (Obj.cells vs ty fr) := fun j b' m' hj hban hoj vs ty fr hw => by
            rw [mask_some]
            refine ⟨?_, hw⟩
            rintro (hh | ⟨i, q, hi⟩)
            · exact absurd hh (hI.okHp.apart _ _ _ (own_live hoj))
            by_cases hin : i = nid
            · subst hin
              rw [hnid] at hi
              cases hi
              have := hI.okHp.inj _ _ _ _ _ hrl (own_live hoj)
              subst this
              simp [bans] at hban
            · rw [List.getElem?_set, if_neg (Ne.symm hin), List.getElem?_take] at hi
              split at hi
              · have := hI.okHp.inj _ _ _ _ _ hi (own_live hoj); omega
              · cases hi
          obtain ⟨vs, ty, g1, g2, g3⟩ := e2
          obtain ⟨q1, q2⟩ := mapM_get hcs'
          refine ⟨(ρ.take s.base).set nid (.live b m), ?_, hI.trunc hb hn (by simp; omega) hgn hlive (.inr ⟨.cells cs', id, b, m, rfl, hnid, hid, hrl, vs, ty, g1, g2, fun j d' hj => ?_⟩)⟩
          · simp only [tupD, Rep, e1] at hv
            simp only [Rep, own_get hnid]
            exact hv
          · obtain ⟨d, q3, q4⟩ := q2 j d' hj
            obtain ⟨u, q5, q6⟩ := g3 j d q3
            exact ⟨u, q5, froz_ok hI.okHp (sub_mask hlive) hst hV 20 d d' u q4 q6⟩
        · cases h
      · cases h
    · split at h
      · rename_i d hd
        obtain rfl := (Option.some.inj h).symm
        have hfn : (ρ.take s.base)[nid]? = some Own.fresh := by rw [take_get (by omega)]; exact hI.fr nid hn
        have hlive : ∀ c, isLive K (ρ.take s.base) c → isLive K ρ c := by
          rintro c (hh | ⟨i, q, hi⟩)
          · exact .inl hh
          rw [List.getElem?_take] at hi
          split at hi
          · exact .inr ⟨i, q, hi⟩
          · cases hi
        have hst : SameTo s.base ρ (ρ.take s.base) := fun i hi _ => by
          unfold own
          rw [List.getD_eq_getElem?_getD, List.getD_eq_getElem?_getD, take_get hi]
        have ht := hI.trunc (ρ' := ρ.take s.base) (δe := []) hb hn (by simp; omega) (fun i hi _ => take_get hi) hlive (.inl ⟨rfl, hfn⟩)
        rw [List.append_nil] at ht
        refine ⟨ρ.take s.base, froz_ok hI.okHp (sub_mask hlive) hst (fun j b m hj _ hoj vs ty fr hw => ?_) 20 _ d v hd hv, ht⟩
        rw [mask_some]
        refine ⟨?_, hw⟩
        rintro (hh | ⟨i, q, hi⟩)
        · exact absurd hh (hI.okHp.apart _ _ _ (own_live hoj))
        rw [List.getElem?_take] at hi
        split at hi
        · have := hI.okHp.inj _ _ _ _ _ hi (own_live hoj); omega
        · cases hi
      · cases h

theorem enters {fn : Func} {f : FuncId} {c : Code} (hf : P.funcs[f]? = some fn) (hname : (fn.name == "runtime.NumGoroutine") = false) (hb : fn.body = some c) (args : Array Value) (w : World) : (callFunc f args).run P w = .ok (.enter f args) w := by
  simp only [callFunc, Sem.run_bind, run_program', Result.andThen_ok, hf, hname, Bool.false_eq_true, if_false, hb, Option.isNone_some]
  rfl
/-- every call that the evaluator carries out to its end is carried out so by the program -/
theorem callF_ok {F : FuncId → Option AFun} {raw : Raw} (hdr : Drawn P) (hF : ∀ f fn, F f = some fn → compF P f = some fn) (hT : ClOK K P raw.tab) : ∀ n, ClOK K P (callF F raw n) := by
  intro n
  induction n using Nat.strongRecOn with
  | _ n ih =>
    intro f ds hp nid out h hcond
    cases n with
    | zero => simp [callF] at h
    | succ n =>
      rcases callF_cases h with ⟨_, h2, _⟩ | ⟨af, e, s, rds, haf, he, hex, hrd, hl⟩
      · exact hT f ds hp nid out h2 hcond
      have hc := hF f af haf
      unfold compF at hc
      split at hc
      · rename_i fn hfn
        split at hc
        · rename_i c hbody
          split at hc
          · rename_i ab rs hab hrs hname
            cases hc
            refine ⟨enters hfn hname hbody, fun w ρ args hk hr hn => ?_⟩
            have hsp : s.p := runC_true n _ _ _ _ he trivial
            refine calls_of_wp hfn hbody (wp_mono (runC_ok hdr (fun m hm => ih m (by omega)) n (Nat.le_refl _) c ab w ρ _ _ s e hab (Inv.init hk hr) he hsp) fun x a' w' hx => ?_)
            obtain ⟨rfl, ρ', hI⟩ := hx
            obtain ⟨v, hv1, hv2⟩ := results_ok (fn := fn) hI.okHp hI.slots hrs hrd
            have hres := leave_ok hI hv2 hl hn
            cases e with
            | normal => exact ⟨hI.defers, v, hv1, v, rfl, hres⟩
            | ret => exact ⟨hI.defers, v, hv1, v, rfl, hres⟩
            | exit i => simp [exD] at hex
          · cases hc
        · cases hc
      · cases hc
end
end Go.Ev
end
