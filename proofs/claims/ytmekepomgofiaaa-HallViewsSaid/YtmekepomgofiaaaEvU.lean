import Derived.Test.YtmekepomgofiaaaEvT
set_option linter.all false
namespace Go.Ev
section
variable {K : Cust} {P : Program} {w : World} {M M0 M' : World} {ρ ρ0 ρ' : List Own} {hp : List Blk} {n : Nat}

/-- ids below n are the same -/
def SameTo (n : Nat) (ρ ρ' : List Own) : Prop := ∀ i, i < n → own ρ i ≠ .fresh → own ρ' i = own ρ i

mutual
theorem below_rep (hs : Sub M M') (ho : SameTo n ρ ρ') : ∀ (d : D) (v : Value), below n d = true → Rep K M ρ d v → Rep K M' ρ' d v
  | .any, _, _, _ => trivial
  | .val _, _, _, h => h
  | .ptr id off, v, hb, h => by
    simp only [below, decide_eq_true_eq] at hb
    simp only [Rep] at *
    rw [ho id hb (fun e => by rw [e] at h; exact h)]
    exact h
  | .sl id off len k cap, v, hb, h => by
    simp only [below, decide_eq_true_eq] at hb
    simp only [Rep] at *
    rw [ho id hb (fun e => by rw [e] at h; exact h)]
    exact h
  | .row k len f, v, hb, h => by
    simp only [below] at hb
    simp only [Rep] at *
    refine h.imp id fun ⟨b, o, c, h1, h2, h3⟩ => ⟨b, o, c, h1, h2, fun i hi => ?_⟩
    exact below_repC hs ho (f i) b _ (List.all_eq_true.1 hb i (List.mem_range.2 hi)) (h3 i hi)
  | .ref cs off, v, hb, h => by
    simp only [below] at hb
    simp only [Rep] at *
    exact let ⟨b, o, h1, h2⟩ := h; ⟨b, o, h1, below_repC hs ho cs b o hb h2⟩
  | .agg ds, v, hb, h => by
    simp only [below] at hb
    simp only [Rep] at *
    exact let ⟨vs, h1, h2⟩ := h; ⟨vs, h1, below_repL hs ho ds vs hb h2⟩
  | .tup ds, v, hb, h => by
    simp only [below] at hb
    simp only [Rep] at *
    exact let ⟨vs, h1, h2⟩ := h; ⟨vs, h1, below_repL hs ho ds vs hb h2⟩
  | .fn f a b, v, hb, h => by
    simp only [below, Bool.and_eq_true] at hb
    simp only [Rep] at *
    exact let ⟨x, y, h1, h2, h3⟩ := h; ⟨x, y, h1, below_repL hs ho a x hb.1 h2, below_repL hs ho b y hb.2 h3⟩
  | .iface t d, v, hb, h => by
    simp only [below] at hb
    simp only [Rep] at *
    exact let ⟨x, h1, h2⟩ := h; ⟨x, h1, below_rep hs ho d x hb h2⟩
  | .map id, v, hb, h => by
    simp only [below, decide_eq_true_eq] at hb
    simp only [Rep] at *
    rw [ho id hb (fun e => by rw [e] at h; exact h)]
    exact h
  | .cust t q, v, _, h => by
    simp only [Rep] at *
    exact K.mono _ _ _ _ _ hs h
  | .emp z, v, _, h => by simp only [Rep] at *; exact h
theorem below_repC (hs : Sub M M') (ho : SameTo n ρ ρ') : ∀ (ds : List D) (b o : Nat), belowL n ds = true → RepC K M ρ ds b o → RepC K M' ρ' ds b o
  | [], _, _, _, _ => by simp only [RepC]
  | d :: ds, b, o, hb, h => by
    simp only [belowL, Bool.and_eq_true] at hb
    simp only [RepC] at *
    exact let ⟨⟨x, h1, h2⟩, h3⟩ := h; ⟨⟨x, hs.cell h1, below_rep hs ho d x hb.1 h2⟩, below_repC hs ho ds b (o + 1) hb.2 h3⟩
theorem below_repL (hs : Sub M M') (ho : SameTo n ρ ρ') : ∀ (ds : List D) (vs : List Value), belowL n ds = true → RepL K M ρ ds vs → RepL K M' ρ' ds vs
  | [], _, _, h => by simpa only [RepL] using h
  | d :: ds, vs, hb, h => by
    simp only [belowL, Bool.and_eq_true] at hb
    simp only [RepL] at *
    exact let ⟨x, r, h1, h2, h3⟩ := h; ⟨x, r, h1, below_rep hs ho d x hb.1 h2, below_repL hs ho ds r hb.2 h3⟩
end

theorem own_lt {ρ : List Own} {i : Nat} (h : own ρ i ≠ .fresh) : i < ρ.length := by
  rcases Nat.lt_or_ge i ρ.length with h' | h'
  · exact h'
  · exfalso; apply h; unfold own; rw [List.getD_eq_getElem?_getD, List.getElem?_eq_none h']; rfl

mutual
/-- what was there before names nothing newer -/
theorem old_rep (hs : Sub M M') (ho : SameTo ρ0.length ρ ρ') : ∀ (d : D) (v0 v : Value), Rep K M0 ρ0 d v0 → Rep K M ρ d v → Rep K M' ρ' d v
  | .any, _, _, _, _ => trivial
  | .val _, _, _, _, h => h
  | .ptr id off, v0, v, hb, h => by
    simp only [Rep] at *
    rw [ho id (own_lt fun e => by rw [e] at hb; exact hb) (fun e => by rw [e] at h; exact h)]
    exact h
  | .sl id off len k cap, v0, v, hb, h => by
    simp only [Rep] at *
    rw [ho id (own_lt fun e => by rw [e] at hb; exact hb) (fun e => by rw [e] at h; exact h)]
    exact h
  | .row k len f, v0, v, hb, h => by
    simp only [Rep] at *
    refine h.imp id fun ⟨b, o, c, h1, h2, h3⟩ => ⟨b, o, c, h1, h2, fun i hi => ?_⟩
    rcases hb with ⟨_, hb⟩ | ⟨b0, o0, c0, _, _, hb⟩
    · omega
    · exact old_repC hs ho (f i) b0 _ b _ (hb i hi) (h3 i hi)
  | .ref cs off, v0, v, hb, h => by
    simp only [Rep] at *
    obtain ⟨b0, o0, _, hb⟩ := hb
    exact let ⟨b, o, h1, h2⟩ := h; ⟨b, o, h1, old_repC hs ho cs b0 o0 b o hb h2⟩
  | .agg ds, v0, v, hb, h => by
    simp only [Rep] at *
    obtain ⟨vs0, _, hb⟩ := hb
    exact let ⟨vs, h1, h2⟩ := h; ⟨vs, h1, old_repL hs ho ds vs0 vs hb h2⟩
  | .tup ds, v0, v, hb, h => by
    simp only [Rep] at *
    obtain ⟨vs0, _, hb⟩ := hb
    exact let ⟨vs, h1, h2⟩ := h; ⟨vs, h1, old_repL hs ho ds vs0 vs hb h2⟩
  | .fn f a b, v0, v, hb, h => by
    simp only [Rep] at *
    obtain ⟨x0, y0, _, hb1, hb2⟩ := hb
    exact let ⟨x, y, h1, h2, h3⟩ := h; ⟨x, y, h1, old_repL hs ho a x0 x hb1 h2, old_repL hs ho b y0 y hb2 h3⟩
  | .iface t d, v0, v, hb, h => by
    simp only [Rep] at *
    obtain ⟨x0, _, hb⟩ := hb
    exact let ⟨x, h1, h2⟩ := h; ⟨x, h1, old_rep hs ho d x0 x hb h2⟩
  | .map id, v0, v, hb, h => by
    simp only [Rep] at *
    rw [ho id (own_lt fun e => by rw [e] at hb; exact hb) (fun e => by rw [e] at h; exact h)]
    exact h
  | .cust t q, v0, v, _, h => by
    simp only [Rep] at *
    exact K.mono _ _ _ _ _ hs h
  | .emp z, v0, v, _, h => by simp only [Rep] at *; exact h
theorem old_repC (hs : Sub M M') (ho : SameTo ρ0.length ρ ρ') : ∀ (ds : List D) (b0 o0 b o : Nat), RepC K M0 ρ0 ds b0 o0 → RepC K M ρ ds b o → RepC K M' ρ' ds b o
  | [], _, _, _, _, _, _ => by simp only [RepC]
  | d :: ds, b0, o0, b, o, hb, h => by
    simp only [RepC] at *
    obtain ⟨⟨x0, _, hb1⟩, hb2⟩ := hb
    exact let ⟨⟨x, h1, h2⟩, h3⟩ := h; ⟨⟨x, hs.cell h1, old_rep hs ho d x0 x hb1 h2⟩, old_repC hs ho ds b0 (o0 + 1) b (o + 1) hb2 h3⟩
theorem old_repL (hs : Sub M M') (ho : SameTo ρ0.length ρ ρ') : ∀ (ds : List D) (vs0 vs : List Value), RepL K M0 ρ0 ds vs0 → RepL K M ρ ds vs → RepL K M' ρ' ds vs
  | [], _, _, _, h => by simpa only [RepL] using h
  | d :: ds, vs0, vs, hb, h => by
    simp only [RepL] at *
    obtain ⟨x0, r0, _, hb1, hb2⟩ := hb
    exact let ⟨x, r, h1, h2, h3⟩ := h; ⟨x, r, h1, old_rep hs ho d x0 x hb1 h2, old_repL hs ho ds r0 r hb2 h3⟩
end

theorem mapM_get {f : D → Option D} : ∀ {ds ds' : List D}, ds.mapM f = some ds' → ds'.length = ds.length ∧ ∀ (i : Nat) (d' : D), ds'[i]? = some d' → ∃ d, ds[i]? = some d ∧ f d = some d'
  | [], ds', h => by
    simp at h
    subst h
    exact ⟨rfl, fun i d' hi => by simp at hi⟩
  | d :: ds, ds', h => by
    rw [List.mapM_cons] at h
    simp only [Option.bind_eq_bind, Option.bind_eq_some_iff, Option.pure_def, Option.some.injEq] at h
    obtain ⟨e, he, r, hr, rfl⟩ := h
    obtain ⟨g1, g2⟩ := mapM_get hr
    refine ⟨by simp [g1], fun i d' hi => ?_⟩
    cases i with
    | zero => simp at hi; subst hi; exact ⟨d, by simp, he⟩
    | succ i => simpa using g2 i d' (by simpa using hi)

/-- what is frozen -/
theorem froz_ok {ban : Option Nat} (hk : OK K w ρ hp) (hs : Sub (mask K w ρ) M') (ho : SameTo n ρ ρ')
    (hV : ∀ j b m : Nat, n ≤ j → bans ban j = false → own ρ j = .live b m → ∀ vs ty fr, w.heap[b]? = some (Obj.cells vs ty fr) → M'.heap[b]? = some (Obj.cells vs ty fr)) :
    ∀ (fuel : Nat) (d d' : D) (v : Value), froz n ban hp fuel d = some d' → Rep K (mask K w ρ) ρ d v → Rep K M' ρ' d' v
  | 0, d, d', v, h, _ => by simp [froz] at h
  | fuel + 1, d, d', v, h, hr => by
    have ih := froz_ok hk hs ho hV fuel
    have ihL : ∀ {ds ds' : List D} {vs : List Value}, ds.mapM (froz n ban hp fuel) = some ds' → RepL K (mask K w ρ) ρ ds vs → RepL K M' ρ' ds' vs := fun {ds ds' vs} hm hl => by
      obtain ⟨g1, g2⟩ := mapM_get hm
      refine repL_of (by rw [g1]; exact repL_length hl) fun i d' hi => ?_
      obtain ⟨d, q1, q2⟩ := g2 i d' hi
      obtain ⟨v, q3, q4⟩ := repL_get hl q1
      exact ⟨v, q3, ih d d' v q2 q4⟩
    have ihB : ∀ {id b m : Nat} {cs cs' : List D}, n ≤ id → bans ban id = false → own ρ id = .live b m → cellsAt hp id = some cs → cs.mapM (froz n ban hp fuel) = some cs' → Reads K M' M' ρ' cs' b 0 := fun {id b m cs cs'} h1 h2 h3 h4 h5 => by
      obtain ⟨b', m', e1, e2⟩ := cellsAt_own hk h4
      rw [h3] at e1
      cases e1
      obtain ⟨vs, ty, g1, _, g3⟩ := e2
      have hv := hV id b m h1 h2 h3 vs ty.1 ty.2 g1
      obtain ⟨q1, q2⟩ := mapM_get h5
      intro j d' hj
      obtain ⟨d, q3, q4⟩ := q2 j d' hj
      obtain ⟨x, q5, q6⟩ := g3 j d q3
      exact ⟨x, by rw [cell_of hv, Nat.zero_add]; exact q5, ih d d' x q4 q6⟩
    cases d with
    | ptr id off =>
      simp only [froz] at h
      split at h
      · rename_i hlt
        obtain rfl := Option.some.inj h
        simp only [Rep] at *
        rw [ho id hlt (fun e => by rw [e] at hr; exact hr)]
        exact hr
      · rename_i hge
        split at h
        · cases h
        · rename_i hban
          split at h
          · rename_i cs hcs
            split at h
            · rename_i cs' hcs'
              obtain rfl := Option.some.inj h
              obtain ⟨b, m, e1, e2⟩ := cellsAt_own hk hcs
              have := ihB (by omega) hban e1 hcs hcs'
              simp only [Rep, e1] at hr ⊢
              exact ⟨b, 0, by rw [Nat.zero_add]; exact hr, reads_C this⟩
            · cases h
          · cases h
    | sl id off len k cap =>
      simp only [froz] at h
      split at h
      · rename_i hlt
        obtain rfl := Option.some.inj h
        simp only [Rep] at *
        rw [ho id hlt (fun e => by rw [e] at hr; exact hr)]
        exact hr
      · rename_i hge
        split at h
        · cases h
        · rename_i hban
          split at h
          · rename_i cs hcs
            split at h
            · rename_i cs' hcs'
              split at h
              · obtain rfl := Option.some.inj h
                obtain ⟨b, m, e1, e2⟩ := cellsAt_own hk hcs
                have hrd := ihB (by omega) hban e1 hcs hcs'
                simp only [Rep, e1] at hr ⊢
                obtain ⟨c, hr, h2, _⟩ := hr
                refine .inr ⟨b, off, c, hr, h2, fun i hi => reads_C fun j d hj => ?_⟩
                rw [List.getElem?_take] at hj
                split at hj
                · rw [List.getElem?_drop] at hj
                  have := hrd _ d hj
                  rw [Nat.zero_add] at this
                  exact this
                · cases hj
              · cases h
            · cases h
          · cases h
    | map id =>
      simp only [froz] at h
      split at h
      · rename_i hlt
        obtain rfl := Option.some.inj h
        simp only [Rep] at *
        rw [ho id hlt (fun e => by rw [e] at hr; exact hr)]
        exact hr
      · cases h
    | agg ds =>
      simp only [froz] at h
      split at h
      · rename_i ds' hd
        obtain rfl := Option.some.inj h
        simp only [Rep] at *
        obtain ⟨vs, h1, h2⟩ := hr
        exact ⟨vs, h1, ihL hd h2⟩
      · cases h
    | tup ds =>
      simp only [froz] at h
      split at h
      · rename_i ds' hd
        obtain rfl := Option.some.inj h
        simp only [Rep] at *
        obtain ⟨vs, h1, h2⟩ := hr
        exact ⟨vs, h1, ihL hd h2⟩
      · cases h
    | fn f x y =>
      simp only [froz] at h
      split at h
      · rename_i x' y' hx hy
        obtain rfl := Option.some.inj h
        simp only [Rep] at *
        obtain ⟨u, v, h1, h2, h3⟩ := hr
        exact ⟨u, v, h1, ihL hx h2, ihL hy h3⟩
      · cases h
    | iface t d =>
      simp only [froz] at h
      split at h
      · rename_i d' hd
        obtain rfl := Option.some.inj h
        simp only [Rep] at *
        obtain ⟨x, h1, h2⟩ := hr
        exact ⟨x, h1, ih d d' x hd h2⟩
      · cases h
    | _ =>
      simp only [froz] at h
      split at h
      · rename_i hb
        obtain rfl := Option.some.inj h
        exact below_rep hs ho _ v hb hr
      · cases h
end
end Go.Ev
