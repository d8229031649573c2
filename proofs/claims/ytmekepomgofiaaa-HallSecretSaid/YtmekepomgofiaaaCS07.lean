import Derived.Test.YtmekepomgofiaaaCS06
set_option linter.all false
section
namespace Go.Ev
/-! the strict forms -/
@[simp] theorem setT_eq (sl : List D) (t : Option Nat) (d : D) (k : List D → Option St) : setT sl t d k = k (setD sl t d) := by
  cases t <;> simp [setT, setD]
@[simp] theorem forceB_eq (x : Blk) (k : Blk → Option St) : forceB x k = k x := by
  cases x <;> simp [forceB]
@[simp] theorem appS_eq (δ : List (Nat × Blk)) (hp : List Blk) (k : List Blk → Option St) : appS δ hp k = k (app δ hp) := by
  induction δ generalizing hp with
  | nil => rfl
  | cons x l ih => simp only [appS, forceB_eq, setK_eq, ih]; rfl
@[simp] theorem growS_eq (hp g : List Blk) (k : List Blk → Option St) : growS hp g k = k (hp ++ g) := by
  cases g <;> simp [growS]
@[simp] theorem wrS_eq (base : Nat) (δ : List (Nat × Blk)) (w : List Nat) (k : List Nat → Option St) : wrS base δ w k = k (addW base δ w) := by
  cases δ <;> simp [wrS, addW]

theorem addW_mem {base : Nat} : ∀ (δ : List (Nat × Blk)) (w : List Nat) (j : Nat), j ∈ addW base δ w ↔ j ∈ w ∨ (j < base ∧ ∃ x ∈ δ, x.1 = j)
  | [], w, j => by simp [addW]
  | x :: l, w, j => by
    simp only [addW]
    rw [addW_mem l]
    by_cases hb : x.1 < base
    · rw [if_pos hb]
      by_cases hc : w.contains x.1 = true
      · rw [if_pos hc]
        have hm : x.1 ∈ w := by simpa using hc
        constructor
        · rintro (h | ⟨h1, y, hy, rfl⟩)
          · exact .inl h
          · exact .inr ⟨h1, y, List.mem_cons_of_mem _ hy, rfl⟩
        · rintro (h | ⟨h1, y, hy, rfl⟩)
          · exact .inl h
          · rcases List.mem_cons.1 hy with rfl | hy
            · exact .inl hm
            · exact .inr ⟨h1, y, hy, rfl⟩
      · rw [if_neg hc]
        constructor
        · rintro (h | ⟨h1, y, hy, rfl⟩)
          · rcases List.mem_cons.1 h with rfl | h
            · exact .inr ⟨hb, x, List.mem_cons_self .., rfl⟩
            · exact .inl h
          · exact .inr ⟨h1, y, List.mem_cons_of_mem _ hy, rfl⟩
        · rintro (h | ⟨h1, y, hy, rfl⟩)
          · exact .inl (List.mem_cons_of_mem _ h)
          · rcases List.mem_cons.1 hy with rfl | hy
            · exact .inl (List.mem_cons_self ..)
            · exact .inr ⟨h1, y, hy, rfl⟩
    · rw [if_neg hb]
      constructor
      · rintro (h | ⟨h1, y, hy, rfl⟩)
        · exact .inl h
        · exact .inr ⟨h1, y, List.mem_cons_of_mem _ hy, rfl⟩
      · rintro (h | ⟨h1, y, hy, rfl⟩)
        · exact .inl h
        · rcases List.mem_cons.1 hy with rfl | hy
          · exact absurd h1 hb
          · exact .inr ⟨h1, y, hy, rfl⟩
theorem app_not : ∀ (δ : List (Nat × Blk)) (h : List Blk) (j : Nat), (∀ x ∈ δ, x.1 ≠ j) → (app δ h)[j]? = h[j]?
  | [], h, j, _ => rfl
  | x :: l, h, j, hx => by
    show (app l (h.set x.1 x.2))[j]? = _
    rw [app_not l _ j fun y hy => hx y (List.mem_cons_of_mem _ hy), List.getElem?_set, if_neg (hx x (List.mem_cons_self ..))]
theorem app_congr : ∀ (δ : List (Nat × Blk)) (h h' : List Blk) (j : Nat), h[j]? = h'[j]? → (app δ h)[j]? = (app δ h')[j]?
  | [], h, h', j, e => e
  | x :: l, h, h', j, e => by
    refine app_congr l _ _ j ?_
    rw [List.getElem?_set, List.getElem?_set]
    split
    · have : j < h.length ↔ j < h'.length := by
        constructor
        · intro hl
          rw [List.getElem?_eq_getElem hl] at e
          exact (List.getElem?_eq_some_iff.1 e.symm).1
        · intro hl
          rw [List.getElem?_eq_getElem hl] at e
          exact (List.getElem?_eq_some_iff.1 e).1
      by_cases hl : j < h.length
      · rename_i e2; rw [e2, if_pos hl, if_pos (this.1 hl)]
      · rename_i e2; rw [e2, if_neg hl, if_neg (fun h => hl (this.2 h))]
    · exact e
theorem app_mem : ∀ (δ : List (Nat × Blk)) (h h' : List Blk) (j : Nat), (∃ x ∈ δ, x.1 = j) → j < h.length → j < h'.length → (app δ h)[j]? = (app δ h')[j]?
  | x :: l, h, h', j, hx, hl, hl' => by
    by_cases hr : ∃ y ∈ l, y.1 = j
    · exact app_mem l _ _ j hr (by simpa using hl) (by simpa using hl')
    · refine app_congr l _ _ j ?_
      obtain ⟨y, hy, e⟩ := hx
      rcases List.mem_cons.1 hy with rfl | hy
      · subst e
        simp [List.getElem?_set, hl, hl']
      · exact absurd ⟨y, hy, e⟩ hr
theorem app_map_get (g : Nat → Blk) : ∀ (l : List Nat) (h : List Blk) (j : Nat), (app (l.map fun i => (i, g i)) h)[j]? = if j ∈ l ∧ j < h.length then some (g j) else h[j]?
  | [], h, j => by simp [app]
  | i :: l, h, j => by
    show (app (l.map fun i => (i, g i)) (h.set i (g i)))[j]? = _
    rw [app_map_get g l]
    simp only [List.length_set, List.mem_cons, List.getElem?_set]
    by_cases h1 : j ∈ l ∧ j < h.length
    · rw [if_pos h1, if_pos ⟨.inr h1.1, h1.2⟩]
    · rw [if_neg h1]
      by_cases h2 : i = j
      · subst h2
        rw [if_pos rfl]
        by_cases h3 : i < h.length
        · rw [if_pos h3, if_pos ⟨.inl rfl, h3⟩]
        · rw [if_neg h3, if_neg (fun h => h3 h.2)]
          simp at h3
          simp [h3]
      · rw [if_neg h2, if_neg]
        rintro ⟨rfl | h4, h5⟩
        · exact h2 rfl
        · exact h1 ⟨h4, h5⟩

/-- the heap of one who sees more at the beginning -/
def over (s : St) (hp2 : List Blk) : List Blk := app (wrote s) hp2 ++ s.hp.drop s.base

structure Inv (K : Cust) (w0 : World) (ρ0 : List Own) (hp0 : List Blk) (w : World) (ρ : List Own) (a : Act) (s : St) : Prop where
  size : w0.heap.size ≤ w.heap.size
  keep : ∀ b : Nat, b < w0.heap.size → (∀ i n : Nat, ρ0[i]? = some (Own.live b n) → hp0[i]? = some .dead) → w.heap[b]? = w0.heap[b]?
  new : ∀ b, isLive K ρ b → isLive K ρ0 b ∨ w0.heap.size ≤ b
  le : OwnLe ρ0 ρ
  rlen : ρ.length = s.hp.length
  base : s.base = hp0.length
  blen : hp0.length ≤ s.hp.length
  same : ∀ i : Nat, i < hp0.length → i ∉ s.wr → s.hp[i]? = hp0[i]?
  hid : ∀ i : Nat, hp0[i]? = some .dead → ρ0[i]? ≠ some Own.fresh → s.hp[i]? = some .dead ∧ i ∉ s.wr ∧ ρ[i]? = ρ0[i]?
  ok : ∀ hp2, Le hp0 hp2 → OK K w0 ρ0 hp2 → OK K w ρ (over s hp2)
  fr : ∀ i : Nat, ρ0[i]? = some Own.fresh → ρ[i]? = some Own.fresh
  slots : Slots K (mask K w ρ) ρ s.sl a.tmps
  defers : a.defers = []
  start : OK K w0 ρ0 hp0
  env : Env w0 w

section
variable {K : Cust} {w0 : World} {ρ0 : List Own} {hp0 : List Blk} {w : World} {ρ : List Own} {a : Act} {s : St}
theorem over_get {hp2 : List Blk} (hb : s.base = hp2.length) (hl : s.base ≤ s.hp.length) (j : Nat) :
    (over s hp2)[j]? = if j < s.base then (if j ∈ s.wr then s.hp[j]? else hp2[j]?) else s.hp[j]? := by
  unfold over
  by_cases hj : j < s.base
  · rw [if_pos hj, List.getElem?_append_left (by simp; omega)]
    unfold wrote
    rw [app_map_get]
    by_cases hm : j ∈ s.wr
    · rw [if_pos ⟨hm, by omega⟩, if_pos hm, List.getElem?_eq_getElem (by omega)]
      simp [List.getD_eq_getElem?_getD, List.getElem?_eq_getElem (show j < s.hp.length by omega)]
    · rw [if_neg (fun h => hm h.1), if_neg hm]
  · rw [if_neg hj, List.getElem?_append_right (by simp; omega)]
    simp only [app_length, List.getElem?_drop]
    congr 1
    omega
theorem Inv.here (h : Inv K w0 ρ0 hp0 w ρ a s) : over s hp0 = s.hp := by
  apply List.ext_getElem?
  intro j
  rw [over_get h.base (by rw [h.base]; exact h.blen)]
  split
  · rename_i hj
    rw [h.base] at hj
    split
    · rfl
    · exact (h.same j hj (by assumption)).symm
  · rfl
theorem Inv.okHp (h : Inv K w0 ρ0 hp0 w ρ a s) : OK K w ρ s.hp := by
  have := h.ok hp0 (Le.refl _) h.start
  rwa [h.here] at this

theorem slots_put {M M' : World} {ρ' : List Own} {sl : List D} {d : D} {v : Value} {t : Option Nat} (h : Slots K M ρ sl a.tmps) (hs : Sub M M') (ho : OwnLe ρ ρ') (hd : Rep K M' ρ' d v) : Slots K M' ρ' (setD sl t d) (a.put t v).tmps := by
  cases t with
  | none => exact ⟨h.1, fun i d hi => let ⟨v, h1, h2⟩ := h.2 i d hi; ⟨v, h1, Rep.mono hs ho _ _ h2⟩⟩
  | some t =>
    refine ⟨by simp [setD, Act.put, h.1], fun i e hi => ?_⟩
    simp only [setD, List.getElem?_set] at hi
    simp only [Act.put]
    split at hi
    · rename_i heq
      subst heq
      split at hi
      · rename_i hl
        obtain rfl := Option.some.inj hi
        exact ⟨v, by rw [h.1] at hl; simp [hl], hd⟩
      · cases hi
    · rename_i hne
      obtain ⟨u, h1, h2⟩ := h.2 i e hi
      exact ⟨u, by rw [Array.getElem?_setIfInBounds_ne hne]; exact h1, Rep.mono hs ho _ _ h2⟩

theorem hideL_get (n0 : Nat) (sl : List D) (l : List Nat) (hp : List Blk) (i : Nat) : (hideL n0 sl l hp).length = hp.length ∧ ((hideL n0 sl l hp)[i]? = hp[i]? ∨ (hideL n0 sl l hp)[i]? = some .dead) := by
  induction l with
  | nil => exact ⟨rfl, .inl rfl⟩
  | cons r l ih =>
    simp only [hideL, List.length_set, List.getElem?_set]
    refine ⟨ih.1, ?_⟩
    split
    · split
      · exact .inr rfl
      · rename_i e h
        rw [ih.1] at h
        exact .inl (List.getElem?_eq_none (by omega)).symm
    · exact ih.2
theorem hideL_le (n0 : Nat) (sl : List D) (l : List Nat) (hp : List Blk) : Le (hideL n0 sl l hp) hp := ⟨(hideL_get n0 sl l hp 0).1, fun i => (hideL_get n0 sl l hp i).2⟩
theorem OK.less {hp hp2 : List Blk} (h : OK K w ρ hp2) (hl : Le hp hp2) : OK K w ρ hp := by
  refine ⟨h.len.trans hl.1.symm, h.lt, h.inj, fun i x hx => ?_, h.hid, h.apart⟩
  rcases hl.2 i with e | e
  · exact h.blk i x (e ▸ hx)
  · rw [e] at hx
    cases hx
    cases own ρ i <;> trivial
theorem Le.trans {a b c : List Blk} (h : Le a b) (h' : Le b c) : Le a c := ⟨h.1.trans h'.1, fun i => by
  rcases h.2 i with e | e
  · rcases h'.2 i with e' | e'
    · exact .inl (e.trans e')
    · exact .inr (e.trans e')
  · exact .inr e⟩

/-- one step on -/
theorem Inv.step {w' : World} {ρ' : List Own} {d : D} {v : Value} {δ : List (Nat × Blk)} {g : List Blk} {t : Option Nat} {p : Prop} {n0 nid : Nat} {sl0 : List D} {hid : List Nat} (h : Inv K w0 ρ0 hp0 w ρ a s) (hd : Rep K (mask K w' ρ') ρ' d v)
    (he : Eff K w ρ (hideL n0 sl0 hid s.hp) nid w' ρ' δ g) (hnid : hp0.length ≤ nid) : Inv K w0 ρ0 hp0 w' ρ' (a.put t v) ⟨p, setD s.sl t d, app δ s.hp ++ g, s.base, addW s.base δ s.wr⟩ := by
  have hsub := he.sub
  have hbl : s.base ≤ s.hp.length := by rw [h.base]; exact h.blen
  have hdead : ∀ i : Nat, hp0[i]? = some .dead → ρ0[i]? ≠ some Own.fresh → (hideL n0 sl0 hid s.hp)[i]? = some .dead ∧ ρ[i]? ≠ some Own.fresh := fun i h1 h2 => by
    obtain ⟨g1, g2, g3⟩ := h.hid i h1 h2
    refine ⟨?_, by rw [g3]; exact h2⟩
    rcases (hideL_get n0 sl0 hid s.hp i).2 with e | e
    · rw [e]; exact g1
    · exact e
  refine ⟨Nat.le_trans h.size he.size, fun b hb hv => ?_, fun b hb => ?_, h.le.trans he.le, ?_, h.base, ?_, fun i hi hn => ?_, fun i h1 h2 => ?_, fun hp2 hl2 hk2 => ?_, fun i h1 => ?_, slots_put h.slots hsub he.le hd, ?_, h.start, h.env.trans he.env⟩
  · rw [he.keep b (by have := h.size; omega) (fun i n hi => ?_)]
    · exact h.keep b hb hv
    · obtain ⟨j, m, hj⟩ : ∃ j m : Nat, ρ0[j]? = some (Own.live b m) := by
        rcases h.new b (.inr ⟨i, n, hi⟩) with (hh | hl) | hl
        · exact absurd hh (h.okHp.apart i b n hi)
        · exact hl
        · omega
      have hnf : ρ0[j]? ≠ some Own.fresh := by rw [hj]; simp
      obtain ⟨g1, g2, g3⟩ := h.hid j (hv j m hj) hnf
      have hij : j = i := h.okHp.inj _ _ _ _ _ (g3.trans hj) hi
      subst hij
      exact (hdead j (hv j m hj) hnf).1
  · rcases he.new b hb with hl | hl
    · exact h.new b hl
    · exact .inr (Nat.le_trans h.size hl)
  · simp [he.len, h.rlen]
  · have := h.blen
    simp
    omega
  · rw [addW_mem] at hn
    have hn1 : i ∉ s.wr := fun e => hn (.inl e)
    have hn2 : ∀ x ∈ δ, x.1 ≠ i := fun x hx e => hn (.inr ⟨by rw [h.base]; exact hi, x, hx, e⟩)
    have := h.blen
    rw [List.getElem?_append_left (by simp; omega), app_not δ _ _ hn2]
    exact h.same i hi hn1
  · obtain ⟨g1, g2, g3⟩ := h.hid i h1 h2
    obtain ⟨d1, d2⟩ := hdead i h1 h2
    obtain ⟨e1, e2⟩ := he.hid i d1 d2
    have hi0 : i < hp0.length := (List.getElem?_eq_some_iff.1 h1).1
    have := h.blen
    refine ⟨?_, ?_, e2.trans g3⟩
    · rw [List.getElem?_append_left (by simp; omega), app_not δ _ _ e1]
      exact g1
    · rw [addW_mem]
      rintro (hw | ⟨_, x, hx, rfl⟩)
      · exact g2 hw
      · exact e1 x hx rfl
  · have hk := h.ok hp2 hl2 hk2
    have hb2 : s.base = hp2.length := h.base.trans hl2.1
    have hle : Le (hideL n0 sl0 hid s.hp) (over s hp2) := by
      refine (hideL_le n0 sl0 hid s.hp).trans ⟨?_, fun i => ?_⟩
      · have := h.blen
        unfold over
        simp
        rw [← hb2]
        omega
      · rw [over_get hb2 hbl]
        split
        · rename_i hj
          split
          · exact .inl rfl
          · rename_i hw
            rw [h.same i (by rw [← h.base]; exact hj) hw]
            exact hl2.2 i
        · exact .inl rfl
    have hr := he.ok _ hle hk
    have e : app δ (over s hp2) ++ g = over ⟨p, setD s.sl t d, app δ s.hp ++ g, s.base, addW s.base δ s.wr⟩ hp2 := by
      have lo : (over s hp2).length = s.hp.length := by
        unfold over
        simp
        rw [← hb2]
        omega
      apply List.ext_getElem?
      intro j
      rw [over_get (s := ⟨p, setD s.sl t d, app δ s.hp ++ g, s.base, addW s.base δ s.wr⟩) hb2 (by simp; omega)]
      dsimp only
      by_cases hj : j < s.hp.length
      · rw [List.getElem?_append_left (by simp; omega), List.getElem?_append_left (by simp; omega)]
        by_cases hjb : j < s.base
        · rw [if_pos hjb]
          by_cases hm : ∃ x ∈ δ, x.1 = j
          · rw [if_pos ((addW_mem _ _ _).2 (.inr ⟨hjb, hm⟩))]
            exact app_mem δ _ _ j hm (by omega) hj
          · have hn : ∀ x ∈ δ, x.1 ≠ j := fun x hx e => hm ⟨x, hx, e⟩
            rw [app_not δ _ _ hn, over_get hb2 hbl, if_pos hjb]
            have : (j ∈ addW s.base δ s.wr) ↔ j ∈ s.wr := by
              rw [addW_mem]
              constructor
              · rintro (h | ⟨_, h⟩)
                · exact h
                · exact absurd h hm
              · exact .inl
            by_cases hw : j ∈ s.wr
            · rw [if_pos hw, if_pos (this.2 hw), app_not δ _ _ hn]
            · rw [if_neg hw, if_neg (fun h => hw (this.1 h))]
        · rw [if_neg hjb]
          refine app_congr δ _ _ j ?_
          rw [over_get hb2 hbl, if_neg hjb]
      · rw [if_neg (by omega), List.getElem?_append_right (by simp; omega), List.getElem?_append_right (by simp; omega)]
        simp [lo]
    rw [← e]
    exact hr
  · refine he.fr i (h.fr i h1) ?_
    have h2 := (List.getElem?_eq_some_iff.1 h1).1
    have h3 := h.start.len
    omega
  · cases t <;> exact h.defers
theorem Inv.skip {t : Option Nat} {p : Prop} (h : Inv K w0 ρ0 hp0 w ρ a s) : Inv K w0 ρ0 hp0 w ρ (a.put t undef) ⟨p, setD s.sl t undefD, s.hp, s.base, s.wr⟩ := by
  have := h.step (t := t) (p := p) (n0 := 0) (sl0 := []) (hid := []) (d := undefD) (v := undef) (δ := []) (g := []) (by simp only [undefD, Rep]; exact ⟨[], rfl, by simp [RepL]⟩) (Eff.no (nid := hp0.length) rfl) (Nat.le_refl _)
  simpa [app, addW] using this
end
end Go.Ev
end
section
namespace Go.Ev
section
variable {K : Cust} {P : Program} {w0 : World} {ρ0 : List Own} {hp0 : List Blk} {w : World} {ρ : List Own} {a : Act} {s s' : St} {ex : Bool} {cl : FuncId → List D → List Blk → Nat → Option Out}

theorem andP_left {p : Prop} {q : Option Prop} (h : andP p q) : p := by
  cases q with
  | none => exact h
  | some q => exact h.1
theorem andP_right {p : Prop} {q : Option Prop} (h : andP p q) : ∀ r, q = some r → r := fun r hr => by subst hr; exact h.2
theorem hideK_eq {n0 : Nat} {sl : List D} {l : List Nat} {hp : List Blk} : hideK n0 sl l hp = hideL n0 sl l hp := by cases l <;> rfl
theorem addW_nil {base : Nat} {w : List Nat} : addW base [] w = w := rfl
theorem finS_cases {o : AOper} {nid : Nat} {out : Out} (h : finS o s nid out = some s') : (o.wrt = true ∨ calm o s.sl nid out = true) ∧ s' = ⟨andP s.p out.p, setD s.sl o.dst out.d, app out.δ s.hp ++ out.grow, s.base, addW s.base out.δ s.wr⟩ := by
  unfold finS at h
  split at h
  · rename_i h1 h2
    refine ⟨.inr ?_, ?_⟩
    · unfold calm; rw [h1, h2]; rfl
    · rw [h1, h2]
      simpa [app, addW] using h.symm
  · split at h
    · rename_i hw
      exact ⟨by simpa using hw, by simpa using h.symm⟩
    · cases h
theorem doS_cases {n0 : Nat} {o : AOper} (h : doS ex cl n0 o s = some s') : ∃ out, core ex cl s.sl (hideL n0 s.sl o.hide s.hp) (n0 + o.rank) o.op = some out ∧ (o.wrt = true ∨ calm o s.sl (n0 + o.rank) out = true) ∧
      s' = ⟨andP s.p out.p, setD s.sl o.dst out.d, app out.δ s.hp ++ out.grow, s.base, addW s.base out.δ s.wr⟩ := by
  unfold doS at h
  rw [forceN_eq, hideK_eq] at h
  unfold someS at h
  split at h
  · rename_i out ho
    exact ⟨out, ho, finS_cases h⟩
  · cases h
theorem stp_cases {n0 : Nat} {o : AOper} (h : stp ex cl n0 o s = some s') :
    (yes s.sl o.guard = some true ∧ ∃ out, core ex cl s.sl (hideL n0 s.sl o.hide s.hp) (n0 + o.rank) o.op = some out ∧ (o.wrt = true ∨ calm o s.sl (n0 + o.rank) out = true) ∧
      s' = ⟨andP s.p out.p, setD s.sl o.dst out.d, app out.δ s.hp ++ out.grow, s.base, addW s.base out.δ s.wr⟩) ∨
    (yes s.sl o.guard = some false ∧ s' = ⟨s.p, setD s.sl o.dst undefD, s.hp, s.base, s.wr⟩) := by
  unfold stp at h
  split at h
  · rename_i hg
    rw [hg]
    exact .inl ⟨rfl, doS_cases h⟩
  · rename_i g hg
    rw [hg]
    unfold ifS at h
    split at h
    · rename_i b hb
      rw [hb]
      cases b
      · exact .inr ⟨rfl, by simpa using h.symm⟩
      · exact .inl ⟨rfl, doS_cases h⟩
    · cases h
theorem stp_p {n0 : Nat} {o : AOper} (h : stp ex cl n0 o s = some s') (hp : s'.p) : s.p := by
  rcases stp_cases h with ⟨_, out, _, _, rfl⟩ | ⟨_, rfl⟩
  · exact andP_left hp
  · exact hp
theorem stps_p {n0 : Nat} : ∀ (l : List AOper) (s s' : St), stps ex cl n0 l s = some s' → s'.p → s.p
  | [], s, s', h, hp => by rw [stps_nil] at h; cases h; exact hp
  | o :: l, s, s', h, hp => by
    rw [stps_cons] at h
    split at h
    · rename_i s1 h1
      exact stp_p h1 (stps_p l s1 s' h hp)
    · cases h

theorem yes_wanted {M : World} {ops : Array Oper} {o : Oper} {b : Bool} (hs : Slots K M ρ s.sl a.tmps) (h : yes s.sl (o.guard.map fun g => ((ops[g.1]?).bind (·.dst), g.2)) = some b) : Region.wanted o (yielded ops a.tmps) = b := by
  unfold Region.wanted
  cases hg : o.guard with
  | none => rw [hg] at h; simp only [Option.map_none, yes] at h; exact Option.some.inj h
  | some g =>
    obtain ⟨j, want⟩ := g
    rw [hg] at h
    simp only [Option.map_some, yes, getG_eq] at h
    cases hd : (ops[j]?).bind (·.dst) with
    | none => rw [hd] at h; simp at h
    | some t =>
      rw [hd] at h
      simp only at h
      split at h
      · rename_i c hc
        obtain ⟨v, h1, h2⟩ := hs.2 t _ hc
        simp only [Rep] at h2
        subst h2
        have hy : yielded ops a.tmps j = some c := by
          unfold yielded
          rw [hd]
          simp [h1]
        simp only [hy]
        rw [← Option.some.inj h]
        cases c <;> cases want <;> rfl
      · rename_i ds hc
        obtain ⟨v, h1, h2⟩ := hs.2 t _ hc
        simp only [Rep] at h2
        obtain ⟨vs, rfl, _⟩ := h2
        have hy : yielded ops a.tmps j = none := by
          unfold yielded
          rw [hd]
          simp [h1]
        simp only [hy]
        rw [← Option.some.inj h]
        rfl
      · cases h

/-- what 'ao' has to do with operation 'o' -/
structure Of (P : Program) (ops : Array Oper) (o : Oper) (ao : AOper) : Prop where
  op : comp P o = some ao.op ∨ (ao.op = .emptyS ∧ ∃ k z, comp P o = some (.bslice k 0 z []))
  dst : ao.dst = o.dst
  guard : ao.guard = o.guard.map fun g => ((ops[g.1]?).bind (·.dst), g.2)

theorem comp_bslice {o : Oper} {k : Nat} {z : List D} (hc : comp P o = some (.bslice k 0 z [])) : ∃ t e parts, o.op = .buildSlice t 0 parts ∧ elemT P t = some e ∧ sizT P e = some k ∧ parts.toList = [] := by
  unfold comp at hc
  split at hc
  case h_7 =>
    rename_i t len parts ho
    split at hc
    · rename_i e he
      split at hc
      · rename_i k' z' hk hz
        split at hc
        · simp only [Option.some.injEq, AOp.bslice.injEq] at hc
          obtain ⟨rfl, rfl, _, h4⟩ := hc
          exact ⟨t, e, parts, ho, he, hk, h4⟩
        · cases hc
      · cases hc
    · cases hc
  all_goals (exfalso; revert hc)
  all_goals (repeat' split)
  all_goals (intro hc; first | cases hc | (simp at hc; done) | (unfold compCall at hc; repeat' split at hc) )
  all_goals first | cases hc | (simp at hc; done)
theorem comp_empty {a : Act} {hp : List Blk} {nid : Nat} {w : World} {ρ : List Own} {o : Oper} {k : Nat} {z : List D} (hc : comp P o = some (.bslice k 0 z [])) : Does P o a w (Res K w ρ hp nid ⟨none, .emp true, [], []⟩) := by
  obtain ⟨t, e, parts, ho, he, hk, hp0⟩ := comp_bslice hc
  have hp1 : parts = #[] := by apply Array.ext'; simpa using hp0
  subst hp1
  have hrun : (execOp a.eval o).run P w = .ok (.value (.slice (some ⟨w.heap.size, 0, none⟩) 0 0)) { w with heap := w.heap.push (Obj.cells #[] e (0, 0)) } := by
    have hlen' : ¬ (2 ^ 24 < 0) := by decide
    simp only [execOp, ho, Instr.buildSlice, Sem.run_bind, run_under (elemT_some he), Result.andThen_ok, run_size hk, gt_iff_lt, Nat.zero_mul, hlen', if_false, if_true, Sem.run_pure]
    have hf : ∀ (A : Array Value) (L : List (Nat × Value)), A = #[] → L = [] → Instr.fill (fun i => some (i * k, k)) A L = some #[] := by
      intro A L h h'
      subst h h'
      rfl
    rw [hf _ _ (by simp) (by simp)]
    simp [newRow, newObj, Sem.run]
  refine does_value hrun ⟨ρ, ?_, Eff.foreign (by simp) (fun c hcl => by rw [Array.getElem?_push_lt hcl, Array.getElem?_eq_getElem hcl]) ⟨rfl, rfl, rfl⟩⟩
  simp only [Rep]
  exact ⟨_, _, _, rfl, by simp⟩
theorem core_ok2 {a : Act} {sl : List D} {hp : List Blk} {nid : Nat} {out : Out} {w : World} {ρ : List Own} {o : Oper} {ao : AOp} (hc : comp P o = some ao ∨ (ao = .emptyS ∧ ∃ k z, comp P o = some (.bslice k 0 z []))) (hcl : ClOK K P cl) (hk : OK K w ρ hp) (hs : Slots K (mask K w ρ) ρ sl a.tmps) (hn : allocs ao = true → ρ[nid]? = some .fresh)
    (h : core ex cl sl hp nid ao = some out) (hcond : ∀ p, out.p = some p → p) : Does P o a w (Res K w ρ hp nid out) := by
  rcases hc with hc | ⟨rfl, k, z, hc⟩
  · exact core_ok hc hcl hk hs hn h hcond
  · obtain rfl := (Option.some.inj h).symm
    exact comp_empty hc
theorem core_nid {sl : List D} {hp : List Blk} {nid nid' : Nat} {ao : AOp} (h : allocs ao = false) : core ex cl sl hp nid ao = core ex cl sl hp nid' ao := by
  cases ao <;> first | rfl | (simp [allocs] at h)
theorem stp_ok {ops : Array Oper} {i n0 : Nat} {o : Oper} {ao : AOper} (hi : ops[i]? = some o) (hof : Of P ops o ao) (hcl : ClOK K P cl) (hI : Inv K w0 ρ0 hp0 w ρ a s) (hn0 : hp0.length ≤ n0) (hfr : allocs ao.op = true → ρ[n0 + ao.rank]? = some Own.fresh)
    (h : stp ex cl n0 ao s = some s') (hp : s'.p) {next : Act → World → Prop} {Q : Exit → Act → World → Prop}
    (hn : ∀ a' w' ρ', Inv K w0 ρ0 hp0 w' ρ' a' s' → (∀ j : Nat, ρ[j]? = some Own.fresh → (allocs ao.op = true → j ≠ n0 + ao.rank) → ρ'[j]? = some Own.fresh) → next a' w') : wpOp P ops Q i next a w := by
  unfold wpOp
  simp only [hi]
  rcases stp_cases h with ⟨hy, out, ho, hw, rfl⟩ | ⟨hy, rfl⟩
  · rw [hof.guard] at hy
    rw [yes_wanted hI.slots hy, if_pos rfl]
    refine .inl ?_
    cases hal : allocs ao.op with
    | true =>
      have hd := core_ok2 (nid := n0 + ao.rank) hof.op hcl (hI.okHp.less (hideL_le n0 s.sl ao.hide s.hp)) hI.slots hfr ho (andP_right hp)
      refine hd next Q fun v w' hR => ?_
      obtain ⟨ρ', h1, h2⟩ := hR
      rw [← hof.dst]
      exact hn _ _ ρ' (hI.step h1 h2 (by omega)) fun j hj hne => h2.fr j hj (hne hal)
    | false =>
      rw [core_nid (nid' := ρ.length + hp0.length) hal] at ho
      have hd := core_ok2 (nid := ρ.length + hp0.length) hof.op hcl (hI.okHp.less (hideL_le n0 s.sl ao.hide s.hp)) hI.slots (fun h => by rw [hal] at h; cases h) ho (andP_right hp)
      refine hd next Q fun v w' hR => ?_
      obtain ⟨ρ', h1, h2⟩ := hR
      rw [← hof.dst]
      exact hn _ _ ρ' (hI.step h1 h2 (by omega)) fun j hj _ => h2.fr j hj (by have := (List.getElem?_eq_some_iff.1 hj).1; omega)
  · rw [hof.guard] at hy
    rw [yes_wanted hI.slots hy, if_neg (by simp)]
    rw [← hof.dst]
    exact hn _ _ ρ hI.skip (fun j hj _ => hj)

theorem compR_of {ops : Array Oper} : ∀ (l : List Oper) (r n : Nat) (aos : List AOper), compR P ops l r = some (aos, n) →
    r ≤ n ∧ aos.length = l.length ∧ (∀ ao ∈ aos, ao.hide = [] ∧ ao.wrt = true) ∧ ∀ (j : Nat) (o : Oper) (ao : AOper), l[j]? = some o → aos[j]? = some ao → Of P ops o ao
  | [], r, n, aos, h => by
    simp only [compR] at h
    obtain ⟨rfl, rfl⟩ := some_pair h
    exact ⟨Nat.le_refl _, rfl, fun ao h => (by cases h), fun j o ao h => (by simp at h)⟩
  | o :: l, r, n, aos, h => by
    simp only [compR] at h
    split at h
    · rename_i c hc
      split at h
      · rename_i t m ht
        obtain ⟨rfl, rfl⟩ := some_pair h
        obtain ⟨g1, g2, g3, g4⟩ := compR_of l _ _ _ ht
        refine ⟨by split at g1 <;> omega, by simp [g2], fun ao hao => ?_, fun j o' ao hj ha => ?_⟩
        · rcases List.mem_cons.1 hao with rfl | hao
          · exact ⟨rfl, rfl⟩
          · exact g3 ao hao
        · cases j with
          | zero => simp at hj ha; subst hj ha; exact ⟨.inl hc, rfl, rfl⟩
          | succ j => exact g4 j o' ao (by simpa using hj) (by simpa using ha)
      · cases h
    · cases h

theorem stps_ok {ops : Array Oper} {n0 : Nat} {Q : Exit → Act → World → Prop} (hcl : ClOK K P cl) (hn0 : hp0.length ≤ n0) : ∀ (l : List Oper) (k r n : Nat) (aos : List AOper) (w : World) (ρ : List Own) (a : Act) (s s' : St),
    ops.toList.drop k = l → compR P ops l r = some (aos, n) → Inv K w0 ρ0 hp0 w ρ a s → (∀ j, r ≤ j → j < n → ρ[n0 + j]? = some Own.fresh) → stps ex cl n0 aos s = some s' → s'.p →
    (∀ a' w' ρ', Inv K w0 ρ0 hp0 w' ρ' a' s' → Q .normal a' w') → wpOps P ops Q (List.range' k l.length) a w
  | [], k, r, n, aos, w, ρ, a, s, s', _, hc, hI, _, h, _, hQ => by
    simp only [compR] at hc
    obtain ⟨rfl, rfl⟩ := some_pair hc
    rw [stps_nil] at h
    obtain rfl := Option.some.inj h
    exact hQ _ _ _ hI
  | o :: l, k, r, n, aos, w, ρ, a, s, s', hd, hc, hI, hfr, h, hp, hQ => by
    have hc0 := hc
    simp only [compR] at hc
    split at hc
    · rename_i c hcm
      split at hc
      · rename_i t m ht
        obtain ⟨rfl, rfl⟩ := some_pair hc
        rw [stps_cons] at h
        split at h
        · rename_i s1 h1
          have hi : ops[k]? = some o := by
            have := congrArg (·[0]?) hd
            simpa using this
          have hm := (compR_of _ _ _ _ ht).1
          simp only [List.length_cons, List.range'_succ]
          rw [wpOps_cons]
          refine stp_ok hi ⟨.inl hcm, rfl, rfl⟩ hcl hI hn0 (fun ha => ?_) h1 (stps_p _ _ _ h hp) fun a' w' ρ' hI' hf => ?_
          · dsimp only at ha ⊢
            rw [ha, if_pos rfl] at hm
            exact hfr r (Nat.le_refl _) (by omega)
          · refine stps_ok hcl hn0 l (k + 1) _ m t w' ρ' a' s1 s' ?_ ht hI' (fun j h1 h2 => ?_) h hp hQ
            · rw [← List.drop_drop, hd]; rfl
            · by_cases ha : allocs c = true
              · rw [if_pos ha] at h1
                exact hf _ (hfr j (by omega) h2) (fun _ => by dsimp only; omega)
              · rw [if_neg ha] at h1
                exact hf _ (hfr j (by omega) h2) (fun h => absurd h ha)
        · cases h
      · cases hc
    · cases hc
end
end Go.Ev
end
section
namespace Go.Ev
section
variable {K : Cust} {P : Program} {w0 : World} {ρ0 : List Own} {hp0 : List Blk} {w : World} {ρ : List Own} {a : Act} {s s' : St} {ex : Bool} {cl : FuncId → List D → List Blk → Nat → Option Out}

theorem live_fresh (n : Nat) : isLive K (ρ ++ List.replicate n Own.fresh) = isLive K ρ := by
  funext b
  apply propext
  constructor
  · rintro (hh | ⟨i, m, h⟩)
    · exact .inl hh
    rw [List.getElem?_append] at h
    split at h
    · exact .inr ⟨i, m, h⟩
    · rw [List.getElem?_replicate] at h
      split at h <;> simp at h
  · rintro (hh | ⟨i, m, h⟩)
    · exact .inl hh
    exact .inr ⟨i, m, by rw [List.getElem?_append_left (List.getElem?_eq_some_iff.1 h).1]; exact h⟩
theorem mask_fresh (n : Nat) : mask K w (ρ ++ List.replicate n Own.fresh) = mask K w ρ := by
  unfold mask
  rw [live_fresh]
theorem own_fresh (n : Nat) (i : Nat) : own (ρ ++ List.replicate n Own.fresh) i = own ρ i := by
  unfold own
  simp only [List.getD_eq_getElem?_getD, List.getElem?_append]
  split
  · rfl
  · rename_i h
    rw [List.getElem?_eq_none (show ρ.length ≤ i by omega), List.getElem?_replicate]
    split <;> rfl
theorem le_fresh (n : Nat) : OwnLe ρ (ρ ++ List.replicate n Own.fresh) := fun i => by
  rw [own_fresh]
  exact OwnLe.refl ρ i
theorem OK.grow {hp : List Blk} (n : Nat) (h : OK K w ρ hp) : OK K w (ρ ++ List.replicate n Own.fresh) (hp ++ deads n) := by
  have get : ∀ (i b m : Nat), (ρ ++ List.replicate n Own.fresh)[i]? = some (Own.live b m) → ρ[i]? = some (Own.live b m) := fun i b m hi => by
    rw [List.getElem?_append] at hi
    split at hi
    · exact hi
    · rw [List.getElem?_replicate] at hi
      split at hi <;> simp at hi
  refine ⟨by simp [h.len, deads], fun i b m hi => h.lt i b m (get _ _ _ hi), fun i j b m m' h1 h2 => h.inj i j b m m' (get _ _ _ h1) (get _ _ _ h2), fun i x hx => ?_, h.hid, fun i b m hi => h.apart i b m (get _ _ _ hi)⟩
  rw [mask_fresh, own_fresh]
  rw [List.getElem?_append] at hx
  split at hx
  · exact (h.blk i x hx).mono (Sub.refl _) (le_fresh n) (fun _ _ _ => rfl)
  · unfold deads at hx
    rw [List.getElem?_replicate] at hx
    split at hx
    · cases hx
      cases own ρ i <;> trivial
    · cases hx
theorem Inv.grow (n : Nat) (h : Inv K w0 ρ0 hp0 w ρ a s) : Inv K w0 ρ0 hp0 w (ρ ++ List.replicate n Own.fresh) a ⟨s.p, s.sl, s.hp ++ deads n, s.base, s.wr⟩ := by
  have hb := h.base
  have hl := h.blen
  refine ⟨h.size, h.keep, fun b hb => h.new b (by rw [← live_fresh (K := K) n]; exact hb), h.le.trans (le_fresh n), by simp [h.rlen, deads], h.base, by simp; omega, fun i h1 h2 => ?_, fun i h1 h2 => ?_, fun hp2 h1 h2 => ?_, fun i h1 => ?_, ?_, h.defers, h.start, h.env⟩
  · dsimp only
    rw [List.getElem?_append_left (by omega)]
    exact h.same i h1 h2
  · obtain ⟨g1, g2, g3⟩ := h.hid i h1 h2
    have hi := (List.getElem?_eq_some_iff.1 h1).1
    have := h.rlen
    refine ⟨?_, g2, ?_⟩
    · dsimp only; rw [List.getElem?_append_left (by omega)]; exact g1
    · rw [List.getElem?_append_left (by omega)]; exact g3
  · have := (h.ok hp2 h1 h2).grow n
    have e : over s hp2 ++ deads n = over ⟨s.p, s.sl, s.hp ++ deads n, s.base, s.wr⟩ hp2 := by
      unfold over wrote
      dsimp only
      rw [List.drop_append_of_le_length (by omega), ← List.append_assoc]
      congr 2
      congr 1
      apply List.map_congr_left
      intro i hi
      rcases Nat.lt_or_ge i s.hp.length with hlt | hlt
      · simp [List.getD_eq_getElem?_getD, List.getElem?_append_left hlt]
      · simp only [List.getD_eq_getElem?_getD, List.getElem?_append_right hlt, List.getElem?_eq_none hlt, deads, List.getElem?_replicate]
        split <;> rfl
    rw [← e]
    exact this
  · have := h.fr i h1
    rw [List.getElem?_append_left (List.getElem?_eq_some_iff.1 this).1]
    exact this
  · rw [mask_fresh]
    exact ⟨h.slots.1, fun i d hi => let ⟨v, h1, h2⟩ := h.slots.2 i d hi; ⟨v, h1, Rep.mono (Sub.refl _) (le_fresh n) _ _ h2⟩⟩

/-- a region in its own order -/
theorem region_ok {ops : Array Oper} {id n : Nat} {aos : List AOper} {Q : Exit → Act → World → Prop} (hcl : ClOK K P cl) (hc : compR P ops ops.toList 0 = some (aos, n)) (hI : Inv K w0 ρ0 hp0 w ρ a s) (h : reg ex cl aos n s = some s') (hp : s'.p)
    (hQ : ∀ a' w' ρ', Inv K w0 ρ0 hp0 w' ρ' a' s' → Q .normal a' w') : (Code.region id ops false).wp P Q a w := by
  unfold reg at h
  simp only [growS_eq, forceN_eq, lenG_eq] at h
  refine wp_region ?_
  have hl := hI.rlen
  have hg := hI.grow n
  have e : List.range ops.size = List.range' 0 ops.toList.length := by rw [List.range_eq_range']; simp
  rw [e]
  refine stps_ok hcl (n0 := s.hp.length) hI.blen ops.toList 0 0 n aos w _ a _ s' (by simp) hc hg (fun j _ hj => ?_) h hp hQ
  rw [List.getElem?_append_right (by omega), List.getElem?_replicate, if_pos (by omega)]
end
end Go.Ev
end
section
namespace Go.Ev
section
variable {K : Cust} {P : Program} {w0 : World} {ρ0 : List Own} {hp0 : List Blk} {w : World} {ρ : List Own} {a : Act} {s s' : St} {F : FuncId → Option AFun} {raw : Raw}

def exOf : Ex → Exit
  | .normal => .normal
  | .exit i => .exit i
  | .ret => .ret
def PostE (K : Cust) (w0 : World) (ρ0 : List Own) (hp0 : List Blk) (s' : St) (e : Ex) (x : Exit) (a' : Act) (w' : World) : Prop := x = exOf e ∧ ∃ ρ', Inv K w0 ρ0 hp0 w' ρ' a' s'

theorem thenC_cases {r : Option (Ex × St)} {k : St → Option (Ex × St)} {e : Ex} {s' : St} (h : thenC r k = some (e, s')) : (∃ s1, r = some (.normal, s1) ∧ k s1 = some (e, s')) ∨ (e ≠ .normal ∧ r = some (e, s')) := by
  unfold thenC at h
  split at h
  · rename_i s1; exact .inl ⟨s1, rfl, h⟩
  · rename_i hne
    refine .inr ⟨fun he => ?_, h⟩
    subst he
    exact hne s' h
theorem outC_cases {i : Nat} {r : Option (Ex × St)} {e : Ex} {s' : St} (h : outC i r = some (e, s')) : (r = some (.exit i, s') ∧ e = .normal) ∨ (∃ j, j ≠ i ∧ r = some (.exit j, s') ∧ e = .exit j) ∨ (r = some (e, s') ∧ (e = .normal ∨ e = .ret)) := by
  unfold outC at h
  split at h
  · rename_i j s1
    split at h
    · rename_i hj; obtain ⟨rfl, rfl⟩ := some_pair h; subst hj; exact .inl ⟨rfl, rfl⟩
    · rename_i hj; obtain ⟨rfl, rfl⟩ := some_pair h; exact .inr (.inl ⟨j, hj, rfl, rfl⟩)
  · rename_i hne
    refine .inr (.inr ⟨h, ?_⟩)
    cases e with
    | exit j => exact absurd h (hne j s')
    | normal => exact .inl rfl
    | ret => exact .inr rfl
theorem someC_cases {r : Option St} {e : Ex} {s' : St} (h : someC r = some (e, s')) : r = some s' ∧ e = .normal := by
  unfold someC at h
  split at h
  · obtain ⟨rfl, rfl⟩ := some_pair h; exact ⟨rfl, rfl⟩
  · cases h
theorem testC_cases {d : D} {x y : Option (Ex × St)} {z : Ex × St} (h : testC d x y = some z) : ∃ t, d = .val (.bool t) ∧ (if t then x else y) = some z := by
  unfold testC at h
  split at h
  · rename_i t; cases t <;> exact ⟨_, rfl, h⟩
  · cases h
theorem runC_p : ∀ (n : Nat) (c : ACode) (s s' : St) (e : Ex), runC F raw n c s = some (e, s') → s'.p → s.p
  | 0, c, s, s', e, h, _ => by simp [runC] at h
  | n + 1, c, s, s', e, h, hp => by
    cases c <;> simp only [runC, stepC] at h
    case skip => obtain ⟨_, rfl⟩ := some_pair h; exact hp
    case region ops m =>
      obtain ⟨h1, _⟩ := someC_cases h
      unfold reg at h1
      simp only [growS_eq, forceN_eq, lenG_eq] at h1
      have := stps_p _ _ _ h1 hp
      exact this
    case seq x y =>
      rcases thenC_cases h with ⟨s1, h1, h2⟩ | ⟨_, h1⟩
      · exact runC_p n x s s1 _ h1 (runC_p n y s1 s' e h2 hp)
      · exact runC_p n x s s' e h1 hp
    case cond c x y =>
      obtain ⟨t, _, h1⟩ := testC_cases h
      cases t
      · exact runC_p n y s s' e h1 hp
      · exact runC_p n x s s' e h1 hp
    case block i b =>
      rcases outC_cases h with ⟨h1, _⟩ | ⟨j, _, h1, _⟩ | ⟨h1, _⟩
      · exact runC_p n b s _ _ h1 hp
      · exact runC_p n b s _ _ h1 hp
      · exact runC_p n b s _ _ h1 hp
    case loop b =>
      rcases thenC_cases h with ⟨s1, h1, h2⟩ | ⟨_, h1⟩
      · exact runC_p n b s s1 _ h1 (runC_p n (.loop b) s1 s' e h2 hp)
      · exact runC_p n b s s' e h1 hp
    case exit i => obtain ⟨_, rfl⟩ := some_pair h; exact hp
    case ret => obtain ⟨_, rfl⟩ := some_pair h; exact hp

theorem least {p : Nat → Prop} (h : ∃ n, p n) : ∃ n, p n ∧ ∀ m, p m → n ≤ m := by
  obtain ⟨n, hn⟩ := h
  induction n using Nat.strongRecOn with
  | _ n ih =>
    by_cases hm : ∃ m, m < n ∧ p m
    · obtain ⟨m, h1, h2⟩ := hm
      exact ih m h1 h2
    · exact ⟨n, hn, fun m h => Nat.le_of_not_lt fun hl => hm ⟨m, hl, h⟩⟩
open Classical in
/-- a loop whose rounds are counted down -/
theorem wp_loop_fuel {c : Code} {Q : Exit → Act → World → Prop} (J : Nat → Act → World → Prop) {n : Nat} (h0 : J n a w) (round : ∀ n a w, J n a w → c.wp P (Exit.then (fun a' w' => ∃ m, m < n ∧ J m a' w') Q) a w) : (Code.loop c).wp P Q a w := by
  refine wp_loop (fun a w => ∃ n, J n a w) (fun a w => if h : ∃ n, J n a w then Classical.choose (least h) else 0) ⟨n, h0⟩ fun a w hI => ?_
  have hs := Classical.choose_spec (least hI)
  refine wp_mono (round _ a w hs.1) fun e a' w' he => ?_
  cases e with
  | normal =>
    obtain ⟨m, hm, hj⟩ := he
    have hI' : ∃ n, J n a' w' := ⟨m, hj⟩
    refine ⟨hI', ?_⟩
    have hs' := Classical.choose_spec (least hI')
    rw [dif_pos hI', dif_pos hI]
    exact Nat.lt_of_le_of_lt (hs'.2 m hj) hm
  | _ => exact he
end
end Go.Ev
end
section
namespace Go.Ev
section
variable {K : Cust} {P : Program} {w0 : World} {ρ0 : List Own} {hp0 : List Blk} {w : World} {ρ : List Own} {a : Act} {s s' : St} {F : FuncId → Option AFun} {raw : Raw}

/-- a drawn region is carried out soundly -/
def Drawn (P : Program) : Prop := ∀ (K : Cust) (cl : FuncId → List D → List Blk → Nat → Option Out) (id : Nat) (ops : Array Oper) (aos : List AOper) (n : Nat), ClOK K P cl → compD P ops = some (aos, n) →
  ∀ (ex : Bool) (w0 : World) (ρ0 : List Own) (hp0 : List Blk) (w : World) (ρ : List Own) (a : Act) (s s' : St), Inv K w0 ρ0 hp0 w ρ a s → reg ex cl aos n s = some s' → s'.p →
  ∀ Q : Exit → Act → World → Prop, (∀ a' w' ρ', Inv K w0 ρ0 hp0 w' ρ' a' s' → Q .normal a' w') → (Code.region id ops true).wp P Q a w

theorem evB {x : Operand} {t : Bool} {M : World} (hs : Slots K M ρ s.sl a.tmps) (h : evO s.sl x = .val (.bool t)) : a.eval x = .bool t := by
  have := evO_rep hs x
  rw [h] at this
  simpa [Rep] using this

theorem runC_ok (hdr : Drawn P) {n : Nat} (hcl : ∀ m, m < n → ClOK K P (callF F raw m)) : ∀ m, m ≤ n → ∀ (c : Code) (ac : ACode) (w : World) (ρ : List Own) (a : Act) (s s' : St) (e : Ex), compC P c = some ac → Inv K w0 ρ0 hp0 w ρ a s → runC F raw m ac s = some (e, s') → s'.p →
    c.wp P (PostE K w0 ρ0 hp0 s' e) a w := by
  intro m
  induction m using Nat.strongRecOn with
  | _ m0 ih =>
    intro hm c ac w ρ a s s' e hc hI h hp
    cases m0 with
    | zero => simp [runC] at h
    | succ m =>
    have ih' := ih m (by omega) (by omega)
    cases c with
    | skip =>
      simp only [compC] at hc
      obtain rfl := Option.some.inj hc
      simp only [runC, stepC] at h
      obtain ⟨rfl, rfl⟩ := some_pair h
      exact wp_skip ⟨rfl, ρ, hI⟩
    | label l =>
      simp only [compC] at hc
      obtain rfl := Option.some.inj hc
      simp only [runC, stepC] at h
      obtain ⟨rfl, rfl⟩ := some_pair h
      exact wp_label ⟨rfl, ρ, hI⟩
    | region id ops dr =>
      cases dr with
      | false =>
        simp only [compC] at hc
        split at hc
        · rename_i l k hl
          obtain rfl := Option.some.inj hc
          simp only [runC, stepC] at h
          obtain ⟨h1, rfl⟩ := someC_cases h
          exact region_ok (hcl m (by omega)) hl hI h1 hp fun a' w' ρ' hI' => ⟨rfl, ρ', hI'⟩
        · cases hc
      | true =>
        simp only [compC] at hc
        split at hc
        · rename_i l k hl
          obtain rfl := Option.some.inj hc
          simp only [runC, stepC] at h
          obtain ⟨h1, rfl⟩ := someC_cases h
          exact hdr K _ id ops l k (hcl m (by omega)) hl false w0 ρ0 hp0 w ρ a s _ hI h1 hp _ fun a' w' ρ' hI' => ⟨rfl, ρ', hI'⟩
        · cases hc
    | seq x y =>
      simp only [compC] at hc
      split at hc
      · rename_i ax ay hx hy
        obtain rfl := Option.some.inj hc
        simp only [runC, stepC] at h
        refine wp_seq ?_
        rcases thenC_cases h with ⟨s1, h1, h2⟩ | ⟨hne, h1⟩
        · refine wp_mono (ih' x ax w ρ a s s1 .normal hx hI h1 (runC_p _ _ _ _ _ h2 hp)) fun e' a' w' he => ?_
          obtain ⟨rfl, ρ', hI'⟩ := he
          exact ih' y ay w' ρ' a' s1 s' e hy hI' h2 hp
        · refine wp_mono (ih' x ax w ρ a s s' e hx hI h1 hp) fun e' a' w' he => ?_
          obtain ⟨rfl, ρ', hI'⟩ := he
          cases e with
          | normal => exact absurd rfl hne
          | _ => exact ⟨rfl, ρ', hI'⟩
      · cases hc
    | cond c x y =>
      simp only [compC] at hc
      split at hc
      · rename_i ax ay hx hy
        obtain rfl := Option.some.inj hc
        simp only [runC, stepC] at h
        obtain ⟨t, ht, h1⟩ := testC_cases h
        have hb := evB hI.slots ht
        cases t
        · exact wp_cond_false hb (ih' y ay w ρ a s s' e hy hI h1 hp)
        · exact wp_cond_true hb (ih' x ax w ρ a s s' e hx hI h1 hp)
      · cases hc
    | block i b =>
      simp only [compC] at hc
      split at hc
      · rename_i ab hb
        obtain rfl := Option.some.inj hc
        simp only [runC, stepC] at h
        refine wp_block ?_
        rcases outC_cases h with ⟨h1, rfl⟩ | ⟨j, hj, h1, rfl⟩ | ⟨h1, he⟩
        · refine wp_mono (ih' b ab w ρ a s s' (.exit i) hb hI h1 hp) fun e' a' w' he => ?_
          obtain ⟨rfl, ρ', hI'⟩ := he
          simp only [exOf, Exit.inBlock, if_true]
          exact ⟨rfl, ρ', hI'⟩
        · refine wp_mono (ih' b ab w ρ a s s' (.exit j) hb hI h1 hp) fun e' a' w' he => ?_
          obtain ⟨rfl, ρ', hI'⟩ := he
          simp only [exOf, Exit.inBlock, if_neg hj]
          exact ⟨rfl, ρ', hI'⟩
        · refine wp_mono (ih' b ab w ρ a s s' e hb hI h1 hp) fun e' a' w' he' => ?_
          obtain ⟨rfl, ρ', hI'⟩ := he'
          rcases he with rfl | rfl
          · exact ⟨rfl, ρ', hI'⟩
          · exact ⟨rfl, ρ', hI'⟩
      · cases hc
    | loop b =>
      simp only [compC] at hc
      split at hc
      · rename_i ab hb
        obtain rfl := Option.some.inj hc
        refine wp_loop_fuel (fun q a w => q ≤ m + 1 ∧ ∃ ρ s, Inv K w0 ρ0 hp0 w ρ a s ∧ runC F raw q (.loop ab) s = some (e, s')) (n := m + 1) ⟨Nat.le_refl _, ρ, s, hI, h⟩ ?_
        rintro q a1 w1 ⟨hq, ρ1, s1, hI1, h1⟩
        cases q with
        | zero => simp [runC] at h1
        | succ q =>
          simp only [runC, stepC] at h1
          rcases thenC_cases h1 with ⟨s2, h2, h3⟩ | ⟨hne, h2⟩
          · refine wp_mono (ih q (by omega) (by omega) b ab w1 ρ1 a1 s1 s2 .normal hb hI1 h2 (runC_p _ _ _ _ _ h3 hp)) fun e' a' w' he => ?_
            obtain ⟨rfl, ρ', hI'⟩ := he
            exact ⟨q, by omega, by omega, ρ', s2, hI', h3⟩
          · refine wp_mono (ih q (by omega) (by omega) b ab w1 ρ1 a1 s1 s' e hb hI1 h2 hp) fun e' a' w' he => ?_
            obtain ⟨rfl, ρ', hI'⟩ := he
            cases e with
            | normal => exact absurd rfl hne
            | _ => exact ⟨rfl, ρ', hI'⟩
      · cases hc
    | exit i =>
      simp only [compC] at hc
      obtain rfl := Option.some.inj hc
      simp only [runC, stepC] at h
      obtain ⟨rfl, rfl⟩ := some_pair h
      exact wp_exit ⟨rfl, ρ, hI⟩
    | ret =>
      simp only [compC] at hc
      obtain rfl := Option.some.inj hc
      simp only [runC, stepC] at h
      obtain ⟨rfl, rfl⟩ := some_pair h
      exact wp_ret ⟨rfl, ρ, hI⟩
    | _ => simp [compC] at hc
end
end Go.Ev
end
section
namespace Go.Ev
section
variable {K : Cust} {P : Program} {w : World} {ρ ρ' : List Own} {a : Act} {s s' : St} {hp : List Blk} {n : Nat}

theorem Inv.init {ds : List D} {args : List Value} {q : Nat} (hk : OK K w ρ hp) (hr : RepL K (mask K w ρ) ρ ds args) :
    Inv K w ρ hp w ρ { tmps := args.toArray ++ Array.replicate (q - args.toArray.size) undef, defers := [] } ⟨True, ds ++ List.replicate (q - ds.length) undefD, hp, hp.length, []⟩ := by
  have e := repL_length hr
  refine ⟨Nat.le_refl _, fun _ _ _ => rfl, fun b h => .inl h, OwnLe.refl ρ, hk.len, rfl, Nat.le_refl _, fun _ _ _ => rfl, fun i h1 h2 => ⟨h1, by simp, rfl⟩, fun hp2 hl h => ?_, fun i h => h, ⟨by simp [e], fun i d hi => ?_⟩, rfl, hk, Env.refl w⟩
  · have : over ⟨True, ds ++ List.replicate (q - ds.length) undefD, hp, hp.length, []⟩ hp2 = hp2 := by
      unfold over wrote
      simp [app]
    rw [this]
    exact h
  · dsimp only at hi ⊢
    by_cases hl : i < ds.length
    · rw [List.getElem?_append_left hl] at hi
      obtain ⟨v, h1, h2⟩ := repL_get hr hi
      exact ⟨v, by rw [Array.getElem?_append_left (by simp; omega)]; simpa using h1, h2⟩
    · rw [List.getElem?_append_right (by omega), List.getElem?_replicate] at hi
      split at hi
      · obtain rfl := Option.some.inj hi
        refine ⟨undef, ?_, by simp only [undefD, Rep]; exact ⟨[], rfl, by simp [RepL]⟩⟩
        rw [Array.getElem?_append_right (by simp; omega), Array.getElem?_replicate, if_pos (by simp only [List.size_toArray]; omega)]
      · cases hi

theorem res_ok (hk : OK K w ρ s.hp) (hs : Slots K (mask K w ρ) ρ s.sl a.tmps) : ∀ (l : List ResultVar) (rs : List (Nat ⊕ (Nat × Option Nat))) (ds : List D), compRes P l = some rs → resD s rs = some ds →
    ∃ vs : List Value, (l.mapM (fun | .tmp t => pure (a.tmps.getD t undef) | .cell c t => do loadVar t (← asAddr (a.tmps.getD c undef)) : ResultVar → Sem Value)).run P w = .ok vs w ∧ RepL K (mask K w ρ) ρ ds vs
  | [], rs, ds, hc, hd => by
    simp only [compRes] at hc
    obtain rfl := Option.some.inj hc
    simp only [resD] at hd
    obtain rfl := Option.some.inj hd
    exact ⟨[], by simp, by simp [RepL]⟩
  | .tmp t :: l, rs, ds, hc, hd => by
    simp only [compRes] at hc
    split at hc
    · rename_i r hr
      obtain rfl := Option.some.inj hc
      simp only [resD] at hd
      split at hd
      · rename_i r2 hr2
        obtain rfl := Option.some.inj hd
        obtain ⟨vs, h1, h2⟩ := res_ok hk hs l r r2 hr hr2
        refine ⟨a.tmps.getD t undef :: vs, by rw [List.mapM_cons]; simp only [Sem.run_bind, Sem.run_pure, Result.andThen_ok, h1], ?_⟩
        have he := evO_rep hs (.tmp t)
        simp only [evO, evF, getK_eq, Act.eval] at he
        simp only [RepL]
        exact ⟨_, _, rfl, he, h2⟩
      · cases hd
    · cases hc
  | .cell c t :: l, rs, ds, hc, hd => by
    simp only [compRes] at hc
    split at hc
    · rename_i n r hn hr
      obtain rfl := Option.some.inj hc
      simp only [resD] at hd
      split at hd
      · rename_i id off hp1
        split at hd
        · rename_i cs hcs
          split at hd
          · rename_i d r2 hd1 hr2
            obtain rfl := Option.some.inj hd
            obtain ⟨vs, h1, h2⟩ := res_ok hk hs l r r2 hr hr2
            have he := evO_rep hs (.tmp c)
            simp only [evO, evF, getK_eq, Act.eval] at he
            rw [hp1] at he
            obtain ⟨b, m, ho1, hb⟩ := cellsAt_own hk hcs
            simp only [Rep, ho1] at he
            obtain ⟨v, g1, g2⟩ := load_reads (own_reads hb) hn hd1
            rw [Nat.zero_add] at g1
            have hA : (asAddr (a.tmps.getD c undef)).run P w = .ok ⟨b, off, none⟩ w := by rw [he]; rfl
            refine ⟨v :: vs, by rw [List.mapM_cons]; simp only [Sem.run_bind, Sem.run_pure, Result.andThen_ok, hA, g1, h1], ?_⟩
            simp only [RepL]
            exact ⟨_, _, rfl, g2, h2⟩
          · cases hd
        · cases hd
      · cases hd
    · cases hc
theorem results_ok {fn : Func} {rs : List (Nat ⊕ (Nat × Option Nat))} {ds : List D} (hk : OK K w ρ s.hp) (hs : Slots K (mask K w ρ) ρ s.sl a.tmps) (hc : compRes P fn.results.toList = some rs) (hd : resD s rs = some ds) :
    ∃ v, (results fn a.tmps).run P w = .ok v w ∧ Rep K (mask K w ρ) ρ (tupD ds) v := by
  obtain ⟨vs, h1, h2⟩ := res_ok hk hs _ _ _ hc hd
  have hl := repL_length h2
  have hrun : (results fn a.tmps).run P w = .ok (if h : vs.toArray.size = 1 then vs.toArray[0] else .tuple vs.toArray) w := by
    unfold results
    rw [Array.mapM_eq_mapM_toList]
    simp only [Sem.run_bind, Sem.run_map]
    exact congrArg (fun r : Result (List Value) => ((r.andThen fun a w' => .ok a.toArray w').andThen fun vs w' => (pure (if h : vs.size = 1 then vs[0] else .tuple vs) : Sem Value).run P w')) h1
  refine ⟨_, hrun, ?_⟩
  cases ds with
  | nil =>
    obtain rfl : vs = [] := by simpa using hl.symm
    simp only [tupD, Rep]
    exact ⟨[], by simp, h2⟩
  | cons d ds =>
    cases ds with
    | nil =>
      simp only [RepL] at h2
      obtain ⟨x, r, rfl, hx, rfl⟩ := h2
      simpa [tupD] using hx
    | cons e ds =>
      have : vs.toArray.size ≠ 1 := by simp at hl ⊢; omega
      rw [dif_neg this]
      simp only [tupD, Rep]
      exact ⟨vs, rfl, h2⟩
end
end Go.Ev
end
