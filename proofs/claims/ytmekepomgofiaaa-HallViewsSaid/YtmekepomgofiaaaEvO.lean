import Derived.Test.YtmekepomgofiaaaEvN
set_option linter.all false
namespace Go.Ev
/-! the strict forms -/
@[simp] theorem setT_eq (sl : List D) (t : Option Nat) (d : D) (k : List D → Option St) : setT sl t d k = k (setD sl t d) := by
  cases t <;> simp [setT, setD]
@[simp] theorem forceB_eq (x : Blk) (k : Blk → Option St) : forceB x k = k x := by
  cases x <;> simp [forceB]
@[simp] theorem appS_eq (δ : List (Nat × Blk)) (hp : List Blk) (k : List Blk → Option St) : appS δ hp k = k (app δ hp) := by
  induction δ generalizing hp with
  | nil => rfl
  | cons x l ih => simp only [appS, forceB_eq, setK_eq, ih]; rfl
@[simp] theorem growS_eq (hp g : List Blk) (k : List Blk → Option St) : growS hp g k = k (hp ++ g) := by
  cases g <;> simp [growS]
@[simp] theorem wrS_eq (base : Nat) (δ : List (Nat × Blk)) (w : List Nat) (k : List Nat → Option St) : wrS base δ w k = k (addW base δ w) := by
  cases δ <;> simp [wrS, addW]

theorem addW_mem {base : Nat} : ∀ (δ : List (Nat × Blk)) (w : List Nat) (j : Nat), j ∈ addW base δ w ↔ j ∈ w ∨ (j < base ∧ ∃ x ∈ δ, x.1 = j)
  | [], w, j => by simp [addW]
  | x :: l, w, j => by
    simp only [addW]
    rw [addW_mem l]
    by_cases hb : x.1 < base
    · rw [if_pos hb]
      by_cases hc : w.contains x.1 = true
      · rw [if_pos hc]
        have hm : x.1 ∈ w := by simpa using hc
        constructor
        · rintro (h | ⟨h1, y, hy, rfl⟩)
          · exact .inl h
          · exact .inr ⟨h1, y, List.mem_cons_of_mem _ hy, rfl⟩
        · rintro (h | ⟨h1, y, hy, rfl⟩)
          · exact .inl h
          · rcases List.mem_cons.1 hy with rfl | hy
            · exact .inl hm
            · exact .inr ⟨h1, y, hy, rfl⟩
      · rw [if_neg hc]
        constructor
        · rintro (h | ⟨h1, y, hy, rfl⟩)
          · rcases List.mem_cons.1 h with rfl | h
            · exact .inr ⟨hb, x, List.mem_cons_self .., rfl⟩
            · exact .inl h
          · exact .inr ⟨h1, y, List.mem_cons_of_mem _ hy, rfl⟩
        · rintro (h | ⟨h1, y, hy, rfl⟩)
          · exact .inl (List.mem_cons_of_mem _ h)
          · rcases List.mem_cons.1 hy with rfl | hy
            · exact .inl (List.mem_cons_self ..)
            · exact .inr ⟨h1, y, hy, rfl⟩
    · rw [if_neg hb]
      constructor
      · rintro (h | ⟨h1, y, hy, rfl⟩)
        · exact .inl h
        · exact .inr ⟨h1, y, List.mem_cons_of_mem _ hy, rfl⟩
      · rintro (h | ⟨h1, y, hy, rfl⟩)
        · exact .inl h
        · rcases List.mem_cons.1 hy with rfl | hy
          · exact absurd h1 hb
          · exact .inr ⟨h1, y, hy, rfl⟩
theorem app_not : ∀ (δ : List (Nat × Blk)) (h : List Blk) (j : Nat), (∀ x ∈ δ, x.1 ≠ j) → (app δ h)[j]? = h[j]?
  | [], h, j, _ => rfl
  | x :: l, h, j, hx => by
    show (app l (h.set x.1 x.2))[j]? = _
    rw [app_not l _ j fun y hy => hx y (List.mem_cons_of_mem _ hy), List.getElem?_set, if_neg (hx x (List.mem_cons_self ..))]
theorem app_congr : ∀ (δ : List (Nat × Blk)) (h h' : List Blk) (j : Nat), h[j]? = h'[j]? → (app δ h)[j]? = (app δ h')[j]?
  | [], h, h', j, e => e
  | x :: l, h, h', j, e => by
    refine app_congr l _ _ j ?_
    rw [List.getElem?_set, List.getElem?_set]
    split
    · have : j < h.length ↔ j < h'.length := by
        constructor
        · intro hl
          rw [List.getElem?_eq_getElem hl] at e
          exact (List.getElem?_eq_some_iff.1 e.symm).1
        · intro hl
          rw [List.getElem?_eq_getElem hl] at e
          exact (List.getElem?_eq_some_iff.1 e).1
      by_cases hl : j < h.length
      · rename_i e2; rw [e2, if_pos hl, if_pos (this.1 hl)]
      · rename_i e2; rw [e2, if_neg hl, if_neg (fun h => hl (this.2 h))]
    · exact e
theorem app_mem : ∀ (δ : List (Nat × Blk)) (h h' : List Blk) (j : Nat), (∃ x ∈ δ, x.1 = j) → j < h.length → j < h'.length → (app δ h)[j]? = (app δ h')[j]?
  | x :: l, h, h', j, hx, hl, hl' => by
    by_cases hr : ∃ y ∈ l, y.1 = j
    · exact app_mem l _ _ j hr (by simpa using hl) (by simpa using hl')
    · refine app_congr l _ _ j ?_
      obtain ⟨y, hy, e⟩ := hx
      rcases List.mem_cons.1 hy with rfl | hy
      · subst e
        simp [List.getElem?_set, hl, hl']
      · exact absurd ⟨y, hy, e⟩ hr
theorem app_map_get (g : Nat → Blk) : ∀ (l : List Nat) (h : List Blk) (j : Nat), (app (l.map fun i => (i, g i)) h)[j]? = if j ∈ l ∧ j < h.length then some (g j) else h[j]?
  | [], h, j => by simp [app]
  | i :: l, h, j => by
    show (app (l.map fun i => (i, g i)) (h.set i (g i)))[j]? = _
    rw [app_map_get g l]
    simp only [List.length_set, List.mem_cons, List.getElem?_set]
    by_cases h1 : j ∈ l ∧ j < h.length
    · rw [if_pos h1, if_pos ⟨.inr h1.1, h1.2⟩]
    · rw [if_neg h1]
      by_cases h2 : i = j
      · subst h2
        rw [if_pos rfl]
        by_cases h3 : i < h.length
        · rw [if_pos h3, if_pos ⟨.inl rfl, h3⟩]
        · rw [if_neg h3, if_neg (fun h => h3 h.2)]
          simp at h3
          simp [h3]
      · rw [if_neg h2, if_neg]
        rintro ⟨rfl | h4, h5⟩
        · exact h2 rfl
        · exact h1 ⟨h4, h5⟩

/-- the heap of one who sees more at the beginning -/
def over (s : St) (hp2 : List Blk) : List Blk := app (wrote s) hp2 ++ s.hp.drop s.base

structure Inv (K : Cust) (w0 : World) (ρ0 : List Own) (hp0 : List Blk) (w : World) (ρ : List Own) (a : Act) (s : St) : Prop where
  size : w0.heap.size ≤ w.heap.size
  keep : ∀ b : Nat, b < w0.heap.size → (∀ i n : Nat, ρ0[i]? = some (Own.live b n) → hp0[i]? = some .dead) → w.heap[b]? = w0.heap[b]?
  new : ∀ b, isLive K ρ b → isLive K ρ0 b ∨ w0.heap.size ≤ b
  le : OwnLe ρ0 ρ
  rlen : ρ.length = s.hp.length
  base : s.base = hp0.length
  blen : hp0.length ≤ s.hp.length
  same : ∀ i : Nat, i < hp0.length → i ∉ s.wr → s.hp[i]? = hp0[i]?
  hid : ∀ i : Nat, hp0[i]? = some .dead → ρ0[i]? ≠ some Own.fresh → s.hp[i]? = some .dead ∧ i ∉ s.wr ∧ ρ[i]? = ρ0[i]?
  ok : ∀ hp2, Le hp0 hp2 → OK K w0 ρ0 hp2 → OK K w ρ (over s hp2)
  fr : ∀ i : Nat, ρ0[i]? = some Own.fresh → ρ[i]? = some Own.fresh
  slots : Slots K (mask K w ρ) ρ s.sl a.tmps
  defers : a.defers = []
  start : OK K w0 ρ0 hp0
  env : Env w0 w

section
variable {K : Cust} {w0 : World} {ρ0 : List Own} {hp0 : List Blk} {w : World} {ρ : List Own} {a : Act} {s : St}
theorem over_get {hp2 : List Blk} (hb : s.base = hp2.length) (hl : s.base ≤ s.hp.length) (j : Nat) :
    (over s hp2)[j]? = if j < s.base then (if j ∈ s.wr then s.hp[j]? else hp2[j]?) else s.hp[j]? := by
  unfold over
  by_cases hj : j < s.base
  · rw [if_pos hj, List.getElem?_append_left (by simp; omega)]
    unfold wrote
    rw [app_map_get]
    by_cases hm : j ∈ s.wr
    · rw [if_pos ⟨hm, by omega⟩, if_pos hm, List.getElem?_eq_getElem (by omega)]
      simp [List.getD_eq_getElem?_getD, List.getElem?_eq_getElem (show j < s.hp.length by omega)]
    · rw [if_neg (fun h => hm h.1), if_neg hm]
  · rw [if_neg hj, List.getElem?_append_right (by simp; omega)]
    simp only [app_length, List.getElem?_drop]
    congr 1
    omega
theorem Inv.here (h : Inv K w0 ρ0 hp0 w ρ a s) : over s hp0 = s.hp := by
  apply List.ext_getElem?
  intro j
  rw [over_get h.base (by rw [h.base]; exact h.blen)]
  split
  · rename_i hj
    rw [h.base] at hj
    split
    · rfl
    · exact (h.same j hj (by assumption)).symm
  · rfl
theorem Inv.okHp (h : Inv K w0 ρ0 hp0 w ρ a s) : OK K w ρ s.hp := by
  have := h.ok hp0 (Le.refl _) h.start
  rwa [h.here] at this

theorem slots_put {M M' : World} {ρ' : List Own} {sl : List D} {d : D} {v : Value} {t : Option Nat} (h : Slots K M ρ sl a.tmps) (hs : Sub M M') (ho : OwnLe ρ ρ') (hd : Rep K M' ρ' d v) : Slots K M' ρ' (setD sl t d) (a.put t v).tmps := by
  cases t with
  | none => exact ⟨h.1, fun i d hi => let ⟨v, h1, h2⟩ := h.2 i d hi; ⟨v, h1, Rep.mono hs ho _ _ h2⟩⟩
  | some t =>
    refine ⟨by simp [setD, Act.put, h.1], fun i e hi => ?_⟩
    simp only [setD, List.getElem?_set] at hi
    simp only [Act.put]
    split at hi
    · rename_i heq
      subst heq
      split at hi
      · rename_i hl
        obtain rfl := Option.some.inj hi
        exact ⟨v, by rw [h.1] at hl; simp [hl], hd⟩
      · cases hi
    · rename_i hne
      obtain ⟨u, h1, h2⟩ := h.2 i e hi
      exact ⟨u, by rw [Array.getElem?_setIfInBounds_ne hne]; exact h1, Rep.mono hs ho _ _ h2⟩

theorem hideL_get (n0 : Nat) (l : List Nat) (hp : List Blk) (i : Nat) : (hideL n0 l hp).length = hp.length ∧ ((hideL n0 l hp)[i]? = hp[i]? ∨ (hideL n0 l hp)[i]? = some .dead) := by
  induction l with
  | nil => exact ⟨rfl, .inl rfl⟩
  | cons r l ih =>
    simp only [hideL, List.length_set, List.getElem?_set]
    refine ⟨ih.1, ?_⟩
    split
    · split
      · exact .inr rfl
      · rename_i e h
        rw [ih.1] at h
        exact .inl (List.getElem?_eq_none (by omega)).symm
    · exact ih.2
theorem hideL_le (n0 : Nat) (l : List Nat) (hp : List Blk) : Le (hideL n0 l hp) hp := ⟨(hideL_get n0 l hp 0).1, fun i => (hideL_get n0 l hp i).2⟩
theorem OK.less {hp hp2 : List Blk} (h : OK K w ρ hp2) (hl : Le hp hp2) : OK K w ρ hp := by
  refine ⟨h.len.trans hl.1.symm, h.lt, h.inj, fun i x hx => ?_, h.hid, h.apart⟩
  rcases hl.2 i with e | e
  · exact h.blk i x (e ▸ hx)
  · rw [e] at hx
    cases hx
    cases own ρ i <;> trivial
theorem Le.trans {a b c : List Blk} (h : Le a b) (h' : Le b c) : Le a c := ⟨h.1.trans h'.1, fun i => by
  rcases h.2 i with e | e
  · rcases h'.2 i with e' | e'
    · exact .inl (e.trans e')
    · exact .inr (e.trans e')
  · exact .inr e⟩

/-- one step on -/
theorem Inv.step {w' : World} {ρ' : List Own} {d : D} {v : Value} {δ : List (Nat × Blk)} {g : List Blk} {t : Option Nat} {p : Prop} {n0 nid : Nat} {hid : List Nat} (h : Inv K w0 ρ0 hp0 w ρ a s) (hd : Rep K (mask K w' ρ') ρ' d v)
    (he : Eff K w ρ (hideL n0 hid s.hp) nid w' ρ' δ g) (hnid : hp0.length ≤ nid) : Inv K w0 ρ0 hp0 w' ρ' (a.put t v) ⟨p, setD s.sl t d, app δ s.hp ++ g, s.base, addW s.base δ s.wr⟩ := by
  have hsub := he.sub
  have hbl : s.base ≤ s.hp.length := by rw [h.base]; exact h.blen
  have hdead : ∀ i : Nat, hp0[i]? = some .dead → ρ0[i]? ≠ some Own.fresh → (hideL n0 hid s.hp)[i]? = some .dead ∧ ρ[i]? ≠ some Own.fresh := fun i h1 h2 => by
    obtain ⟨g1, g2, g3⟩ := h.hid i h1 h2
    refine ⟨?_, by rw [g3]; exact h2⟩
    rcases (hideL_get n0 hid s.hp i).2 with e | e
    · rw [e]; exact g1
    · exact e
  refine ⟨Nat.le_trans h.size he.size, fun b hb hv => ?_, fun b hb => ?_, h.le.trans he.le, ?_, h.base, ?_, fun i hi hn => ?_, fun i h1 h2 => ?_, fun hp2 hl2 hk2 => ?_, fun i h1 => ?_, slots_put h.slots hsub he.le hd, ?_, h.start, h.env.trans he.env⟩
  · rw [he.keep b (by have := h.size; omega) (fun i n hi => ?_)]
    · exact h.keep b hb hv
    · obtain ⟨j, m, hj⟩ : ∃ j m : Nat, ρ0[j]? = some (Own.live b m) := by
        rcases h.new b (.inr ⟨i, n, hi⟩) with (hh | hl) | hl
        · exact absurd hh (h.okHp.apart i b n hi)
        · exact hl
        · omega
      have hnf : ρ0[j]? ≠ some Own.fresh := by rw [hj]; simp
      obtain ⟨g1, g2, g3⟩ := h.hid j (hv j m hj) hnf
      have hij : j = i := h.okHp.inj _ _ _ _ _ (g3.trans hj) hi
      subst hij
      exact (hdead j (hv j m hj) hnf).1
  · rcases he.new b hb with hl | hl
    · exact h.new b hl
    · exact .inr (Nat.le_trans h.size hl)
  · simp [he.len, h.rlen]
  · have := h.blen
    simp
    omega
  · rw [addW_mem] at hn
    have hn1 : i ∉ s.wr := fun e => hn (.inl e)
    have hn2 : ∀ x ∈ δ, x.1 ≠ i := fun x hx e => hn (.inr ⟨by rw [h.base]; exact hi, x, hx, e⟩)
    have := h.blen
    rw [List.getElem?_append_left (by simp; omega), app_not δ _ _ hn2]
    exact h.same i hi hn1
  · obtain ⟨g1, g2, g3⟩ := h.hid i h1 h2
    obtain ⟨d1, d2⟩ := hdead i h1 h2
    obtain ⟨e1, e2⟩ := he.hid i d1 d2
    have hi0 : i < hp0.length := (List.getElem?_eq_some_iff.1 h1).1
    have := h.blen
    refine ⟨?_, ?_, e2.trans g3⟩
    · rw [List.getElem?_append_left (by simp; omega), app_not δ _ _ e1]
      exact g1
    · rw [addW_mem]
      rintro (hw | ⟨_, x, hx, rfl⟩)
      · exact g2 hw
      · exact e1 x hx rfl
  · have hk := h.ok hp2 hl2 hk2
    have hb2 : s.base = hp2.length := h.base.trans hl2.1
    have hle : Le (hideL n0 hid s.hp) (over s hp2) := by
      refine (hideL_le n0 hid s.hp).trans ⟨?_, fun i => ?_⟩
      · have := h.blen
        unfold over
        simp
        rw [← hb2]
        omega
      · rw [over_get hb2 hbl]
        split
        · rename_i hj
          split
          · exact .inl rfl
          · rename_i hw
            rw [h.same i (by rw [← h.base]; exact hj) hw]
            exact hl2.2 i
        · exact .inl rfl
    have hr := he.ok _ hle hk
    have e : app δ (over s hp2) ++ g = over ⟨p, setD s.sl t d, app δ s.hp ++ g, s.base, addW s.base δ s.wr⟩ hp2 := by
      have lo : (over s hp2).length = s.hp.length := by
        unfold over
        simp
        rw [← hb2]
        omega
      apply List.ext_getElem?
      intro j
      rw [over_get (s := ⟨p, setD s.sl t d, app δ s.hp ++ g, s.base, addW s.base δ s.wr⟩) hb2 (by simp; omega)]
      dsimp only
      by_cases hj : j < s.hp.length
      · rw [List.getElem?_append_left (by simp; omega), List.getElem?_append_left (by simp; omega)]
        by_cases hjb : j < s.base
        · rw [if_pos hjb]
          by_cases hm : ∃ x ∈ δ, x.1 = j
          · rw [if_pos ((addW_mem _ _ _).2 (.inr ⟨hjb, hm⟩))]
            exact app_mem δ _ _ j hm (by omega) hj
          · have hn : ∀ x ∈ δ, x.1 ≠ j := fun x hx e => hm ⟨x, hx, e⟩
            rw [app_not δ _ _ hn, over_get hb2 hbl, if_pos hjb]
            have : (j ∈ addW s.base δ s.wr) ↔ j ∈ s.wr := by
              rw [addW_mem]
              constructor
              · rintro (h | ⟨_, h⟩)
                · exact h
                · exact absurd h hm
              · exact .inl
            by_cases hw : j ∈ s.wr
            · rw [if_pos hw, if_pos (this.2 hw), app_not δ _ _ hn]
            · rw [if_neg hw, if_neg (fun h => hw (this.1 h))]
        · rw [if_neg hjb]
          refine app_congr δ _ _ j ?_
          rw [over_get hb2 hbl, if_neg hjb]
      · rw [if_neg (by omega), List.getElem?_append_right (by simp; omega), List.getElem?_append_right (by simp; omega)]
        simp [lo]
    rw [← e]
    exact hr
  · refine he.fr i (h.fr i h1) ?_
    have h2 := (List.getElem?_eq_some_iff.1 h1).1
    have h3 := h.start.len
    omega
  · cases t <;> exact h.defers
theorem Inv.skip {t : Option Nat} {p : Prop} (h : Inv K w0 ρ0 hp0 w ρ a s) : Inv K w0 ρ0 hp0 w ρ (a.put t undef) ⟨p, setD s.sl t undefD, s.hp, s.base, s.wr⟩ := by
  have := h.step (t := t) (p := p) (n0 := 0) (hid := []) (d := undefD) (v := undef) (δ := []) (g := []) (by simp only [undefD, Rep]; exact ⟨[], rfl, by simp [RepL]⟩) (Eff.no (nid := hp0.length) rfl) (Nat.le_refl _)
  simpa [app, addW] using this
end
end Go.Ev
