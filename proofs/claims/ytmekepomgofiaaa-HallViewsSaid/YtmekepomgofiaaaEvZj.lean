import Derived.Test.YtmekepomgofiaaaEvZi
set_option linter.all false
namespace Go.Ev
/-! ### A block that came to the end takes the place N, and what lies behind is dropped -/
/-- names own blocks below N alone, or is a slice, a pointer or a map of block p -/
def ren (N p : Nat) (d : D) : D := match d with
  | .sl id off len k cap => (match Nat.beq id p with | true => .sl N off len k cap | false => .sl id off len k cap)
  | .ptr id off => (match Nat.beq id p with | true => .ptr N off | false => .ptr id off)
  | .map id => (match Nat.beq id p with | true => .map N | false => .map id)
  | d => d
def renL (N p : Nat) : List D → List D
  | [] => []
  | d :: l => ren N p d :: renL N p l
def needR (N p : Nat) : List D → Prop
  | [] => True
  | d :: l => match d with
    | .any => needR N p l
    | .val _ => needR N p l
    | .tup [] => needR N p l
    | .ptr id _ => (match Nat.beq id p with | true => needR N p l | false => match Nat.ble (id + 1) N with | true => needR N p l | false => False)
    | .sl id _ _ _ _ => (match Nat.beq id p with | true => needR N p l | false => match Nat.ble (id + 1) N with | true => needR N p l | false => False)
    | .map id => (match Nat.beq id p with | true => needR N p l | false => match Nat.ble (id + 1) N with | true => needR N p l | false => False)
    | d => needD N d ∧ needR N p l
theorem renL_get {N p : Nat} : ∀ {l : List D} {i : Nat} {d : D}, (renL N p l)[i]? = some d → ∃ e, l[i]? = some e ∧ ren N p e = d
  | [], i, d, h => by simp [renL] at h
  | e :: l, i, d, h => by
    cases i with
    | zero => simp [renL] at h; exact ⟨e, by simp, h⟩
    | succ i => simpa using renL_get (l := l) (i := i) (by simpa [renL] using h)
theorem renL_length {N p : Nat} : ∀ {l : List D}, (renL N p l).length = l.length
  | [] => rfl
  | _ :: l => by simp [renL, renL_length (l := l)]
/-- what needR says of one slot -/
def oneR (N p : Nat) (d : D) : Prop := (needD N d ∧ ren N p d = d) ∨ (∃ off len k cap, d = .sl p off len k cap) ∨ (∃ off, d = .ptr p off) ∨ d = .map p
theorem needR_get {N p : Nat} (hp : N ≤ p) : ∀ {l : List D}, needR N p l → ∀ (i : Nat) (d : D), l[i]? = some d → oneR N p d
  | [], _, i, d, h => by simp at h
  | e :: l, g, i, d, h => by
    have key : oneR N p e ∧ needR N p l := by
      unfold needR at g
      split at g
      · exact ⟨.inl ⟨trivial, rfl⟩, g⟩
      · exact ⟨.inl ⟨trivial, rfl⟩, g⟩
      · exact ⟨.inl ⟨trivial, rfl⟩, g⟩
      · split at g
        · rename_i hb
          obtain rfl := Nat.eq_of_beq_eq_true hb
          exact ⟨.inr (.inr (.inl ⟨_, rfl⟩)), g⟩
        · rename_i hb
          split at g
          · rename_i hl
            exact ⟨.inl ⟨Nat.le_of_ble_eq_true hl, by simp [ren, hb]⟩, g⟩
          · exact g.elim
      · split at g
        · rename_i hb
          obtain rfl := Nat.eq_of_beq_eq_true hb
          exact ⟨.inr (.inl ⟨_, _, _, _, rfl⟩), g⟩
        · rename_i hb
          split at g
          · rename_i hl
            exact ⟨.inl ⟨Nat.le_of_ble_eq_true hl, by simp [ren, hb]⟩, g⟩
          · exact g.elim
      · split at g
        · rename_i hb
          obtain rfl := Nat.eq_of_beq_eq_true hb
          exact ⟨.inr (.inr (.inr rfl)), g⟩
        · rename_i hb
          split at g
          · rename_i hl
            exact ⟨.inl ⟨Nat.le_of_ble_eq_true hl, by simp [ren, hb]⟩, g⟩
          · exact g.elim
      · rename_i h1 h2 h3 h4 h5 h6
        refine ⟨.inl ⟨g.1, ?_⟩, g.2⟩
        unfold ren
        split
        · exact absurd rfl (h5 _ _ _ _ _)
        · exact absurd rfl (h4 _ _)
        · exact absurd rfl (h6 _)
        · rfl
    cases i with
    | zero => simp at h; exact h ▸ key.1
    | succ i => exact needR_get hp key.2 i d (by simpa using h)
noncomputable def gather (N p : Nat) (s : St) : St := ⟨True, renL N p s.sl, s.hp.take N ++ [s.hp.getD p .dead], s.base, s.wr⟩
section
variable {K : Cust} {P : Program} {w w0 : World} {ρ ρ0 : List Own} {hp0 : List Blk} {a : Act} {s : St}
theorem Wk.gather {N p : Nat} (hN : s.base ≤ N) (hNp : N ≤ p) (hpl : p < s.hp.length) (hsl : needR N p s.sl) (hh : needH N (s.hp.take N)) (hb : needB N (s.hp.getD p .dead)) : Wk K w0 ρ0 hp0 s (gather N p s) := by
  intro w ρ a h
  have hbase := h.base
  have hrlen := h.rlen
  have hblen := h.blen
  have tl : (ρ.take N).length = N := by simp; omega
  have hl' : (s.hp.take N).length = N := by simp; omega
  have gi : ∀ i : Nat, i < N → (ρ.take N ++ [own ρ p])[i]? = ρ[i]? := fun i hi => by
    rw [List.getElem?_append_left (by omega), List.getElem?_take, if_pos hi]
  have gN : (ρ.take N ++ [own ρ p])[N]? = some (own ρ p) := by
    rw [List.getElem?_append_right (by omega), tl, Nat.sub_self]; rfl
  have gG : ∀ i : Nat, N < i → (ρ.take N ++ [own ρ p])[i]? = none := fun i hi => by
    rw [List.getElem?_eq_none]; simp; omega
  have og : ∀ (l : List Own) (i : Nat), own l i = (l[i]?).getD .fresh := fun l i => by unfold own; rw [List.getD_eq_getElem?_getD]
  have oi : ∀ i : Nat, i < N → own (ρ.take N ++ [own ρ p]) i = own ρ i := fun i hi => by
    rw [og, gi i hi, ← og]
  have oN : own (ρ.take N ++ [own ρ p]) N = own ρ p := by
    rw [og, gN]; rfl
  have hle : OwnLe (ρ.take N) (ρ.take N ++ [own ρ p]) := fun i => by
    by_cases hi : i < N
    · rw [oi i hi, own_take hi]
      cases own ρ i <;> simp [ole]
    · have : own (ρ.take N) i = .fresh := by
        unfold own
        rw [List.getD_eq_getElem?_getD, List.getElem?_eq_none (by omega)]
        rfl
      rw [this]
      trivial
  have back : ∀ i b n : Nat, (ρ.take N ++ [own ρ p])[i]? = some (Own.live b n) → (i < N ∧ ρ[i]? = some (Own.live b n)) ∨ (i = N ∧ ρ[p]? = some (Own.live b n)) := fun i b n hi => by
    rcases Nat.lt_trichotomy i N with hl | rfl | hl
    · rw [gi i hl] at hi; exact .inl ⟨hl, hi⟩
    · rw [gN] at hi; exact .inr ⟨rfl, own_live (Option.some.inj hi)⟩
    · rw [gG i hl] at hi; cases hi
  have hlive : ∀ b, isLive K (ρ.take N ++ [own ρ p]) b → isLive K ρ b := by
    rintro b (hb | ⟨i, n, hi⟩)
    · exact .inl hb
    · rcases back i b n hi with ⟨_, h1⟩ | ⟨_, h1⟩
      · exact .inr ⟨i, n, h1⟩
      · exact .inr ⟨p, n, h1⟩
  have hlive2 : ∀ b, isLive K (ρ.take N) b → isLive K ρ b := by
    rintro b (hb | ⟨i, n, hi⟩)
    · exact .inl hb
    · rw [List.getElem?_take] at hi
      split at hi
      · exact .inr ⟨i, n, hi⟩
      · cases hi
  have hs : Sub (mask K w ρ) (mask K w (ρ.take N ++ [own ρ p])) := sub_mask hlive
  have get : ∀ j : Nat, j < N → (s.hp.take N ++ [s.hp.getD p .dead])[j]? = s.hp[j]? := fun j hj => by
    rw [List.getElem?_append_left (by omega), List.getElem?_take, if_pos hj]
  have getN : (s.hp.take N ++ [s.hp.getD p .dead])[N]? = s.hp[p]? := by
    rw [List.getElem?_append_right (by omega), hl', Nat.sub_self, List.getD_eq_getElem?_getD, List.getElem?_eq_getElem hpl]; rfl
  have h0l : ρ0.length = hp0.length := h.start.len
  have tS : Sub (mask K w (ρ.take N ++ [own ρ p])) (mask K w (ρ.take N ++ [own ρ p])) := fun _ _ _ _ h => h
  refine ⟨ρ.take N ++ [own ρ p], h.size, h.keep, fun b hb => h.new b (hlive b hb), fun i => ?_, by simp [Go.Ev.gather]; omega, hbase, by simp [Go.Ev.gather]; omega, fun i hi hw => ?_, fun i h1 h2 => ?_, fun hp2 hle2 hk => ?_, fun i hi => ?_, ⟨by simpa [Go.Ev.gather, renL_length] using h.slots.1, fun i d hi => ?_⟩, h.defers, h.start, h.env⟩
  · rcases Nat.lt_or_ge i N with hi | hi
    · rw [oi i hi]; exact h.le i
    · have : own ρ0 i = .fresh := by
        unfold own
        rw [List.getD_eq_getElem?_getD, List.getElem?_eq_none (by omega)]
        rfl
      rw [this]
      trivial
  · exact (get i (by omega)).trans (h.same i hi hw)
  · obtain ⟨q1, q2, q3⟩ := h.hid i h1 h2
    have : i < hp0.length := (List.getElem?_eq_some_iff.1 h1).1
    exact ⟨(get i (by omega)).trans q1, q2, (gi i (by omega)).trans q3⟩
  · have hok := h.ok hp2 hle2 hk
    have hl2 : s.base = hp2.length := by rw [hbase]; exact hle2.1
    have hov : ∀ i : Nat, i < N → (over (Go.Ev.gather N p s) hp2)[i]? = (over s hp2)[i]? := fun i hi => by
      have e1 : (over (Go.Ev.gather N p s) hp2)[i]? = if i < s.base then (if i ∈ s.wr then (s.hp.take N ++ [s.hp.getD p .dead])[i]? else hp2[i]?) else (s.hp.take N ++ [s.hp.getD p .dead])[i]? :=
        over_get (s := Go.Ev.gather N p s) (hp2 := hp2) hl2 (by simp [Go.Ev.gather]; omega) i
      have e2 := over_get (s := s) (hp2 := hp2) hl2 (by omega) i
      rw [e1, e2, get i hi]
    have hovN : (over (Go.Ev.gather N p s) hp2)[N]? = (over s hp2)[p]? := by
      have e1 : (over (Go.Ev.gather N p s) hp2)[N]? = if N < s.base then (if N ∈ s.wr then (s.hp.take N ++ [s.hp.getD p .dead])[N]? else hp2[N]?) else (s.hp.take N ++ [s.hp.getD p .dead])[N]? :=
        over_get (s := Go.Ev.gather N p s) (hp2 := hp2) hl2 (by simp [Go.Ev.gather]; omega) N
      have e2 := over_get (s := s) (hp2 := hp2) hl2 (by omega) p
      rw [e1, e2, if_neg (by omega), if_neg (by omega), getN]
    have hlen : (over (Go.Ev.gather N p s) hp2).length = N + 1 := by
      unfold over
      simp only [List.length_append, app_length, List.length_drop, Go.Ev.gather, List.length_take, List.length_cons, List.length_nil]
      omega
    refine ⟨by rw [hlen]; simp; omega, fun i b n hi => ?_, fun i j b n m h1 h2 => ?_, fun i x hx => ?_, hok.hid, fun i b n hi => ?_⟩
    · rcases back i b n hi with ⟨_, h1⟩ | ⟨_, h1⟩ <;> exact hok.lt _ b n h1
    · rcases back i b n h1 with ⟨l1, g1⟩ | ⟨l1, g1⟩ <;> rcases back j b m h2 with ⟨l2, g2⟩ | ⟨l2, g2⟩
      · exact hok.inj i j b n m g1 g2
      · have := hok.inj i p b n m g1 g2; omega
      · have := hok.inj p j b n m g1 g2; omega
      · omega
    · have hi : i < N + 1 := by
        have := (List.getElem?_eq_some_iff.1 hx).1
        omega
      have hsT : Sub (mask K w ρ) (mask K w (ρ.take N ++ [own ρ p])) := hs
      by_cases hiN : i < N
      · have hx' := (hov i hiN).symm.trans hx
        have hr := hok.blk i x hx'
        rw [oi i hiN]
        cases x with
        | dead => cases own ρ i <;> trivial
        | _ =>
          cases ho : own ρ i with
          | live b m =>
            rw [ho] at hr
            by_cases hib : i < s.base
            · have e2 := over_get (s := s) (hp2 := hp2) hl2 (by omega) i
              rw [if_pos hib] at e2
              split at e2
              · refine RepB.mono (w := w) tS hle (fun _ _ _ => rfl) (needB_rep hsT ?_ hr)
                exact needH_get hh i _ (by rw [List.getElem?_take, if_pos hiN]; exact (e2.symm.trans hx'))
              · rename_i hw
                have h0 := hk.blk i _ (e2.symm.trans hx')
                refine oldB_rep (ρ0 := ρ0) hsT (fun j hj hne => oi j (by omega)) h0 hr
            · have e2 := over_get (s := s) (hp2 := hp2) hl2 (by omega) i
              rw [if_neg hib] at e2
              refine RepB.mono (w := w) tS hle (fun _ _ _ => rfl) (needB_rep hsT ?_ hr)
              exact needH_get hh i _ (by rw [List.getElem?_take, if_pos hiN]; exact (e2.symm.trans hx'))
          | fresh => rw [ho] at hr; exact hr.elim
          | dead => rw [ho] at hr; exact hr.elim
      · obtain rfl : i = N := by omega
        have hx' := hovN.symm.trans hx
        have hr := hok.blk p x hx'
        have e2 := over_get (s := s) (hp2 := hp2) hl2 (by omega) p
        rw [if_neg (by omega)] at e2
        have hxp : s.hp.getD p .dead = x := by
          rw [List.getD_eq_getElem?_getD, e2.symm.trans hx']; rfl
        rw [hxp] at hb
        rw [oN]
        cases x with
        | dead => cases own ρ p <;> trivial
        | _ =>
          cases ho : own ρ p with
          | live b m =>
            rw [ho] at hr
            exact RepB.mono (w := w) (by rw [← ho]; exact tS) (by rw [← ho]; exact hle) (fun _ _ _ => rfl) (needB_rep hsT hb hr)
          | fresh => rw [ho] at hr; exact hr.elim
          | dead => rw [ho] at hr; exact hr.elim
    · rcases back i b n hi with ⟨_, h1⟩ | ⟨_, h1⟩ <;> exact hok.apart _ b n h1
  · have : i < ρ0.length := (List.getElem?_eq_some_iff.1 hi).1
    exact (gi i (by omega)).trans (h.fr i hi)
  · obtain ⟨e, he, rfl⟩ := renL_get hi
    obtain ⟨v, h1, h2⟩ := h.slots.2 i e he
    refine ⟨v, h1, ?_⟩
    rcases needR_get hNp hsl i e he with ⟨g1, g2⟩ | ⟨off, len, k, cap, rfl⟩ | ⟨off, rfl⟩ | rfl
    · rw [g2]
      exact Rep.mono tS hle _ v (need_rep hs e v g1 h2)
    · simp only [ren, Nat.beq_refl]
      simp only [Rep, oN] at h2 ⊢
      exact h2
    · simp only [ren, Nat.beq_refl]
      simp only [Rep, oN] at h2 ⊢
      exact h2
    · simp only [ren, Nat.beq_refl]
      simp only [Rep, oN] at h2 ⊢
      exact h2
/-- the end of a round: block p takes the place N, what lies behind is dropped -/
theorem round_endG {ι : Type} (N p : Nat) (idx : List Nat) {st : ι → St} {μ : ι → Nat} {i : ι} {Q : Ex → St → Prop} (j : ι) (hj : μ j < μ i) (q1 q2 q3 : Prop) (h1 : q1) (h2 : q2) (h3 : q3)
    (he : gather N p (fgt idx s) = st j) (e1 : needR N p (fgt idx s).sl = q1) (e2 : needH N (s.hp.take N) = q2) (e3 : needB N (s.hp.getD p .dead) = q3) (hb : Nat.ble s.base N = true) (hNp : Nat.ble N p = true) (hl : Nat.ble (p + 1) (lenG s.hp) = true) : RoundP K w0 ρ0 hp0 st μ i Q .normal s := by
  refine ⟨⟨j, hj, ?_⟩⟩
  rw [← he]
  have hl' := Nat.le_of_ble_eq_true hl
  rw [lenG_eq] at hl'
  refine (Wk.fgt idx s).trans (Wk.gather (s := fgt idx s) (Nat.le_of_ble_eq_true hb) (Nat.le_of_ble_eq_true hNp) hl' (e1 ▸ h1) (e2 ▸ h2) (e3 ▸ h3))
end
end Go.Ev
