import Derived.Test.YtmekepomgofiaaaCS12
set_option linter.all false
section
namespace Go.Ev
/-! ### Blocks at the end that nobody names are dropped -/
mutual
/-- names own blocks below N alone -/
def needD (N : Nat) : D → Prop
  | .ptr id _ => id < N
  | .sl id _ _ _ _ => id < N
  | .map id => id < N
  | .row _ len f => ∀ i, i < len → needL N (f i)
  | .ref cs _ => needL N cs
  | .agg ds => needL N ds
  | .tup ds => needL N ds
  | .fn _ a b => needL N a ∧ needL N b
  | .iface _ d => needD N d
  | _ => True
def needL (N : Nat) : List D → Prop
  | [] => True
  | d :: ds => needD N d ∧ needL N ds
end
theorem own_take {ρ : List Own} {N i : Nat} (h : i < N) : own (ρ.take N) i = own ρ i := by
  unfold own
  rw [List.getD_eq_getElem?_getD, List.getD_eq_getElem?_getD, List.getElem?_take, if_pos h]
mutual
theorem need_rep {K : Cust} {M M' : World} {ρ : List Own} {N : Nat} (hs : Sub M M') : ∀ (d : D) (v : Value), needD N d → Rep K M ρ d v → Rep K M' (ρ.take N) d v
  | .any, _, _, _ => trivial
  | .val _, _, _, h => h
  | .ptr id off, v, g, h => by
    simp only [needD] at g
    simp only [Rep, own_take g] at *
    exact h
  | .sl id off len k cap, v, g, h => by
    simp only [needD] at g
    simp only [Rep, own_take g] at *
    exact h
  | .map id, v, g, h => by
    simp only [needD] at g
    simp only [Rep, own_take g] at *
    exact h
  | .row k len f, v, g, h => by
    simp only [needD] at g
    simp only [Rep] at *
    exact h.imp id fun ⟨b, o, c, h1, h2, h3⟩ => ⟨b, o, c, h1, h2, fun i hi => need_repC hs (f i) b _ (g i hi) (h3 i hi)⟩
  | .ref cs off, v, g, h => by
    simp only [needD] at g
    simp only [Rep] at *
    exact let ⟨b, o, h1, h2⟩ := h; ⟨b, o, h1, need_repC hs cs b o g h2⟩
  | .agg ds, v, g, h => by
    simp only [needD] at g
    simp only [Rep] at *
    exact let ⟨vs, h1, h2⟩ := h; ⟨vs, h1, need_repL hs ds vs g h2⟩
  | .tup ds, v, g, h => by
    simp only [needD] at g
    simp only [Rep] at *
    exact let ⟨vs, h1, h2⟩ := h; ⟨vs, h1, need_repL hs ds vs g h2⟩
  | .fn _ a b, v, g, h => by
    simp only [needD] at g
    simp only [Rep] at *
    exact let ⟨x, y, h1, h2, h3⟩ := h; ⟨x, y, h1, need_repL hs a x g.1 h2, need_repL hs b y g.2 h3⟩
  | .iface _ d, v, g, h => by
    simp only [needD] at g
    simp only [Rep] at *
    exact let ⟨x, h1, h2⟩ := h; ⟨x, h1, need_rep hs d x g h2⟩
  | .cust t q, v, _, h => by
    simp only [Rep] at *
    exact K.mono _ _ _ _ _ hs h
  | .emp z, v, _, h => by
    simp only [Rep] at *
    exact h
theorem need_repC {K : Cust} {M M' : World} {ρ : List Own} {N : Nat} (hs : Sub M M') : ∀ (ds : List D) (b o : Nat), needL N ds → RepC K M ρ ds b o → RepC K M' (ρ.take N) ds b o
  | [], _, _, _, _ => by simp only [RepC]
  | d :: ds, b, o, g, h => by
    simp only [needL] at g
    simp only [RepC] at *
    exact let ⟨⟨x, h1, h2⟩, h3⟩ := h; ⟨⟨x, hs.cell h1, need_rep hs d x g.1 h2⟩, need_repC hs ds b (o + 1) g.2 h3⟩
theorem need_repL {K : Cust} {M M' : World} {ρ : List Own} {N : Nat} (hs : Sub M M') : ∀ (ds : List D) (vs : List Value), needL N ds → RepL K M ρ ds vs → RepL K M' (ρ.take N) ds vs
  | [], _, _, h => by simpa only [RepL] using h
  | d :: ds, vs, g, h => by
    simp only [needL] at g
    simp only [RepL] at *
    exact let ⟨x, r, h1, h2, h3⟩ := h; ⟨x, r, h1, need_rep hs d x g.1 h2, need_repL hs ds r g.2 h3⟩
end
theorem needL_get {N : Nat} : ∀ {ds : List D}, needL N ds → ∀ (i : Nat) (d : D), ds[i]? = some d → needD N d
  | [], _, i, d, h => by simp at h
  | e :: ds, g, i, d, h => by
    simp only [needL] at g
    cases i with
    | zero => simp at h; exact h ▸ g.1
    | succ i => exact needL_get g.2 i d (by simpa using h)
def needB (N : Nat) : Blk → Prop
  | .dead => True
  | .cells cs => needL N cs
  | .map es => ∀ (j : Nat) (k : Value) (d : D), es[j]? = some (k, d) → needD N d
  | .arr n f => ∀ j, j < n → needD N (f j)
theorem needB_rep {K : Cust} {w M M' : World} {ρ : List Own} {N b m : Nat} {x : Blk} (hs : Sub M M') (g : needB N x) (h : RepB K w M ρ (.live b m) x) : RepB K w M' (ρ.take N) (.live b m) x := by
  cases x with
  | dead => trivial
  | cells cs =>
    obtain ⟨vs, ty, h1, h2, h3⟩ := h
    refine ⟨vs, ty, h1, h2, fun j d hj => ?_⟩
    obtain ⟨v, q1, q2⟩ := h3 j d hj
    exact ⟨v, q1, need_rep hs d v (needL_get g j d hj) q2⟩
  | map es =>
    obtain ⟨ents, cl, h1, h2, h3, h4⟩ := h
    refine ⟨ents, cl, h1, h2, h3, fun j k d hj => ?_⟩
    obtain ⟨e, q1, q2, q3⟩ := h4 j k d hj
    exact ⟨e, q1, q2, need_rep hs d _ (g j k d hj) q3⟩
  | arr n f =>
    obtain ⟨vs, ty, h1, h2, h3, h4⟩ := h
    refine ⟨vs, ty, h1, h2, h3, fun j hj => ?_⟩
    obtain ⟨v, q1, q2⟩ := h4 j hj
    exact ⟨v, q1, need_rep hs _ v (g j hj) q2⟩
/-- the same, without what is plain -/
def needS (N : Nat) : List D → Prop
  | [] => True
  | d :: l => match d with
    | .any => needS N l
    | .val _ => needS N l
    | .tup [] => needS N l
    | .ptr id _ => (match Nat.ble (id + 1) N with | true => needS N l | false => False)
    | .sl id _ _ _ _ => (match Nat.ble (id + 1) N with | true => needS N l | false => False)
    | d => needD N d ∧ needS N l
theorem needS_L {N : Nat} : ∀ {l : List D}, needS N l → needL N l
  | [], _ => trivial
  | d :: l, h => by
    unfold needS at h
    simp only [needL]
    split at h
    · exact ⟨trivial, needS_L h⟩
    · exact ⟨trivial, needS_L h⟩
    · exact ⟨trivial, needS_L h⟩
    · split at h
      · rename_i hb
        exact ⟨Nat.le_of_ble_eq_true hb, needS_L h⟩
      · exact h.elim
    · split at h
      · rename_i hb
        exact ⟨Nat.le_of_ble_eq_true hb, needS_L h⟩
      · exact h.elim
    · exact ⟨h.1, needS_L h.2⟩
def needH (N : Nat) : List Blk → Prop
  | [] => True
  | x :: l => match x with
    | .dead => needH N l
    | .cells cs => needS N cs ∧ needH N l
    | x => needB N x ∧ needH N l
theorem needH_get {N : Nat} : ∀ {l : List Blk}, needH N l → ∀ (i : Nat) (x : Blk), l[i]? = some x → needB N x
  | [], _, i, x, h => by simp at h
  | y :: l, g, i, x, h => by
    unfold needH at g
    cases i with
    | zero =>
      simp at h
      subst h
      split at g
      · trivial
      · exact needS_L g.1
      · exact g.1
    | succ i =>
      have h' : l[i]? = some x := by simpa using h
      split at g
      · exact needH_get g i x h'
      · exact needH_get g.2 i x h'
      · exact needH_get g.2 i x h'
def trim (N : Nat) (s : St) : St := ⟨True, s.sl, s.hp.take N, s.base, s.wr⟩
section
variable {K : Cust} {P : Program} {w w0 : World} {ρ ρ0 : List Own} {hp0 : List Blk} {a : Act} {s : St}
theorem Wk.trim {N : Nat} (hN : s.base ≤ N) (hNl : N ≤ s.hp.length) (hsl : needL N s.sl) (hh : needH N (s.hp.take N)) : Wk K w0 ρ0 hp0 s (trim N s) := by
  intro w ρ a h
  have hbase := h.base
  have hrlen := h.rlen
  have hblen := h.blen
  have hlive : ∀ b, isLive K (ρ.take N) b → isLive K ρ b := by
    rintro b (hb | ⟨i, n, hi⟩)
    · exact .inl hb
    · rw [List.getElem?_take] at hi
      split at hi
      · exact .inr ⟨i, n, hi⟩
      · cases hi
  have hs : Sub (mask K w ρ) (mask K w (ρ.take N)) := sub_mask hlive
  have get : ∀ j : Nat, j < N → (s.hp.take N)[j]? = s.hp[j]? := fun j hj => by rw [List.getElem?_take, if_pos hj]
  have h0l : ρ0.length = hp0.length := h.start.len
  have rget : ∀ j : Nat, j < N → (ρ.take N)[j]? = ρ[j]? := fun j hj => by rw [List.getElem?_take, if_pos hj]
  refine ⟨ρ.take N, h.size, h.keep, fun b hb => h.new b (hlive b hb), fun i => ?_, by simp [Go.Ev.trim]; omega, hbase, by simp [Go.Ev.trim]; omega, fun i hi hw => ?_, fun i h1 h2 => ?_, fun hp2 hle hk => ?_, fun i hi => ?_, ⟨h.slots.1, fun i d hi => ?_⟩, h.defers, h.start, h.env⟩
  · rcases Nat.lt_or_ge i N with hi | hi
    · rw [own_take hi]; exact h.le i
    · have : own ρ0 i = .fresh := by
        unfold own
        rw [List.getD_eq_getElem?_getD, List.getElem?_eq_none (by omega)]
        rfl
      rw [this]
      trivial
  · exact (get i (by omega)).trans (h.same i hi hw)
  · obtain ⟨q1, q2, q3⟩ := h.hid i h1 h2
    have : i < hp0.length := (List.getElem?_eq_some_iff.1 h1).1
    exact ⟨(get i (by omega)).trans q1, q2, (rget i (by omega)).trans q3⟩
  · have hok := h.ok hp2 hle hk
    have hl2 : s.base = hp2.length := by rw [hbase]; exact hle.1
    have hov : ∀ i : Nat, i < N → (over (Go.Ev.trim N s) hp2)[i]? = (over s hp2)[i]? := fun i hi => by
      have e1 : (over (Go.Ev.trim N s) hp2)[i]? = if i < s.base then (if i ∈ s.wr then (s.hp.take N)[i]? else hp2[i]?) else (s.hp.take N)[i]? :=
        over_get (s := Go.Ev.trim N s) (hp2 := hp2) hl2 (by simp [Go.Ev.trim]; omega) i
      have e2 := over_get (s := s) (hp2 := hp2) hl2 (by omega) i
      rw [e1, e2, get i hi]
    have hlen : (over (Go.Ev.trim N s) hp2).length = N := by
      unfold over
      simp only [List.length_append, app_length, List.length_drop, Go.Ev.trim, List.length_take]
      omega
    refine ⟨by rw [hlen]; simp; omega, fun i b n hi => ?_, fun i j b n m h1 h2 => ?_, fun i x hx => ?_, hok.hid, fun i b n hi => ?_⟩
    · rw [List.getElem?_take] at hi
      split at hi
      · exact hok.lt i b n hi
      · cases hi
    · rw [List.getElem?_take] at h1 h2
      split at h1
      · split at h2
        · exact hok.inj i j b n m h1 h2
        · cases h2
      · cases h1
    · have hi : i < N := by
        have := (List.getElem?_eq_some_iff.1 hx).1
        omega
      have hx' := (hov i hi).symm.trans hx
      have hr := hok.blk i x hx'
      rw [own_take hi]
      cases x with
      | dead => cases own ρ i <;> trivial
      | _ =>
        cases ho : own ρ i with
        | live b m =>
          rw [ho] at hr
          by_cases hib : i < s.base
          · have e2 := over_get (s := s) (hp2 := hp2) hl2 (by omega) i
            rw [if_pos hib] at e2
            split at e2
            · refine needB_rep hs ?_ hr
              exact needH_get hh i _ ((get i hi).trans (e2.symm.trans hx'))
            · rename_i hw
              have h0 := hk.blk i _ (e2.symm.trans hx')
              refine oldB_rep (ρ0 := ρ0) hs (fun j hj hne => own_take (by omega)) h0 hr
          · have e2 := over_get (s := s) (hp2 := hp2) hl2 (by omega) i
            rw [if_neg hib] at e2
            refine needB_rep hs ?_ hr
            exact needH_get hh i _ ((get i hi).trans (e2.symm.trans hx'))
        | fresh => rw [ho] at hr; exact hr.elim
        | dead => rw [ho] at hr; exact hr.elim
    · rw [List.getElem?_take] at hi
      split at hi
      · exact hok.apart i b n hi
      · cases hi
  · have : i < ρ0.length := (List.getElem?_eq_some_iff.1 hi).1
    exact (rget i (by omega)).trans (h.fr i hi)
  · obtain ⟨v, h1, h2⟩ := h.slots.2 i d hi
    exact ⟨v, h1, need_rep hs d v (needL_get hsl i d hi) h2⟩
/-- the end of a round, with blocks dropped behind the first N -/
theorem round_endT {ι : Type} (N : Nat) (idx : List Nat) {st : ι → St} {μ : ι → Nat} {i : ι} {Q : Ex → St → Prop} (j : ι) (hj : μ j < μ i) (q1 q2 : Prop) (h1 : q1) (h2 : q2)
    (he : trim N (fgt idx s) = st j) (e1 : needS N (fgt idx s).sl = q1) (e2 : needH N (s.hp.take N) = q2) (hb : Nat.ble s.base N = true) (hl : Nat.ble N (lenG s.hp) = true) : RoundP K w0 ρ0 hp0 st μ i Q .normal s := by
  refine ⟨⟨j, hj, ?_⟩⟩
  rw [← he]
  have hl' := Nat.le_of_ble_eq_true hl
  rw [lenG_eq] at hl'
  refine (Wk.fgt idx s).trans (Wk.trim (s := fgt idx s) (Nat.le_of_ble_eq_true hb) hl' (needS_L (e1 ▸ h1)) (e2 ▸ h2))
end
end Go.Ev
end
section
namespace Go.Ev
/-! ### A block that came to the end takes the place N, and what lies behind is dropped -/
/-- names own blocks below N alone, or is a slice, a pointer or a map of block p -/
def ren (N p : Nat) (d : D) : D := match d with
  | .sl id off len k cap => (match Nat.beq id p with | true => .sl N off len k cap | false => .sl id off len k cap)
  | .ptr id off => (match Nat.beq id p with | true => .ptr N off | false => .ptr id off)
  | .map id => (match Nat.beq id p with | true => .map N | false => .map id)
  | d => d
def renL (N p : Nat) : List D → List D
  | [] => []
  | d :: l => ren N p d :: renL N p l
def needR (N p : Nat) : List D → Prop
  | [] => True
  | d :: l => match d with
    | .any => needR N p l
    | .val _ => needR N p l
    | .tup [] => needR N p l
    | .ptr id _ => (match Nat.beq id p with | true => needR N p l | false => match Nat.ble (id + 1) N with | true => needR N p l | false => False)
    | .sl id _ _ _ _ => (match Nat.beq id p with | true => needR N p l | false => match Nat.ble (id + 1) N with | true => needR N p l | false => False)
    | .map id => (match Nat.beq id p with | true => needR N p l | false => match Nat.ble (id + 1) N with | true => needR N p l | false => False)
    | d => needD N d ∧ needR N p l
theorem renL_get {N p : Nat} : ∀ {l : List D} {i : Nat} {d : D}, (renL N p l)[i]? = some d → ∃ e, l[i]? = some e ∧ ren N p e = d
  | [], i, d, h => by simp [renL] at h
  | e :: l, i, d, h => by
    cases i with
    | zero => simp [renL] at h; exact ⟨e, by simp, h⟩
    | succ i => simpa using renL_get (l := l) (i := i) (by simpa [renL] using h)
theorem renL_length {N p : Nat} : ∀ {l : List D}, (renL N p l).length = l.length
  | [] => rfl
  | _ :: l => by simp [renL, renL_length (l := l)]
/-- what needR says of one slot -/
def oneR (N p : Nat) (d : D) : Prop := (needD N d ∧ ren N p d = d) ∨ (∃ off len k cap, d = .sl p off len k cap) ∨ (∃ off, d = .ptr p off) ∨ d = .map p
theorem needR_get {N p : Nat} (hp : N ≤ p) : ∀ {l : List D}, needR N p l → ∀ (i : Nat) (d : D), l[i]? = some d → oneR N p d
  | [], _, i, d, h => by simp at h
  | e :: l, g, i, d, h => by
    have key : oneR N p e ∧ needR N p l := by
      unfold needR at g
      split at g
      · exact ⟨.inl ⟨trivial, rfl⟩, g⟩
      · exact ⟨.inl ⟨trivial, rfl⟩, g⟩
      · exact ⟨.inl ⟨trivial, rfl⟩, g⟩
      · split at g
        · rename_i hb
          obtain rfl := Nat.eq_of_beq_eq_true hb
          exact ⟨.inr (.inr (.inl ⟨_, rfl⟩)), g⟩
        · rename_i hb
          split at g
          · rename_i hl
            exact ⟨.inl ⟨Nat.le_of_ble_eq_true hl, by simp [ren, hb]⟩, g⟩
          · exact g.elim
      · split at g
        · rename_i hb
          obtain rfl := Nat.eq_of_beq_eq_true hb
          exact ⟨.inr (.inl ⟨_, _, _, _, rfl⟩), g⟩
        · rename_i hb
          split at g
          · rename_i hl
            exact ⟨.inl ⟨Nat.le_of_ble_eq_true hl, by simp [ren, hb]⟩, g⟩
          · exact g.elim
      · split at g
        · rename_i hb
          obtain rfl := Nat.eq_of_beq_eq_true hb
          exact ⟨.inr (.inr (.inr rfl)), g⟩
        · rename_i hb
          split at g
          · rename_i hl
            exact ⟨.inl ⟨Nat.le_of_ble_eq_true hl, by simp [ren, hb]⟩, g⟩
          · exact g.elim
      · rename_i h1 h2 h3 h4 h5 h6
        refine ⟨.inl ⟨g.1, ?_⟩, g.2⟩
        unfold ren
        split
        · exact absurd rfl (h5 _ _ _ _ _)
        · exact absurd rfl (h4 _ _)
        · exact absurd rfl (h6 _)
        · rfl
    cases i with
    | zero => simp at h; exact h ▸ key.1
    | succ i => exact needR_get hp key.2 i d (by simpa using h)
noncomputable def gather (N p : Nat) (s : St) : St := ⟨True, renL N p s.sl, s.hp.take N ++ [s.hp.getD p .dead], s.base, s.wr⟩
section
variable {K : Cust} {P : Program} {w w0 : World} {ρ ρ0 : List Own} {hp0 : List Blk} {a : Act} {s : St}
theorem Wk.gather {N p : Nat} (hN : s.base ≤ N) (hNp : N ≤ p) (hpl : p < s.hp.length) (hsl : needR N p s.sl) (hh : needH N (s.hp.take N)) (hb : needB N (s.hp.getD p .dead)) : Wk K w0 ρ0 hp0 s (gather N p s) := by
  intro w ρ a h
  have hbase := h.base
  have hrlen := h.rlen
  have hblen := h.blen
  have tl : (ρ.take N).length = N := by simp; omega
  have hl' : (s.hp.take N).length = N := by simp; omega
  have gi : ∀ i : Nat, i < N → (ρ.take N ++ [own ρ p])[i]? = ρ[i]? := fun i hi => by
    rw [List.getElem?_append_left (by omega), List.getElem?_take, if_pos hi]
  have gN : (ρ.take N ++ [own ρ p])[N]? = some (own ρ p) := by
    rw [List.getElem?_append_right (by omega), tl, Nat.sub_self]; rfl
  have gG : ∀ i : Nat, N < i → (ρ.take N ++ [own ρ p])[i]? = none := fun i hi => by
    rw [List.getElem?_eq_none]; simp; omega
  have og : ∀ (l : List Own) (i : Nat), own l i = (l[i]?).getD .fresh := fun l i => by unfold own; rw [List.getD_eq_getElem?_getD]
  have oi : ∀ i : Nat, i < N → own (ρ.take N ++ [own ρ p]) i = own ρ i := fun i hi => by
    rw [og, gi i hi, ← og]
  have oN : own (ρ.take N ++ [own ρ p]) N = own ρ p := by
    rw [og, gN]; rfl
  have hle : OwnLe (ρ.take N) (ρ.take N ++ [own ρ p]) := fun i => by
    by_cases hi : i < N
    · rw [oi i hi, own_take hi]
      cases own ρ i <;> simp [ole]
    · have : own (ρ.take N) i = .fresh := by
        unfold own
        rw [List.getD_eq_getElem?_getD, List.getElem?_eq_none (by omega)]
        rfl
      rw [this]
      trivial
  have back : ∀ i b n : Nat, (ρ.take N ++ [own ρ p])[i]? = some (Own.live b n) → (i < N ∧ ρ[i]? = some (Own.live b n)) ∨ (i = N ∧ ρ[p]? = some (Own.live b n)) := fun i b n hi => by
    rcases Nat.lt_trichotomy i N with hl | rfl | hl
    · rw [gi i hl] at hi; exact .inl ⟨hl, hi⟩
    · rw [gN] at hi; exact .inr ⟨rfl, own_live (Option.some.inj hi)⟩
    · rw [gG i hl] at hi; cases hi
  have hlive : ∀ b, isLive K (ρ.take N ++ [own ρ p]) b → isLive K ρ b := by
    rintro b (hb | ⟨i, n, hi⟩)
    · exact .inl hb
    · rcases back i b n hi with ⟨_, h1⟩ | ⟨_, h1⟩
      · exact .inr ⟨i, n, h1⟩
      · exact .inr ⟨p, n, h1⟩
  have hlive2 : ∀ b, isLive K (ρ.take N) b → isLive K ρ b := by
    rintro b (hb | ⟨i, n, hi⟩)
    · exact .inl hb
    · rw [List.getElem?_take] at hi
      split at hi
      · exact .inr ⟨i, n, hi⟩
      · cases hi
  have hs : Sub (mask K w ρ) (mask K w (ρ.take N ++ [own ρ p])) := sub_mask hlive
  have get : ∀ j : Nat, j < N → (s.hp.take N ++ [s.hp.getD p .dead])[j]? = s.hp[j]? := fun j hj => by
    rw [List.getElem?_append_left (by omega), List.getElem?_take, if_pos hj]
  have getN : (s.hp.take N ++ [s.hp.getD p .dead])[N]? = s.hp[p]? := by
    rw [List.getElem?_append_right (by omega), hl', Nat.sub_self, List.getD_eq_getElem?_getD, List.getElem?_eq_getElem hpl]; rfl
  have h0l : ρ0.length = hp0.length := h.start.len
  have tS : Sub (mask K w (ρ.take N ++ [own ρ p])) (mask K w (ρ.take N ++ [own ρ p])) := fun _ _ _ _ h => h
  refine ⟨ρ.take N ++ [own ρ p], h.size, h.keep, fun b hb => h.new b (hlive b hb), fun i => ?_, by simp [Go.Ev.gather]; omega, hbase, by simp [Go.Ev.gather]; omega, fun i hi hw => ?_, fun i h1 h2 => ?_, fun hp2 hle2 hk => ?_, fun i hi => ?_, ⟨by simpa [Go.Ev.gather, renL_length] using h.slots.1, fun i d hi => ?_⟩, h.defers, h.start, h.env⟩
  · rcases Nat.lt_or_ge i N with hi | hi
    · rw [oi i hi]; exact h.le i
    · have : own ρ0 i = .fresh := by
        unfold own
        rw [List.getD_eq_getElem?_getD, List.getElem?_eq_none (by omega)]
        rfl
      rw [this]
      trivial
  · exact (get i (by omega)).trans (h.same i hi hw)
  · obtain ⟨q1, q2, q3⟩ := h.hid i h1 h2
    have : i < hp0.length := (List.getElem?_eq_some_iff.1 h1).1
    exact ⟨(get i (by omega)).trans q1, q2, (gi i (by omega)).trans q3⟩
  · have hok := h.ok hp2 hle2 hk
    have hl2 : s.base = hp2.length := by rw [hbase]; exact hle2.1
    have hov : ∀ i : Nat, i < N → (over (Go.Ev.gather N p s) hp2)[i]? = (over s hp2)[i]? := fun i hi => by
      have e1 : (over (Go.Ev.gather N p s) hp2)[i]? = if i < s.base then (if i ∈ s.wr then (s.hp.take N ++ [s.hp.getD p .dead])[i]? else hp2[i]?) else (s.hp.take N ++ [s.hp.getD p .dead])[i]? :=
        over_get (s := Go.Ev.gather N p s) (hp2 := hp2) hl2 (by simp [Go.Ev.gather]; omega) i
      have e2 := over_get (s := s) (hp2 := hp2) hl2 (by omega) i
      rw [e1, e2, get i hi]
    have hovN : (over (Go.Ev.gather N p s) hp2)[N]? = (over s hp2)[p]? := by
      have e1 : (over (Go.Ev.gather N p s) hp2)[N]? = if N < s.base then (if N ∈ s.wr then (s.hp.take N ++ [s.hp.getD p .dead])[N]? else hp2[N]?) else (s.hp.take N ++ [s.hp.getD p .dead])[N]? :=
        over_get (s := Go.Ev.gather N p s) (hp2 := hp2) hl2 (by simp [Go.Ev.gather]; omega) N
      have e2 := over_get (s := s) (hp2 := hp2) hl2 (by omega) p
      rw [e1, e2, if_neg (by omega), if_neg (by omega), getN]
    have hlen : (over (Go.Ev.gather N p s) hp2).length = N + 1 := by
      unfold over
      simp only [List.length_append, app_length, List.length_drop, Go.Ev.gather, List.length_take, List.length_cons, List.length_nil]
      omega
    refine ⟨by rw [hlen]; simp; omega, fun i b n hi => ?_, fun i j b n m h1 h2 => ?_, fun i x hx => ?_, hok.hid, fun i b n hi => ?_⟩
    · rcases back i b n hi with ⟨_, h1⟩ | ⟨_, h1⟩ <;> exact hok.lt _ b n h1
    · rcases back i b n h1 with ⟨l1, g1⟩ | ⟨l1, g1⟩ <;> rcases back j b m h2 with ⟨l2, g2⟩ | ⟨l2, g2⟩
      · exact hok.inj i j b n m g1 g2
      · have := hok.inj i p b n m g1 g2; omega
      · have := hok.inj p j b n m g1 g2; omega
      · omega
    · have hi : i < N + 1 := by
        have := (List.getElem?_eq_some_iff.1 hx).1
        omega
      have hsT : Sub (mask K w ρ) (mask K w (ρ.take N ++ [own ρ p])) := hs
      by_cases hiN : i < N
      · have hx' := (hov i hiN).symm.trans hx
        have hr := hok.blk i x hx'
        rw [oi i hiN]
        cases x with
        | dead => cases own ρ i <;> trivial
        | _ =>
          cases ho : own ρ i with
          | live b m =>
            rw [ho] at hr
            by_cases hib : i < s.base
            · have e2 := over_get (s := s) (hp2 := hp2) hl2 (by omega) i
              rw [if_pos hib] at e2
              split at e2
              · refine RepB.mono (w := w) tS hle (fun _ _ _ => rfl) (needB_rep hsT ?_ hr)
                exact needH_get hh i _ (by rw [List.getElem?_take, if_pos hiN]; exact (e2.symm.trans hx'))
              · rename_i hw
                have h0 := hk.blk i _ (e2.symm.trans hx')
                refine oldB_rep (ρ0 := ρ0) hsT (fun j hj hne => oi j (by omega)) h0 hr
            · have e2 := over_get (s := s) (hp2 := hp2) hl2 (by omega) i
              rw [if_neg hib] at e2
              refine RepB.mono (w := w) tS hle (fun _ _ _ => rfl) (needB_rep hsT ?_ hr)
              exact needH_get hh i _ (by rw [List.getElem?_take, if_pos hiN]; exact (e2.symm.trans hx'))
          | fresh => rw [ho] at hr; exact hr.elim
          | dead => rw [ho] at hr; exact hr.elim
      · obtain rfl : i = N := by omega
        have hx' := hovN.symm.trans hx
        have hr := hok.blk p x hx'
        have e2 := over_get (s := s) (hp2 := hp2) hl2 (by omega) p
        rw [if_neg (by omega)] at e2
        have hxp : s.hp.getD p .dead = x := by
          rw [List.getD_eq_getElem?_getD, e2.symm.trans hx']; rfl
        rw [hxp] at hb
        rw [oN]
        cases x with
        | dead => cases own ρ p <;> trivial
        | _ =>
          cases ho : own ρ p with
          | live b m =>
            rw [ho] at hr
            exact RepB.mono (w := w) (by rw [← ho]; exact tS) (by rw [← ho]; exact hle) (fun _ _ _ => rfl) (needB_rep hsT hb hr)
          | fresh => rw [ho] at hr; exact hr.elim
          | dead => rw [ho] at hr; exact hr.elim
    · rcases back i b n hi with ⟨_, h1⟩ | ⟨_, h1⟩ <;> exact hok.apart _ b n h1
  · have : i < ρ0.length := (List.getElem?_eq_some_iff.1 hi).1
    exact (gi i (by omega)).trans (h.fr i hi)
  · obtain ⟨e, he, rfl⟩ := renL_get hi
    obtain ⟨v, h1, h2⟩ := h.slots.2 i e he
    refine ⟨v, h1, ?_⟩
    rcases needR_get hNp hsl i e he with ⟨g1, g2⟩ | ⟨off, len, k, cap, rfl⟩ | ⟨off, rfl⟩ | rfl
    · rw [g2]
      exact Rep.mono tS hle _ v (need_rep hs e v g1 h2)
    · simp only [ren, Nat.beq_refl]
      simp only [Rep, oN] at h2 ⊢
      exact h2
    · simp only [ren, Nat.beq_refl]
      simp only [Rep, oN] at h2 ⊢
      exact h2
    · simp only [ren, Nat.beq_refl]
      simp only [Rep, oN] at h2 ⊢
      exact h2
/-- the end of a round: block p takes the place N, what lies behind is dropped -/
theorem round_endG {ι : Type} (N p : Nat) (idx : List Nat) {st : ι → St} {μ : ι → Nat} {i : ι} {Q : Ex → St → Prop} (j : ι) (hj : μ j < μ i) (q1 q2 q3 : Prop) (h1 : q1) (h2 : q2) (h3 : q3)
    (he : gather N p (fgt idx s) = st j) (e1 : needR N p (fgt idx s).sl = q1) (e2 : needH N (s.hp.take N) = q2) (e3 : needB N (s.hp.getD p .dead) = q3) (hb : Nat.ble s.base N = true) (hNp : Nat.ble N p = true) (hl : Nat.ble (p + 1) (lenG s.hp) = true) : RoundP K w0 ρ0 hp0 st μ i Q .normal s := by
  refine ⟨⟨j, hj, ?_⟩⟩
  rw [← he]
  have hl' := Nat.le_of_ble_eq_true hl
  rw [lenG_eq] at hl'
  refine (Wk.fgt idx s).trans (Wk.gather (s := fgt idx s) (Nat.le_of_ble_eq_true hb) (Nat.le_of_ble_eq_true hNp) hl' (e1 ▸ h1) (e2 ▸ h2) (e3 ▸ h3))
end
end Go.Ev
end
section
namespace Go.Ev
section
variable {K : Cust} {P : Program} {w w0 : World} {ρ ρ0 : List Own} {hp0 : List Blk} {a : Act} {s : St}
variable {cl : FuncId → List D → List Blk → Nat → Option Out} {Q : Ex → St → Prop}
/-- another telling of a new block -/
theorem Wk.reblk {id : Nat} {x' : Blk} (hb : s.base ≤ id) (hx : ∀ (w : World) (M : World) (ρ : List Own) (o : Own), RepB K w M ρ o (s.hp.getD id .dead) → RepB K w M ρ o x') : Wk K w0 ρ0 hp0 s ⟨True, s.sl, s.hp.set id x', s.base, s.wr⟩ := by
  intro w ρ a h
  have hbase := h.base
  have hblen := h.blen
  have get : ∀ j : Nat, j < s.base → (s.hp.set id x')[j]? = s.hp[j]? := fun j hj => by
    rw [List.getElem?_set, if_neg (by omega)]
  refine ⟨ρ, h.size, h.keep, h.new, h.le, by simpa using h.rlen, h.base, by simpa using h.blen, fun i hi hw => ?_, fun i h1 h2 => ?_, fun hp2 hle hk => ?_, h.fr, h.slots, h.defers, h.start, h.env⟩
  · exact (get i (by omega)).trans (h.same i hi hw)
  · obtain ⟨q1, q2, q3⟩ := h.hid i h1 h2
    have : i < hp0.length := (List.getElem?_eq_some_iff.1 h1).1
    exact ⟨(get i (by omega)).trans q1, q2, q3⟩
  · have hok := h.ok hp2 hle hk
    have hl2 : s.base = hp2.length := by rw [hbase]; exact hle.1
    refine ⟨?_, hok.lt, hok.inj, fun i x hxx => ?_, hok.hid, hok.apart⟩
    · have := hok.len
      unfold over at this ⊢
      simp only [List.length_append, app_length, List.length_drop, List.length_set] at this ⊢
      exact this
    · have e1 : (over ⟨True, s.sl, s.hp.set id x', s.base, s.wr⟩ hp2)[i]? = if i < s.base then (if i ∈ s.wr then (s.hp.set id x')[i]? else hp2[i]?) else (s.hp.set id x')[i]? :=
        over_get (s := ⟨True, s.sl, s.hp.set id x', s.base, s.wr⟩) (hp2 := hp2) hl2 (by simp; omega) i
      have e2 := over_get (s := s) (hp2 := hp2) hl2 (by omega) i
      rw [e1] at hxx
      by_cases hi : i < s.base
      · rw [if_pos hi, get i hi] at hxx
        rw [if_pos hi] at e2
        exact hok.blk i x (e2.trans hxx)
      · rw [if_neg hi] at hxx e2
        rw [List.getElem?_set] at hxx
        split at hxx
        · rename_i hid
          subst hid
          split at hxx
          · rename_i hlt
            simp only [Option.some.injEq] at hxx
            subst hxx
            have : s.hp[id]? = some (s.hp.getD id .dead) := by
              rw [List.getD_eq_getElem?_getD, List.getElem?_eq_getElem hlt]
              rfl
            exact hx w _ _ _ (hok.blk id _ (e2.trans this))
          · cases hxx
        · exact hok.blk i x (e2.trans hxx)
noncomputable def reb (N : Nat) (x : Blk) (s : St) : St := ⟨True, s.sl, s.hp.set N x, s.base, s.wr⟩
/-- forget, gather and tell anew -/
theorem wkGR (N p : Nat) (idx : List Nat) {s' : St} (xp x' : Blk) (q1 q2 q3 : Prop) (h1 : q1) (h2 : q2) (h3 : q3) (hx : ∀ (K : Cust) (w : World) (M : World) (ρ : List Own) (o : Own), RepB K w M ρ o xp → RepB K w M ρ o x')
    (he : reb N x' (gather N p (fgt idx s)) = s') (e1 : needR N p (fgt idx s).sl = q1) (e2 : needH N (s.hp.take N) = q2) (e3 : needB N xp = q3) (ep : getG s.hp p = some xp) (hb : Nat.ble s.base N = true) (hNp : Nat.ble N p = true) : Wk K w0 ρ0 hp0 s s' := by
  rw [getG_eq] at ep
  have hpl : p < s.hp.length := (List.getElem?_eq_some_iff.1 ep).1
  have epd : s.hp.getD p .dead = xp := by rw [List.getD_eq_getElem?_getD, ep]; rfl
  have hNp' := Nat.le_of_ble_eq_true hNp
  have hb' := Nat.le_of_ble_eq_true hb
  rw [← he]
  refine (Wk.fgt idx s).trans ((Wk.gather (s := fgt idx s) (N := N) (p := p) hb' hNp' hpl (e1 ▸ h1) (e2 ▸ h2) ?_).trans (Wk.reblk (s := gather N p (fgt idx s)) (id := N) hb' fun w M ρ o hr => hx K w M ρ o ?_))
  · show needB N (s.hp.getD p .dead)
    rw [epd, e3]
    exact h3
  · have : (gather N p (fgt idx s)).hp.getD N .dead = xp := by
      show (s.hp.take N ++ [s.hp.getD p .dead]).getD N .dead = xp
      rw [List.getD_eq_getElem?_getD, List.getElem?_append_right (by simp; omega), epd]
      have : N - (s.hp.take N).length = 0 := by simp; omega
      rw [this]
      rfl
    rw [this] at hr
    exact hr
theorem aw_loopW {ι : Type} (hm : P.follows .mixedOrders = true) (hcl : ClOK K P cl) {b r : ACode} {k : Nat} (st : ι → St) (μ : ι → Nat) (i : ι)
    (round : ∀ i, AW cl (LoopA K P w0 ρ0 hp0) b (st i) (RoundP K w0 ρ0 hp0 st μ i (blkP k (seqP cl (LoopA K P w0 ρ0 hp0) r Q))))
    (hw : Wk K w0 ρ0 hp0 s (st i)) : AW cl (LoopA K P w0 ρ0 hp0) (.seq (.block k (.loop b)) r) s Q := by
  refine aw_blocks ⟨?_⟩
  refine loop_rule (Q := blkP k (seqP cl (LoopA K P w0 ρ0 hp0) r Q)) hm hcl st μ (fun i => ?_) i hw
  have := (round i).out
  have e : RoundP K w0 ρ0 hp0 st μ i (blkP k (seqP cl (LoopA K P w0 ρ0 hp0) r Q)) = roundP K w0 ρ0 hp0 st μ i (blkP k (seqP cl (LoopA K P w0 ρ0 hp0) r Q)) := by
    funext e s
    exact propext ⟨fun h => h.out, fun h => ⟨h⟩⟩
  rw [e] at this
  exact this
theorem round_endW {ι : Type} {st : ι → St} {μ : ι → Nat} {i : ι} (j : ι) (hj : μ j < μ i) (hw : Wk K w0 ρ0 hp0 s (st j)) : RoundP K w0 ρ0 hp0 st μ i Q .normal s := ⟨j, hj, hw⟩
theorem blk_congr {m : Nat} {f g : Nat → D} (h : ∀ j, j < m → f j = g j) : ∀ (K : Cust) (w : World) (M : World) (ρ : List Own) (o : Own), RepB K w M ρ o (.arr m f) → RepB K w M ρ o (.arr m g) := fun K w M ρ o hr => by
  cases o with
  | live b n =>
    obtain ⟨vs, ty, h1, h2, h3, h4⟩ := hr
    exact ⟨vs, ty, h1, h2, h3, fun j hj => by rw [← h j hj]; exact h4 j hj⟩
  | fresh => exact hr.elim
  | dead => exact hr.elim
theorem blk_empty {f : Nat → D} : ∀ (K : Cust) (w : World) (M : World) (ρ : List Own) (o : Own), RepB K w M ρ o (.cells []) → RepB K w M ρ o (.arr 0 f) := fun K w M ρ o hr => by
  cases o with
  | live b n =>
    obtain ⟨vs, ty, h1, h2, h3⟩ := hr
    exact ⟨vs, ty, h1, h2, Nat.zero_le _, fun j hj => by omega⟩
  | fresh => exact hr.elim
  | dead => exact hr.elim
end
section
variable {s : St} {cl : FuncId → List D → List Blk → Nat → Option Out} {LP : ACode → St → (Ex → St → Prop) → Prop} {Q : Ex → St → Prop} {n0 : Nat} {k : St → Prop}
theorem awr_testq {ops : List AOper} (j i : Nat) (q : Prop) (hp : q) (t : Bool) (h1 : t = true → AWR cl n0 (ops.drop j) (put1 i (.val (.bool true)) (stS cl n0 (ops.take j) s)) k) (h2 : t = false → AWR cl n0 (ops.drop j) (put1 i (.val (.bool false)) (stS cl n0 (ops.take j) s)) k)
    (hs : clean s = s := by kernel_rfl) (h : (stps true cl n0 (ops.take j) s).isSome = true := by kernel_rfl) (hq : (unS (stps true cl n0 (ops.take j) s)).p = q := by kernel_rfl) (hi : getG (unS (stps true cl n0 (ops.take j) s)).sl i = some (.val (.bool t)) := by kernel_rfl) : AWR cl n0 ops s k := by
  have := aw_split (ops2 := ops.drop j) (k := k) i q t hp (fun e => (h1 e).out) (fun e => (h2 e).out) hs h hq hi
  rw [List.take_append_drop] at this
  exact ⟨this⟩
theorem aw_at {c : ACode} (s' : St) (h : AW cl LP c s' Q) (e : s = s' := by kernel_rfl) : AW cl LP c s Q := by rw [e]; exact h
end
end Go.Ev
end
section
namespace Go.Ev
/-! ### Tests and ends in the form in which they are told -/
section
variable {K : Cust} {P : Program} {w0 : World} {ρ0 : List Own} {hp0 : List Blk} {s : St} {cl : FuncId → List D → List Blk → Nat → Option Out} {LP : ACode → St → (Ex → St → Prop) → Prop} {Q : Ex → St → Prop} {n0 : Nat} {k : St → Prop}
theorem aw_ifd {c : Operand} {x y : ACode} (p : Prop) [i : Decidable p] (h1 : p → AW cl LP x s Q) (h2 : ¬ p → AW cl LP y s Q) (h : evO s.sl c = .val (.bool (@decide p i)) := by kernel_rfl) : AW cl LP (.cond c x y) s Q :=
  aw_if (decide p) (fun e => h1 (of_decide_eq_true e)) (fun e => h2 (of_decide_eq_false e)) h
theorem aw_ifsd {c : Operand} {x y b : ACode} (p : Prop) [i : Decidable p] (h1 : p → AW cl LP (.seq x b) s Q) (h2 : ¬ p → AW cl LP (.seq y b) s Q) (h : evO s.sl c = .val (.bool (@decide p i)) := by kernel_rfl) : AW cl LP (.seq (.cond c x y) b) s Q :=
  aw_ifs (decide p) (fun e => h1 (of_decide_eq_true e)) (fun e => h2 (of_decide_eq_false e)) h
theorem aw_ifn {c : Operand} {x y : ACode} (p : Prop) [i : Decidable p] (h1 : ¬ p → AW cl LP x s Q) (h2 : p → AW cl LP y s Q) (h : evO s.sl c = .val (.bool (!(@decide p i))) := by kernel_rfl) : AW cl LP (.cond c x y) s Q :=
  aw_if (!decide p) (fun e => h1 (by simpa using e)) (fun e => h2 (by simpa using e)) h
theorem aw_ifsn {c : Operand} {x y b : ACode} (p : Prop) [i : Decidable p] (h1 : ¬ p → AW cl LP (.seq x b) s Q) (h2 : p → AW cl LP (.seq y b) s Q) (h : evO s.sl c = .val (.bool (!(@decide p i))) := by kernel_rfl) : AW cl LP (.seq (.cond c x y) b) s Q :=
  aw_ifs (!decide p) (fun e => h1 (by simpa using e)) (fun e => h2 (by simpa using e)) h
theorem aw_ife {c : Operand} {x y : ACode} (u v : Int) (h1 : u = v → AW cl LP x s Q) (h2 : ¬ u = v → AW cl LP y s Q) (h : evO s.sl c = .val (.bool (u == v)) := by kernel_rfl) : AW cl LP (.cond c x y) s Q :=
  aw_if (u == v) (fun e => h1 (by simpa using e)) (fun e => h2 (by simpa using e)) h
theorem aw_ifse {c : Operand} {x y b : ACode} (u v : Int) (h1 : u = v → AW cl LP (.seq x b) s Q) (h2 : ¬ u = v → AW cl LP (.seq y b) s Q) (h : evO s.sl c = .val (.bool (u == v)) := by kernel_rfl) : AW cl LP (.seq (.cond c x y) b) s Q :=
  aw_ifs (u == v) (fun e => h1 (by simpa using e)) (fun e => h2 (by simpa using e)) h
theorem aw_ifne {c : Operand} {x y : ACode} (u v : Int) (h1 : ¬ u = v → AW cl LP x s Q) (h2 : u = v → AW cl LP y s Q) (h : evO s.sl c = .val (.bool (u != v)) := by kernel_rfl) : AW cl LP (.cond c x y) s Q :=
  aw_if (u != v) (fun e => h1 (by simpa [bne] using e)) (fun e => h2 (by simpa [bne] using e)) h
theorem aw_ifsne {c : Operand} {x y b : ACode} (u v : Int) (h1 : ¬ u = v → AW cl LP (.seq x b) s Q) (h2 : u = v → AW cl LP (.seq y b) s Q) (h : evO s.sl c = .val (.bool (u != v)) := by kernel_rfl) : AW cl LP (.seq (.cond c x y) b) s Q :=
  aw_ifs (u != v) (fun e => h1 (by simpa [bne] using e)) (fun e => h2 (by simpa [bne] using e)) h
/-- a test inside a region -/
theorem awr_testd {ops : List AOper} (j i : Nat) (q : Prop) (hp : q) (p : Prop) [ip : Decidable p] (h1 : p → AWR cl n0 (ops.drop j) (put1 i (.val (.bool true)) (stS cl n0 (ops.take j) s)) k) (h2 : ¬ p → AWR cl n0 (ops.drop j) (put1 i (.val (.bool false)) (stS cl n0 (ops.take j) s)) k)
    (hs : clean s = s := by kernel_rfl) (h : (stps true cl n0 (ops.take j) s).isSome = true := by kernel_rfl) (hq : (unS (stps true cl n0 (ops.take j) s)).p = q := by kernel_rfl) (hi : getG (unS (stps true cl n0 (ops.take j) s)).sl i = some (.val (.bool (@decide p ip))) := by kernel_rfl) : AWR cl n0 ops s k :=
  awr_testq j i q hp (decide p) (fun e => h1 (of_decide_eq_true e)) (fun e => h2 (of_decide_eq_false e)) hs h hq hi
theorem awr_testn {ops : List AOper} (j i : Nat) (q : Prop) (hp : q) (p : Prop) [ip : Decidable p] (h1 : ¬ p → AWR cl n0 (ops.drop j) (put1 i (.val (.bool true)) (stS cl n0 (ops.take j) s)) k) (h2 : p → AWR cl n0 (ops.drop j) (put1 i (.val (.bool false)) (stS cl n0 (ops.take j) s)) k)
    (hs : clean s = s := by kernel_rfl) (h : (stps true cl n0 (ops.take j) s).isSome = true := by kernel_rfl) (hq : (unS (stps true cl n0 (ops.take j) s)).p = q := by kernel_rfl) (hi : getG (unS (stps true cl n0 (ops.take j) s)).sl i = some (.val (.bool (!(@decide p ip)))) := by kernel_rfl) : AWR cl n0 ops s k :=
  awr_testq j i q hp (!decide p) (fun e => h1 (by simpa using e)) (fun e => h2 (by simpa using e)) hs h hq hi
theorem awr_teste {ops : List AOper} (j i : Nat) (q : Prop) (hp : q) (u v : Int) (h1 : u = v → AWR cl n0 (ops.drop j) (put1 i (.val (.bool true)) (stS cl n0 (ops.take j) s)) k) (h2 : ¬ u = v → AWR cl n0 (ops.drop j) (put1 i (.val (.bool false)) (stS cl n0 (ops.take j) s)) k)
    (hs : clean s = s := by kernel_rfl) (h : (stps true cl n0 (ops.take j) s).isSome = true := by kernel_rfl) (hq : (unS (stps true cl n0 (ops.take j) s)).p = q := by kernel_rfl) (hi : getG (unS (stps true cl n0 (ops.take j) s)).sl i = some (.val (.bool (u == v))) := by kernel_rfl) : AWR cl n0 ops s k :=
  awr_testq j i q hp (u == v) (fun e => h1 (by simpa using e)) (fun e => h2 (by simpa using e)) hs h hq hi
theorem awr_testne {ops : List AOper} (j i : Nat) (q : Prop) (hp : q) (u v : Int) (h1 : ¬ u = v → AWR cl n0 (ops.drop j) (put1 i (.val (.bool true)) (stS cl n0 (ops.take j) s)) k) (h2 : u = v → AWR cl n0 (ops.drop j) (put1 i (.val (.bool false)) (stS cl n0 (ops.take j) s)) k)
    (hs : clean s = s := by kernel_rfl) (h : (stps true cl n0 (ops.take j) s).isSome = true := by kernel_rfl) (hq : (unS (stps true cl n0 (ops.take j) s)).p = q := by kernel_rfl) (hi : getG (unS (stps true cl n0 (ops.take j) s)).sl i = some (.val (.bool (u != v))) := by kernel_rfl) : AWR cl n0 ops s k :=
  awr_testq j i q hp (u != v) (fun e => h1 (by simpa [bne] using e)) (fun e => h2 (by simpa [bne] using e)) hs h hq hi
/-- the end of a function with one plain result -/
theorem end_d {raw : Bool} {nid : Nat} {fn : AFun} {e : Ex} {d : D} (d' : D) (h : d' = d) (he : endO raw nid fn e s = some ⟨none, d', [], []⟩ := by kernel_rfl) : EndP raw nid fn (fun o => o = ⟨none, d, [], []⟩) e s :=
  endO_p _ (by rw [h]) he
theorem end_b {raw : Bool} {nid : Nat} {fn : AFun} {e : Ex} {b : Bool} (b' : Bool) (h : b' = b) (he : endO raw nid fn e s = some ⟨none, .val (.bool b'), [], []⟩ := by kernel_rfl) : EndP raw nid fn (fun o => o = ⟨none, .val (.bool b), [], []⟩) e s :=
  endO_p _ (by rw [h]) he
theorem end_i {raw : Bool} {nid : Nat} {fn : AFun} {e : Ex} {kd : IntKind} {x : Int} (x' : Int) (h : x' = x) (he : endO raw nid fn e s = some ⟨none, .val (.int kd x'), [], []⟩ := by kernel_rfl) : EndP raw nid fn (fun o => o = ⟨none, .val (.int kd x), [], []⟩) e s :=
  endO_p _ (by rw [h]) he
/-- the slots that a code writes -/
def dstO : List AOper → List Nat
  | [] => []
  | o :: l => match o.dst with
    | some t => t :: dstO l
    | none => dstO l
def dstC : ACode → List Nat
  | .region ops _ => dstO ops
  | .seq a b => dstC a ++ dstC b
  | .cond _ a b => dstC a ++ dstC b
  | .block _ b => dstC b
  | .loop b => dstC b
  | _ => []
def inL (x : Nat) : List Nat → Bool
  | [] => false
  | y :: l => match Nat.beq x y with | true => true | false => inL x l
def lessL (a : List Nat) : List Nat → List Nat
  | [] => []
  | x :: l => match inL x a with | true => lessL a l | false => x :: lessL a l
def putL : List (Nat × D) → St → St
  | [], s => s
  | x :: l, s => putL l ⟨True, s.sl.set x.1 x.2, s.hp, s.base, s.wr⟩
def setB : List (Nat × Blk) → St → St
  | [], s => s
  | x :: l, s => setB l ⟨True, s.sl, s.hp.set x.1 x.2, s.base, s.wr⟩
/-- the state of a loop: what the body writes is forgotten, what the rounds hand on is told -/
noncomputable def lst (b : ACode) (car : List (Nat × D)) (bl : List (Nat × Blk)) (s : St) : St := putL car (setB bl (fgt (dstC b) s))
def csL : List (Nat × D) → List Nat
  | [] => []
  | x :: l => x.1 :: csL l
/-- a loop whose rounds hand on some slots -/
theorem aw_loopV {ι : Type} (hm : P.follows .mixedOrders = true) (hcl : ClOK K P cl) {b r : ACode} {j : Nat} (car : ι → List (Nat × D)) (bl : ι → List (Nat × Blk)) (μ : ι → Nat) (i : ι)
    (round : ∀ i, AW cl (LoopA K P w0 ρ0 hp0) b (lst b (car i) (bl i) s) (RoundP K w0 ρ0 hp0 (fun i => lst b (car i) (bl i) s) μ i (blkP j (seqP cl (LoopA K P w0 ρ0 hp0) r Q))))
    (he : fgt (lessL (csL (car i)) (dstC b)) s = lst b (car i) (bl i) s := by kernel_rfl) : AW cl (LoopA K P w0 ρ0 hp0) (.seq (.block j (.loop b)) r) s Q :=
  aw_loop hm hcl (lessL (csL (car i)) (dstC b)) (fun i => lst b (car i) (bl i) s) μ i round he
/-- the same, with nothing behind it -/
theorem aw_loopE {ι : Type} (hm : P.follows .mixedOrders = true) (hcl : ClOK K P cl) {b : ACode} {j : Nat} (car : ι → List (Nat × D)) (bl : ι → List (Nat × Blk)) (μ : ι → Nat) (i : ι)
    (round : ∀ i, AW cl (LoopA K P w0 ρ0 hp0) b (lst b (car i) (bl i) s) (RoundP K w0 ρ0 hp0 (fun i => lst b (car i) (bl i) s) μ i (blkP j Q)))
    (he : fgt (lessL (csL (car i)) (dstC b)) s = lst b (car i) (bl i) s := by kernel_rfl) : AW cl (LoopA K P w0 ρ0 hp0) (.block j (.loop b)) s Q := by
  refine aw_block ⟨?_⟩
  refine loop_rule (Q := blkP j Q) hm hcl (fun i => lst b (car i) (bl i) s) μ (fun i => ?_) i (he ▸ Wk.fgt _ s)
  have := (round i).out
  have e : RoundP K w0 ρ0 hp0 (fun i => lst b (car i) (bl i) s) μ i (blkP j Q) = roundP K w0 ρ0 hp0 (fun i => lst b (car i) (bl i) s) μ i (blkP j Q) := by
    funext e s
    exact propext ⟨fun h => h.out, fun h => ⟨h⟩⟩
  rw [e] at this
  exact this
end
end Go.Ev
namespace Go.Ev
section
variable {K : Cust} {P : Program} {w0 : World} {ρ0 : List Own} {hp0 : List Blk} {s s0 : St} {Q : Ex → St → Prop}
theorem round_v {ι : Type} {b : ACode} {car : ι → List (Nat × D)} {bl : ι → List (Nat × Blk)} {μ : ι → Nat} {i : ι} (j : ι) (hj : μ j < μ i) (he : fgt (lessL (csL (car j)) (dstC b)) s = lst b (car j) (bl j) s0 := by kernel_rfl) :
    RoundP K w0 ρ0 hp0 (fun i => lst b (car i) (bl i) s0) μ i Q .normal s := round_end (lessL (csL (car j)) (dstC b)) j hj he
theorem round_wk {ι : Type} {st : ι → St} {μ : ι → Nat} {i : ι} {s1 : St} (hw : Wk K w0 ρ0 hp0 s s1) (h : RoundP K w0 ρ0 hp0 st μ i Q .normal s1) : RoundP K w0 ρ0 hp0 st μ i Q .normal s := by
  obtain ⟨j, hj, hw2⟩ := h.out
  exact ⟨j, hj, hw.trans hw2⟩
/-- blocks behind the first N are dropped -/
theorem round_t {ι : Type} {b : ACode} {car : ι → List (Nat × D)} {bl : ι → List (Nat × Blk)} {μ : ι → Nat} {i : ι} (N : Nat) (q1 q2 : Prop) (h1 : q1) (h2 : q2) (h : RoundP K w0 ρ0 hp0 (fun i => lst b (car i) (bl i) s0) μ i Q .normal (trim N (fgt (lessL (csL (car i)) (dstC b)) s)))
    (e1 : needS N (fgt (lessL (csL (car i)) (dstC b)) s).sl = q1 := by kernel_rfl) (e2 : needH N (s.hp.take N) = q2 := by kernel_rfl) (hb : Nat.ble s.base N = true := by kernel_rfl) (hl : Nat.ble N (lenG s.hp) = true := by kernel_rfl) :
    RoundP K w0 ρ0 hp0 (fun i => lst b (car i) (bl i) s0) μ i Q .normal s := by
  have hl' := Nat.le_of_ble_eq_true hl
  rw [lenG_eq] at hl'
  exact round_wk ((Wk.fgt _ s).trans (Wk.trim (s := fgt _ s) (Nat.le_of_ble_eq_true hb) hl' (needS_L (e1 ▸ h1)) (e2 ▸ h2))) h
/-- block p takes the place N, what lies behind is dropped -/
theorem round_g {ι : Type} {b : ACode} {car : ι → List (Nat × D)} {bl : ι → List (Nat × Blk)} {μ : ι → Nat} {i : ι} (N p : Nat) (q1 q2 q3 : Prop) (h1 : q1) (h2 : q2) (h3 : q3) (h : RoundP K w0 ρ0 hp0 (fun i => lst b (car i) (bl i) s0) μ i Q .normal (gather N p (fgt (lessL (csL (car i)) (dstC b)) s)))
    (e1 : needR N p (fgt (lessL (csL (car i)) (dstC b)) s).sl = q1 := by kernel_rfl) (e2 : needH N (s.hp.take N) = q2 := by kernel_rfl) (e3 : needB N (s.hp.getD p .dead) = q3 := by kernel_rfl) (hb : Nat.ble s.base N = true := by kernel_rfl) (hNp : Nat.ble N p = true := by kernel_rfl) (hl : Nat.ble (p + 1) (lenG s.hp) = true := by kernel_rfl) :
    RoundP K w0 ρ0 hp0 (fun i => lst b (car i) (bl i) s0) μ i Q .normal s := by
  have hl' := Nat.le_of_ble_eq_true hl
  rw [lenG_eq] at hl'
  exact round_wk ((Wk.fgt _ s).trans (Wk.gather (s := fgt _ s) (Nat.le_of_ble_eq_true hb) (Nat.le_of_ble_eq_true hNp) hl' (e1 ▸ h1) (e2 ▸ h2) (e3 ▸ h3))) h
theorem inRange_i64 {x : Int} : inRange .i64 x = (-9223372036854775808 ≤ x ∧ x ≤ 9223372036854775807) := by
  simp only [inRange, IntKind.min, IntKind.max, IntKind.signed, IntKind.bits]
  simp
end
end Go.Ev
end
section
namespace Go.Ev
/-! ### A function alone gives up all its blocks: what it hands back is told as rows that nobody changes -/
section
variable {hp : List Blk}
def FrzP (hp : List Blk) (d d' : D) : Prop := ∀ (K : Cust) (w : World) (ρ : List Own) (v : Value), OK K w ρ hp → Rep K (mask K w ρ) ρ d v → Rep K (mask K w [.fresh]) [.fresh] d' v
def FrzL (hp : List Blk) (ds ds' : List D) : Prop := ∀ (K : Cust) (w : World) (ρ : List Own) (vs : List Value), OK K w ρ hp → RepL K (mask K w ρ) ρ ds vs → RepL K (mask K w [.fresh]) [.fresh] ds' vs
theorem frz_free {d : D} (h : freeD d) : FrzP hp d d := fun K w ρ v _ hr => Rep.free (K := K) (K' := K) see_sub (fun t q v hc => K.mono _ _ _ _ _ see_sub hc) d v h hr
theorem frzL_nil : FrzL hp [] [] := fun K w ρ vs _ hr => by simpa only [RepL] using hr
theorem frzL_cons {d d' : D} {ds ds' : List D} (h : FrzP hp d d') (h2 : FrzL hp ds ds') : FrzL hp (d :: ds) (d' :: ds') := fun K w ρ vs hk hr => by
  simp only [RepL] at hr ⊢
  obtain ⟨x, r, rfl, h3, h4⟩ := hr
  exact ⟨x, r, rfl, h K w ρ x hk h3, h2 K w ρ r hk h4⟩
theorem frz_agg {ds ds' : List D} (h : FrzL hp ds ds') : FrzP hp (.agg ds) (.agg ds') := fun K w ρ v hk hr => by
  simp only [Rep] at hr ⊢
  obtain ⟨vs, rfl, h2⟩ := hr
  exact ⟨vs, rfl, h K w ρ vs hk h2⟩
theorem frz_tup {ds ds' : List D} (h : FrzL hp ds ds') : FrzP hp (.tup ds) (.tup ds') := fun K w ρ v hk hr => by
  simp only [Rep] at hr ⊢
  obtain ⟨vs, rfl, h2⟩ := hr
  exact ⟨vs, rfl, h K w ρ vs hk h2⟩
theorem own_block {K : Cust} {w : World} {ρ : List Own} {id : Nat} {x : Blk} (hk : OK K w ρ hp) (h : getG hp id = some x) (hd : x ≠ .dead) : ∃ b n, own ρ id = .live b n ∧ RepB K w (mask K w ρ) ρ (.live b n) x := by
  rw [getG_eq] at h
  have hb := hk.blk id x h
  cases ho : own ρ id with
  | live b n => rw [ho] at hb; exact ⟨b, n, rfl, hb⟩
  | fresh => rw [ho] at hb; cases x <;> first | exact absurd rfl hd | exact hb.elim
  | dead => rw [ho] at hb; cases x <;> first | exact absurd rfl hd | exact hb.elim
/-- a new array becomes a row -/
theorem frz_arr {id off len k m : Nat} {cap : Option Nat} {f : Nat → D} {g : Nat → List D} (hb : getG hp id = some (.arr m f) := by kernel_rfl)
    (h : ∀ i, i < len → ∀ j e, (g i)[j]? = some e → off + i * k + j < m ∧ FrzP hp (f (off + i * k + j)) e) : FrzP hp (.sl id off len k cap) (.row k len g) := fun K w ρ v hk hr => by
  obtain ⟨b, n, ho, hB⟩ := own_block hk hb (by intro e; cases e)
  simp only [Rep, ho] at hr
  obtain ⟨c, rfl, hlc, _⟩ := hr
  obtain ⟨vs, ty, q1, q2, q3, q4⟩ := hB
  have hnh := hk.apart id b n (own_live ho)
  have hcell := see_own q1 hnh
  simp only [Rep]
  refine .inr ⟨b, off, c, rfl, hlc, fun i hi => reads_C fun j e hj => ?_⟩
  obtain ⟨h1, h2⟩ := h i hi j e hj
  obtain ⟨x, p1, p2⟩ := q4 _ h1
  exact ⟨x, by rw [cell_of hcell]; exact p1, h2 K w ρ x hk p2⟩
theorem frz_cells {id off len k : Nat} {cap : Option Nat} {cs : List D} {g : Nat → List D} (hb : getG hp id = some (.cells cs) := by kernel_rfl)
    (h : ∀ i, i < len → ∀ j e, (g i)[j]? = some e → ∃ d, cs[off + i * k + j]? = some d ∧ FrzP hp d e) : FrzP hp (.sl id off len k cap) (.row k len g) := fun K w ρ v hk hr => by
  obtain ⟨b, n, ho, hB⟩ := own_block hk hb (by intro e; cases e)
  simp only [Rep, ho] at hr
  obtain ⟨c, rfl, hlc, _⟩ := hr
  obtain ⟨vs, ty, q1, q2, q3⟩ := hB
  have hnh := hk.apart id b n (own_live ho)
  have hcell := see_own q1 hnh
  simp only [Rep]
  refine .inr ⟨b, off, c, rfl, hlc, fun i hi => reads_C fun j e hj => ?_⟩
  obtain ⟨d, h1, h2⟩ := h i hi j e hj
  obtain ⟨x, p1, p2⟩ := q3 _ _ h1
  exact ⟨x, by rw [cell_of hcell]; exact p1, h2 K w ρ x hk p2⟩
/-- what is nil, or empty, is an empty row -/
theorem frz_nil {k : Nat} {g : Nat → List D} : FrzP hp (.val (.slice none 0 0)) (.row k 0 g) := fun K w ρ v _ hr => by
  simp only [Rep] at hr ⊢
  exact .inl ⟨hr, trivial⟩
end
section
variable {P : Program} {cl : FuncId → List D → List Blk → Nat → Option Out}
/-- the end of a function alone, whose result is told as rows -/
structure EndF (fn : AFun) (d : D) (e : Ex) (s : St) : Prop where
  out : exD e = true ∧ ∃ ds, resD s fn.results = some ds ∧ FrzP s.hp (tupD ds) d
theorem end_f {fn : AFun} {d : D} {e : Ex} {s : St} (r : D) (h : FrzP s.hp r d) (he : exD e = true := by kernel_rfl) (hr : (resD s fn.results).map tupD = some r := by kernel_rfl) : EndF fn d e s := by
  refine ⟨he, ?_⟩
  cases hres : resD s fn.results with
  | none => rw [hres] at hr; cases hr
  | some ds =>
    rw [hres] at hr
    obtain rfl := Option.some.inj hr
    exact ⟨ds, rfl, h⟩
theorem Alone.ofF {f : FuncId} {fn : AFun} (hm : P.follows .mixedOrders = true) (hcl : ∀ K, ClOK K P cl) (hf : compF P f = some fn) {ds : List D} {d : D}
    (h : ∀ K w, AW cl (LoopA K P w [.fresh] [.dead]) fn.body (startF fn ds [.dead]) (EndF fn d)) : Alone P f ds d := by
  intro K w args hk hr
  have hcl := hcl K
  unfold compF at hf
  split at hf
  · rename_i fu hfn
    split at hf
    · rename_i c hbody
      split at hf
      · rename_i ab rs hab hrs hname
        cases hf
        refine calls_of_wp hfn hbody (wp_mono (aw_ok hm hcl c ab _ _ hab (h K w).out w [.fresh] _ (Inv.init hk hr)) fun x a' w' hx => ?_)
        obtain ⟨e, s', ρ', rfl, hI, hq⟩ := hx
        obtain ⟨hex, rds, hrd, hF⟩ := hq.out
        obtain ⟨v, hv1, hv2⟩ := results_ok (fn := fu) hI.okHp hI.slots hrs hrd
        have hkeep : ∀ b : Nat, b < w.heap.size → w'.heap[b]? = w.heap[b]? := fun b hb => hI.keep b hb fun i n hi => by cases i <;> simp at hi
        have hres : Res K w [.fresh] [.dead] 0 ⟨none, d, [], []⟩ v w' := ⟨[.fresh], hF K w' ρ' v hI.okHp hv2, Eff.foreign hI.size hkeep hI.env⟩
        cases e with
        | normal => exact ⟨hI.defers, v, hv1, v, rfl, hres⟩
        | ret => exact ⟨hI.defers, v, hv1, v, rfl, hres⟩
        | exit i => simp [exD] at hex
      · cases hf
    · cases hf
  · cases hf
end
end Go.Ev
end
