import Derived.Test.YtmekepomgofiaaaEvZh
set_option linter.all false
namespace Go.Ev
/-! ### Blocks at the end that nobody names are dropped -/
mutual
/-- names own blocks below N alone -/
def needD (N : Nat) : D → Prop
  | .ptr id _ => id < N
  | .sl id _ _ _ _ => id < N
  | .map id => id < N
  | .row _ len f => ∀ i, i < len → needL N (f i)
  | .ref cs _ => needL N cs
  | .agg ds => needL N ds
  | .tup ds => needL N ds
  | .fn _ a b => needL N a ∧ needL N b
  | .iface _ d => needD N d
  | _ => True
def needL (N : Nat) : List D → Prop
  | [] => True
  | d :: ds => needD N d ∧ needL N ds
end
theorem own_take {ρ : List Own} {N i : Nat} (h : i < N) : own (ρ.take N) i = own ρ i := by
  unfold own
  rw [List.getD_eq_getElem?_getD, List.getD_eq_getElem?_getD, List.getElem?_take, if_pos h]
mutual
theorem need_rep {K : Cust} {M M' : World} {ρ : List Own} {N : Nat} (hs : Sub M M') : ∀ (d : D) (v : Value), needD N d → Rep K M ρ d v → Rep K M' (ρ.take N) d v
  | .any, _, _, _ => trivial
  | .val _, _, _, h => h
  | .ptr id off, v, g, h => by
    simp only [needD] at g
    simp only [Rep, own_take g] at *
    exact h
  | .sl id off len k cap, v, g, h => by
    simp only [needD] at g
    simp only [Rep, own_take g] at *
    exact h
  | .map id, v, g, h => by
    simp only [needD] at g
    simp only [Rep, own_take g] at *
    exact h
  | .row k len f, v, g, h => by
    simp only [needD] at g
    simp only [Rep] at *
    exact h.imp id fun ⟨b, o, c, h1, h2, h3⟩ => ⟨b, o, c, h1, h2, fun i hi => need_repC hs (f i) b _ (g i hi) (h3 i hi)⟩
  | .ref cs off, v, g, h => by
    simp only [needD] at g
    simp only [Rep] at *
    exact let ⟨b, o, h1, h2⟩ := h; ⟨b, o, h1, need_repC hs cs b o g h2⟩
  | .agg ds, v, g, h => by
    simp only [needD] at g
    simp only [Rep] at *
    exact let ⟨vs, h1, h2⟩ := h; ⟨vs, h1, need_repL hs ds vs g h2⟩
  | .tup ds, v, g, h => by
    simp only [needD] at g
    simp only [Rep] at *
    exact let ⟨vs, h1, h2⟩ := h; ⟨vs, h1, need_repL hs ds vs g h2⟩
  | .fn _ a b, v, g, h => by
    simp only [needD] at g
    simp only [Rep] at *
    exact let ⟨x, y, h1, h2, h3⟩ := h; ⟨x, y, h1, need_repL hs a x g.1 h2, need_repL hs b y g.2 h3⟩
  | .iface _ d, v, g, h => by
    simp only [needD] at g
    simp only [Rep] at *
    exact let ⟨x, h1, h2⟩ := h; ⟨x, h1, need_rep hs d x g h2⟩
  | .cust t q, v, _, h => by
    simp only [Rep] at *
    exact K.mono _ _ _ _ _ hs h
  | .emp z, v, _, h => by
    simp only [Rep] at *
    exact h
theorem need_repC {K : Cust} {M M' : World} {ρ : List Own} {N : Nat} (hs : Sub M M') : ∀ (ds : List D) (b o : Nat), needL N ds → RepC K M ρ ds b o → RepC K M' (ρ.take N) ds b o
  | [], _, _, _, _ => by simp only [RepC]
  | d :: ds, b, o, g, h => by
    simp only [needL] at g
    simp only [RepC] at *
    exact let ⟨⟨x, h1, h2⟩, h3⟩ := h; ⟨⟨x, hs.cell h1, need_rep hs d x g.1 h2⟩, need_repC hs ds b (o + 1) g.2 h3⟩
theorem need_repL {K : Cust} {M M' : World} {ρ : List Own} {N : Nat} (hs : Sub M M') : ∀ (ds : List D) (vs : List Value), needL N ds → RepL K M ρ ds vs → RepL K M' (ρ.take N) ds vs
  | [], _, _, h => by simpa only [RepL] using h
  | d :: ds, vs, g, h => by
    simp only [needL] at g
    simp only [RepL] at *
    exact let ⟨x, r, h1, h2, h3⟩ := h; ⟨x, r, h1, need_rep hs d x g.1 h2, need_repL hs ds r g.2 h3⟩
end
theorem needL_get {N : Nat} : ∀ {ds : List D}, needL N ds → ∀ (i : Nat) (d : D), ds[i]? = some d → needD N d
  | [], _, i, d, h => by simp at h
  | e :: ds, g, i, d, h => by
    simp only [needL] at g
    cases i with
    | zero => simp at h; exact h ▸ g.1
    | succ i => exact needL_get g.2 i d (by simpa using h)
def needB (N : Nat) : Blk → Prop
  | .dead => True
  | .cells cs => needL N cs
  | .map es => ∀ (j : Nat) (k : Value) (d : D), es[j]? = some (k, d) → needD N d
  | .arr n f => ∀ j, j < n → needD N (f j)
theorem needB_rep {K : Cust} {w M M' : World} {ρ : List Own} {N b m : Nat} {x : Blk} (hs : Sub M M') (g : needB N x) (h : RepB K w M ρ (.live b m) x) : RepB K w M' (ρ.take N) (.live b m) x := by
  cases x with
  | dead => trivial
  | cells cs =>
    obtain ⟨vs, ty, h1, h2, h3⟩ := h
    refine ⟨vs, ty, h1, h2, fun j d hj => ?_⟩
    obtain ⟨v, q1, q2⟩ := h3 j d hj
    exact ⟨v, q1, need_rep hs d v (needL_get g j d hj) q2⟩
  | map es =>
    obtain ⟨ents, cl, h1, h2, h3, h4⟩ := h
    refine ⟨ents, cl, h1, h2, h3, fun j k d hj => ?_⟩
    obtain ⟨e, q1, q2, q3⟩ := h4 j k d hj
    exact ⟨e, q1, q2, need_rep hs d _ (g j k d hj) q3⟩
  | arr n f =>
    obtain ⟨vs, ty, h1, h2, h3, h4⟩ := h
    refine ⟨vs, ty, h1, h2, h3, fun j hj => ?_⟩
    obtain ⟨v, q1, q2⟩ := h4 j hj
    exact ⟨v, q1, need_rep hs _ v (g j hj) q2⟩
/-- the same, without what is plain -/
def needS (N : Nat) : List D → Prop
  | [] => True
  | d :: l => match d with
    | .any => needS N l
    | .val _ => needS N l
    | .tup [] => needS N l
    | .ptr id _ => (match Nat.ble (id + 1) N with | true => needS N l | false => False)
    | .sl id _ _ _ _ => (match Nat.ble (id + 1) N with | true => needS N l | false => False)
    | d => needD N d ∧ needS N l
theorem needS_L {N : Nat} : ∀ {l : List D}, needS N l → needL N l
  | [], _ => trivial
  | d :: l, h => by
    unfold needS at h
    simp only [needL]
    split at h
    · exact ⟨trivial, needS_L h⟩
    · exact ⟨trivial, needS_L h⟩
    · exact ⟨trivial, needS_L h⟩
    · split at h
      · rename_i hb
        exact ⟨Nat.le_of_ble_eq_true hb, needS_L h⟩
      · exact h.elim
    · split at h
      · rename_i hb
        exact ⟨Nat.le_of_ble_eq_true hb, needS_L h⟩
      · exact h.elim
    · exact ⟨h.1, needS_L h.2⟩
def needH (N : Nat) : List Blk → Prop
  | [] => True
  | x :: l => match x with
    | .dead => needH N l
    | .cells cs => needS N cs ∧ needH N l
    | x => needB N x ∧ needH N l
theorem needH_get {N : Nat} : ∀ {l : List Blk}, needH N l → ∀ (i : Nat) (x : Blk), l[i]? = some x → needB N x
  | [], _, i, x, h => by simp at h
  | y :: l, g, i, x, h => by
    unfold needH at g
    cases i with
    | zero =>
      simp at h
      subst h
      split at g
      · trivial
      · exact needS_L g.1
      · exact g.1
    | succ i =>
      have h' : l[i]? = some x := by simpa using h
      split at g
      · exact needH_get g i x h'
      · exact needH_get g.2 i x h'
      · exact needH_get g.2 i x h'
def trim (N : Nat) (s : St) : St := ⟨True, s.sl, s.hp.take N, s.base, s.wr⟩
section
variable {K : Cust} {P : Program} {w w0 : World} {ρ ρ0 : List Own} {hp0 : List Blk} {a : Act} {s : St}
theorem Wk.trim {N : Nat} (hN : s.base ≤ N) (hNl : N ≤ s.hp.length) (hsl : needL N s.sl) (hh : needH N (s.hp.take N)) : Wk K w0 ρ0 hp0 s (trim N s) := by
  intro w ρ a h
  have hbase := h.base
  have hrlen := h.rlen
  have hblen := h.blen
  have hlive : ∀ b, isLive K (ρ.take N) b → isLive K ρ b := by
    rintro b (hb | ⟨i, n, hi⟩)
    · exact .inl hb
    · rw [List.getElem?_take] at hi
      split at hi
      · exact .inr ⟨i, n, hi⟩
      · cases hi
  have hs : Sub (mask K w ρ) (mask K w (ρ.take N)) := sub_mask hlive
  have get : ∀ j : Nat, j < N → (s.hp.take N)[j]? = s.hp[j]? := fun j hj => by rw [List.getElem?_take, if_pos hj]
  have h0l : ρ0.length = hp0.length := h.start.len
  have rget : ∀ j : Nat, j < N → (ρ.take N)[j]? = ρ[j]? := fun j hj => by rw [List.getElem?_take, if_pos hj]
  refine ⟨ρ.take N, h.size, h.keep, fun b hb => h.new b (hlive b hb), fun i => ?_, by simp [Go.Ev.trim]; omega, hbase, by simp [Go.Ev.trim]; omega, fun i hi hw => ?_, fun i h1 h2 => ?_, fun hp2 hle hk => ?_, fun i hi => ?_, ⟨h.slots.1, fun i d hi => ?_⟩, h.defers, h.start, h.env⟩
  · rcases Nat.lt_or_ge i N with hi | hi
    · rw [own_take hi]; exact h.le i
    · have : own ρ0 i = .fresh := by
        unfold own
        rw [List.getD_eq_getElem?_getD, List.getElem?_eq_none (by omega)]
        rfl
      rw [this]
      trivial
  · exact (get i (by omega)).trans (h.same i hi hw)
  · obtain ⟨q1, q2, q3⟩ := h.hid i h1 h2
    have : i < hp0.length := (List.getElem?_eq_some_iff.1 h1).1
    exact ⟨(get i (by omega)).trans q1, q2, (rget i (by omega)).trans q3⟩
  · have hok := h.ok hp2 hle hk
    have hl2 : s.base = hp2.length := by rw [hbase]; exact hle.1
    have hov : ∀ i : Nat, i < N → (over (Go.Ev.trim N s) hp2)[i]? = (over s hp2)[i]? := fun i hi => by
      have e1 : (over (Go.Ev.trim N s) hp2)[i]? = if i < s.base then (if i ∈ s.wr then (s.hp.take N)[i]? else hp2[i]?) else (s.hp.take N)[i]? :=
        over_get (s := Go.Ev.trim N s) (hp2 := hp2) hl2 (by simp [Go.Ev.trim]; omega) i
      have e2 := over_get (s := s) (hp2 := hp2) hl2 (by omega) i
      rw [e1, e2, get i hi]
    have hlen : (over (Go.Ev.trim N s) hp2).length = N := by
      unfold over
      simp only [List.length_append, app_length, List.length_drop, Go.Ev.trim, List.length_take]
      omega
    refine ⟨by rw [hlen]; simp; omega, fun i b n hi => ?_, fun i j b n m h1 h2 => ?_, fun i x hx => ?_, hok.hid, fun i b n hi => ?_⟩
    · rw [List.getElem?_take] at hi
      split at hi
      · exact hok.lt i b n hi
      · cases hi
    · rw [List.getElem?_take] at h1 h2
      split at h1
      · split at h2
        · exact hok.inj i j b n m h1 h2
        · cases h2
      · cases h1
    · have hi : i < N := by
        have := (List.getElem?_eq_some_iff.1 hx).1
        omega
      have hx' := (hov i hi).symm.trans hx
      have hr := hok.blk i x hx'
      rw [own_take hi]
      cases x with
      | dead => cases own ρ i <;> trivial
      | _ =>
        cases ho : own ρ i with
        | live b m =>
          rw [ho] at hr
          by_cases hib : i < s.base
          · have e2 := over_get (s := s) (hp2 := hp2) hl2 (by omega) i
            rw [if_pos hib] at e2
            split at e2
            · refine needB_rep hs ?_ hr
              exact needH_get hh i _ ((get i hi).trans (e2.symm.trans hx'))
            · rename_i hw
              have h0 := hk.blk i _ (e2.symm.trans hx')
              refine oldB_rep (ρ0 := ρ0) hs (fun j hj hne => own_take (by omega)) h0 hr
          · have e2 := over_get (s := s) (hp2 := hp2) hl2 (by omega) i
            rw [if_neg hib] at e2
            refine needB_rep hs ?_ hr
            exact needH_get hh i _ ((get i hi).trans (e2.symm.trans hx'))
        | fresh => rw [ho] at hr; exact hr.elim
        | dead => rw [ho] at hr; exact hr.elim
    · rw [List.getElem?_take] at hi
      split at hi
      · exact hok.apart i b n hi
      · cases hi
  · have : i < ρ0.length := (List.getElem?_eq_some_iff.1 hi).1
    exact (rget i (by omega)).trans (h.fr i hi)
  · obtain ⟨v, h1, h2⟩ := h.slots.2 i d hi
    exact ⟨v, h1, need_rep hs d v (needL_get hsl i d hi) h2⟩
/-- the end of a round, with blocks dropped behind the first N -/
theorem round_endT {ι : Type} (N : Nat) (idx : List Nat) {st : ι → St} {μ : ι → Nat} {i : ι} {Q : Ex → St → Prop} (j : ι) (hj : μ j < μ i) (q1 q2 : Prop) (h1 : q1) (h2 : q2)
    (he : trim N (fgt idx s) = st j) (e1 : needS N (fgt idx s).sl = q1) (e2 : needH N (s.hp.take N) = q2) (hb : Nat.ble s.base N = true) (hl : Nat.ble N (lenG s.hp) = true) : RoundP K w0 ρ0 hp0 st μ i Q .normal s := by
  refine ⟨⟨j, hj, ?_⟩⟩
  rw [← he]
  have hl' := Nat.le_of_ble_eq_true hl
  rw [lenG_eq] at hl'
  refine (Wk.fgt idx s).trans (Wk.trim (s := fgt idx s) (Nat.le_of_ble_eq_true hb) hl' (needS_L (e1 ▸ h1)) (e2 ▸ h2))
end
end Go.Ev
