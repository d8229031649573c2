import Derived.Test.YtmekepomgofiaaaEvZc
set_option linter.all false
namespace Go.Ev
/-! ### A call in a heap of its own: the caller's blocks are hidden -/
mutual
/-- names no own block -/
def freeD : D → Prop
  | .ptr .. => False
  | .sl .. => False
  | .map _ => False
  | .row _ _ f => ∀ i, freeL (f i)
  | .ref cs _ => freeL cs
  | .agg ds => freeL ds
  | .tup ds => freeL ds
  | .fn _ a b => freeL a ∧ freeL b
  | .iface _ d => freeD d
  | _ => True
def freeL : List D → Prop
  | [] => True
  | d :: ds => freeD d ∧ freeL ds
end
mutual
theorem Rep.free {K K' : Cust} {M M' : World} {ρ ρ' : List Own} (hs : Sub M M') (hC : ∀ t q v, K.C t q M v → K'.C t q M' v) : ∀ (d : D) (v : Value), freeD d → Rep K M ρ d v → Rep K' M' ρ' d v
  | .any, _, _, _ => trivial
  | .val _, _, _, h => h
  | .ptr .., _, g, _ => g.elim
  | .sl .., _, g, _ => g.elim
  | .map _, _, g, _ => g.elim
  | .row k len f, v, g, h => by
    simp only [freeD] at g
    simp only [Rep] at *
    exact h.imp id fun ⟨b, o, c, h1, h2, h3⟩ => ⟨b, o, c, h1, h2, fun i hi => RepC.free hs hC (f i) b _ (g i) (h3 i hi)⟩
  | .ref cs off, v, g, h => by
    simp only [freeD] at g
    simp only [Rep] at *
    exact let ⟨b, o, h1, h2⟩ := h; ⟨b, o, h1, RepC.free hs hC cs b o g h2⟩
  | .agg ds, v, g, h => by
    simp only [freeD] at g
    simp only [Rep] at *
    exact let ⟨vs, h1, h2⟩ := h; ⟨vs, h1, RepL.free hs hC ds vs g h2⟩
  | .tup ds, v, g, h => by
    simp only [freeD] at g
    simp only [Rep] at *
    exact let ⟨vs, h1, h2⟩ := h; ⟨vs, h1, RepL.free hs hC ds vs g h2⟩
  | .fn f a b, v, g, h => by
    simp only [freeD] at g
    simp only [Rep] at *
    exact let ⟨x, y, h1, h2, h3⟩ := h; ⟨x, y, h1, RepL.free hs hC a x g.1 h2, RepL.free hs hC b y g.2 h3⟩
  | .iface t d, v, g, h => by
    simp only [freeD] at g
    simp only [Rep] at *
    exact let ⟨x, h1, h2⟩ := h; ⟨x, h1, Rep.free hs hC d x g h2⟩
  | .cust t q, v, _, h => by
    simp only [Rep] at *
    exact hC _ _ _ h
  | .emp z, v, _, h => by
    simp only [Rep] at *
    exact h
theorem RepC.free {K K' : Cust} {M M' : World} {ρ ρ' : List Own} (hs : Sub M M') (hC : ∀ t q v, K.C t q M v → K'.C t q M' v) : ∀ (ds : List D) (b o : Nat), freeL ds → RepC K M ρ ds b o → RepC K' M' ρ' ds b o
  | [], _, _, _, _ => by simp only [RepC]
  | d :: ds, b, o, g, h => by
    simp only [freeL] at g
    simp only [RepC] at *
    exact let ⟨⟨x, h1, h2⟩, h3⟩ := h; ⟨⟨x, hs.cell h1, Rep.free hs hC d x g.1 h2⟩, RepC.free hs hC ds b (o + 1) g.2 h3⟩
theorem RepL.free {K K' : Cust} {M M' : World} {ρ ρ' : List Own} (hs : Sub M M') (hC : ∀ t q v, K.C t q M v → K'.C t q M' v) : ∀ (ds : List D) (vs : List Value), freeL ds → RepL K M ρ ds vs → RepL K' M' ρ' ds vs
  | [], _, _, h => by simpa only [RepL] using h
  | d :: ds, vs, g, h => by
    simp only [freeL] at g
    simp only [RepL] at *
    exact let ⟨x, r, h1, h2, h3⟩ := h; ⟨x, r, h1, Rep.free hs hC d x g.1 h2, RepL.free hs hC ds r g.2 h3⟩
end
/-- all that is the caller's own is hidden -/
def hideC (K : Cust) (ρ : List Own) : Cust := { K with hid := isLive K ρ }
section
variable {K : Cust} {P : Program} {w w' : World} {ρ : List Own} {hp : List Blk} {nid : Nat}
theorem hideC_sub : Sub (mask K w ρ) (mask (hideC K ρ) w [.fresh]) := fun b cs ty fr h => by
  rw [mask_some] at *
  refine ⟨?_, h.2⟩
  rintro (hh | ⟨i, n, hi⟩)
  · exact h.1 hh
  · cases i <;> simp at hi
theorem hideC_sub' {ρ' : List Own} : Sub (mask (hideC K ρ) w ρ') (mask K w ρ) := fun b cs ty fr h => by
  rw [mask_some] at *
  exact ⟨fun hl => h.1 (.inl hl), h.2⟩
theorem OK.hide (hk : OK K w ρ hp) : OK (hideC K ρ) w [.fresh] [.dead] := by
  refine ⟨rfl, fun i b n hi => ?_, fun i j b n m hi => ?_, fun i x hx => ?_, fun b hb => ?_, fun i b n hi => ?_⟩
  · cases i <;> simp at hi
  · cases i <;> simp at hi
  · cases i with
    | zero => simp at hx; subst hx; trivial
    | succ i => simp at hx
  · rcases hb with hb | ⟨i, n, hi⟩
    · exact hk.hid b hb
    · exact hk.lt i b n hi
  · cases i <;> simp at hi
theorem Res.unhide {p : Option Prop} {d : D} {v : Value} (hk : OK K w ρ hp) (hd : freeD d) (h : Res (hideC K ρ) w [.fresh] [.dead] 0 ⟨p, d, [], []⟩ v w') : Res K w ρ hp nid ⟨p, d, [], []⟩ v w' := by
  obtain ⟨ρ1, h1, h2⟩ := h
  have hkeep : ∀ b : Nat, b < w.heap.size → w'.heap[b]? = w.heap[b]? := fun b hb => h2.keep b hb fun i n hi => by cases i <;> simp at hi
  have hm : Sub (mask K w ρ) (mask K w' ρ) := fun b cs ty fr hb => by
    rw [mask_some] at *
    exact ⟨hb.1, by rw [hkeep b (lt_of_cells hb.2)]; exact hb.2⟩
  refine ⟨ρ, Rep.free (K := hideC K ρ) (K' := K) hideC_sub' (fun t q v hc => K.mono _ _ _ _ _ hideC_sub' hc) d v hd h1, h2.size, fun b hb _ => hkeep b hb, fun b hb => .inl hb, rfl, OwnLe.refl ρ, fun hp2 _ hk2 => ?_, fun i _ _ => ⟨fun x hx => (by cases hx), rfl⟩, fun i h _ => h, h2.env⟩
  show OK K w' ρ (hp2 ++ [])
  rw [List.append_nil]
  exact ⟨hk2.len, fun i b n hi => Nat.lt_of_lt_of_le (hk2.lt i b n hi) h2.size, hk2.inj, fun i x hx => (hk2.blk i x hx).mono hm (OwnLe.refl ρ) (fun b n ho => hkeep b (hk2.lt i b n (own_live ho))), fun b hb => Nat.lt_of_lt_of_le (hk2.hid b hb) h2.size, hk2.apart⟩
/-- what a function does that sees no own block and makes none that stays, told in a heap of its own -/
def Alone (P : Program) (f : FuncId) (ds : List D) (d : D) : Prop :=
  ∀ (K : Cust) (w : World) (args : List Value), OK K w [.fresh] [.dead] → RepL K (mask K w [.fresh]) [.fresh] ds args →
    Calls P f args.toArray w fun e w' => ∃ v, e = .returned v ∧ Res K w [.fresh] [.dead] 0 ⟨none, d, [], []⟩ v w'
/-- it is so in every heap -/
theorem Alone.contract {f : FuncId} (henter : ∀ args w, (callFunc f args).run P w = .ok (.enter f args) w) (r : List D → Option (Option Prop × D))
    (h : ∀ ds p d, r ds = some (p, d) → (∀ q, p = some q → q) → freeL ds ∧ freeD d ∧ Alone P f ds d) : Contract K P f (fun ds _ _ => match r ds with | some (p, d) => some ⟨p, d, [], []⟩ | none => none) := by
  refine ⟨henter, fun ds hp nid out ho hc w ρ args hk hr hn => ?_⟩
  dsimp only at ho
  split at ho
  · rename_i p d hd
    cases ho
    obtain ⟨h1, h2, h3⟩ := h ds p d hd hc
    refine (h3 (hideC K ρ) w args hk.hide (RepL.free (K := K) (K' := hideC K ρ) hideC_sub (fun t q v hc => K.mono _ _ _ _ _ hideC_sub hc) ds args h1 hr)).mono fun e w' hx => ?_
    obtain ⟨v, rfl, hres⟩ := hx
    obtain ⟨ρ', g1, g2⟩ := Res.unhide (nid := nid) hk h2 hres
    exact ⟨v, rfl, ρ', g1, g2⟩
  · cases ho
/-- what is told less -/
def Less (ds ds' : List D) : Prop := ∀ (K : Cust) (M : World) (ρ : List Own) (args : List Value), RepL K M ρ ds args → RepL K M ρ ds' args
theorem Less.refl (ds : List D) : Less ds ds := fun _ _ _ _ h => h
theorem Less.cons {d d' : D} {ds ds' : List D} (h1 : ∀ (K : Cust) (M : World) (ρ : List Own) (v : Value), Rep K M ρ d v → Rep K M ρ d' v) (h2 : Less ds ds') : Less (d :: ds) (d' :: ds') := fun K M ρ args h => by
  simp only [RepL] at *
  obtain ⟨x, r, rfl, g1, g2⟩ := h
  exact ⟨x, r, rfl, h1 K M ρ x g1, h2 K M ρ r g2⟩
theorem Less.any {d : D} {ds ds' : List D} (h : Less ds ds') : Less (d :: ds) (.any :: ds') := .cons (fun _ _ _ _ _ => by simp [Rep]) h
theorem Less.same {d : D} {ds ds' : List D} (h : Less ds ds') : Less (d :: ds) (d :: ds') := .cons (fun _ _ _ _ h => h) h
theorem Less.agg {as bs ds ds' : List D} (h1 : Less as bs) (h : Less ds ds') : Less (.agg as :: ds) (.agg bs :: ds') := .cons (fun K M ρ v hv => by
  simp only [Rep] at *
  obtain ⟨vs, rfl, hr⟩ := hv
  exact ⟨vs, rfl, h1 K M ρ vs hr⟩) h
/-- it is so in every heap; of the arguments only a part is told -/
theorem Alone.contract' {f : FuncId} (henter : ∀ args w, (callFunc f args).run P w = .ok (.enter f args) w) (r : List D → Option (Option Prop × D))
    (h : ∀ ds p d, r ds = some (p, d) → (∀ q, p = some q → q) → ∃ ds', Less ds ds' ∧ freeL ds' ∧ freeD d ∧ Alone P f ds' d) : Contract K P f (fun ds _ _ => match r ds with | some (p, d) => some ⟨p, d, [], []⟩ | none => none) := by
  refine ⟨henter, fun ds hp nid out ho hc w ρ args hk hr hn => ?_⟩
  dsimp only at ho
  split at ho
  · rename_i p d hd
    cases ho
    obtain ⟨ds', hl, h1, h2, h3⟩ := h ds p d hd hc
    refine (h3 (hideC K ρ) w args hk.hide (RepL.free (K := K) (K' := hideC K ρ) hideC_sub (fun t q v hc => K.mono _ _ _ _ _ hideC_sub hc) ds' args h1 (hl K _ _ _ hr))).mono fun e w' hx => ?_
    obtain ⟨v, rfl, hres⟩ := hx
    obtain ⟨ρ', g1, g2⟩ := Res.unhide (nid := nid) hk h2 hres
    exact ⟨v, rfl, ρ', g1, g2⟩
  · cases ho
/-- by symbolic evaluation -/
theorem Alone.of {cl : FuncId → List D → List Blk → Nat → Option Out} {f : FuncId} {fn : AFun} {raw : Bool} (hm : P.follows .mixedOrders = true) (hcl : ∀ K, ClOK K P cl) (hf : compF P f = some fn) {ds : List D} {d : D}
    (h : ∀ K w, aw cl (LoopA K P w [.fresh] [.dead]) fn.body (startF fn ds [.dead]) (exitW raw 0 fn fun o => o = ⟨none, d, [], []⟩)) : Alone P f ds d := by
  intro K w args hk hr
  refine ((fun_ok (cl := cl) hm (hcl K) hf).2 (raw := raw) (nid := 0) (R := fun o => o = ⟨none, d, [], []⟩) (fun _ _ h => exitW_p h) (h K w) hk hr rfl).mono fun e w' hx => ?_
  · obtain ⟨v, o, he, rfl, hres⟩ := hx
    exact ⟨v, he, hres⟩
end
end Go.Ev
