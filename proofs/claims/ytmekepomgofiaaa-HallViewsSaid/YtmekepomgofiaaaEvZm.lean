import Derived.Test.YtmekepomgofiaaaEvZl
set_option linter.all false
namespace Go.Ev
/-! ### A function alone gives up all its blocks: what it hands back is told as rows that nobody changes -/
section
variable {hp : List Blk}
def FrzP (hp : List Blk) (d d' : D) : Prop := ∀ (K : Cust) (w : World) (ρ : List Own) (v : Value), OK K w ρ hp → Rep K (mask K w ρ) ρ d v → Rep K (mask K w [.fresh]) [.fresh] d' v
def FrzL (hp : List Blk) (ds ds' : List D) : Prop := ∀ (K : Cust) (w : World) (ρ : List Own) (vs : List Value), OK K w ρ hp → RepL K (mask K w ρ) ρ ds vs → RepL K (mask K w [.fresh]) [.fresh] ds' vs
theorem frz_free {d : D} (h : freeD d) : FrzP hp d d := fun K w ρ v _ hr => Rep.free (K := K) (K' := K) see_sub (fun t q v hc => K.mono _ _ _ _ _ see_sub hc) d v h hr
theorem frzL_nil : FrzL hp [] [] := fun K w ρ vs _ hr => by simpa only [RepL] using hr
theorem frzL_cons {d d' : D} {ds ds' : List D} (h : FrzP hp d d') (h2 : FrzL hp ds ds') : FrzL hp (d :: ds) (d' :: ds') := fun K w ρ vs hk hr => by
  simp only [RepL] at hr ⊢
  obtain ⟨x, r, rfl, h3, h4⟩ := hr
  exact ⟨x, r, rfl, h K w ρ x hk h3, h2 K w ρ r hk h4⟩
theorem frz_agg {ds ds' : List D} (h : FrzL hp ds ds') : FrzP hp (.agg ds) (.agg ds') := fun K w ρ v hk hr => by
  simp only [Rep] at hr ⊢
  obtain ⟨vs, rfl, h2⟩ := hr
  exact ⟨vs, rfl, h K w ρ vs hk h2⟩
theorem frz_tup {ds ds' : List D} (h : FrzL hp ds ds') : FrzP hp (.tup ds) (.tup ds') := fun K w ρ v hk hr => by
  simp only [Rep] at hr ⊢
  obtain ⟨vs, rfl, h2⟩ := hr
  exact ⟨vs, rfl, h K w ρ vs hk h2⟩
theorem own_block {K : Cust} {w : World} {ρ : List Own} {id : Nat} {x : Blk} (hk : OK K w ρ hp) (h : getG hp id = some x) (hd : x ≠ .dead) : ∃ b n, own ρ id = .live b n ∧ RepB K w (mask K w ρ) ρ (.live b n) x := by
  rw [getG_eq] at h
  have hb := hk.blk id x h
  cases ho : own ρ id with
  | live b n => rw [ho] at hb; exact ⟨b, n, rfl, hb⟩
  | fresh => rw [ho] at hb; cases x <;> first | exact absurd rfl hd | exact hb.elim
  | dead => rw [ho] at hb; cases x <;> first | exact absurd rfl hd | exact hb.elim
/-- a new array becomes a row -/
theorem frz_arr {id off len k m : Nat} {cap : Option Nat} {f : Nat → D} {g : Nat → List D} (hb : getG hp id = some (.arr m f) := by kernel_rfl)
    (h : ∀ i, i < len → ∀ j e, (g i)[j]? = some e → off + i * k + j < m ∧ FrzP hp (f (off + i * k + j)) e) : FrzP hp (.sl id off len k cap) (.row k len g) := fun K w ρ v hk hr => by
  obtain ⟨b, n, ho, hB⟩ := own_block hk hb (by intro e; cases e)
  simp only [Rep, ho] at hr
  obtain ⟨c, rfl, hlc, _⟩ := hr
  obtain ⟨vs, ty, q1, q2, q3, q4⟩ := hB
  have hnh := hk.apart id b n (own_live ho)
  have hcell := see_own q1 hnh
  simp only [Rep]
  refine .inr ⟨b, off, c, rfl, hlc, fun i hi => reads_C fun j e hj => ?_⟩
  obtain ⟨h1, h2⟩ := h i hi j e hj
  obtain ⟨x, p1, p2⟩ := q4 _ h1
  exact ⟨x, by rw [cell_of hcell]; exact p1, h2 K w ρ x hk p2⟩
theorem frz_cells {id off len k : Nat} {cap : Option Nat} {cs : List D} {g : Nat → List D} (hb : getG hp id = some (.cells cs) := by kernel_rfl)
    (h : ∀ i, i < len → ∀ j e, (g i)[j]? = some e → ∃ d, cs[off + i * k + j]? = some d ∧ FrzP hp d e) : FrzP hp (.sl id off len k cap) (.row k len g) := fun K w ρ v hk hr => by
  obtain ⟨b, n, ho, hB⟩ := own_block hk hb (by intro e; cases e)
  simp only [Rep, ho] at hr
  obtain ⟨c, rfl, hlc, _⟩ := hr
  obtain ⟨vs, ty, q1, q2, q3⟩ := hB
  have hnh := hk.apart id b n (own_live ho)
  have hcell := see_own q1 hnh
  simp only [Rep]
  refine .inr ⟨b, off, c, rfl, hlc, fun i hi => reads_C fun j e hj => ?_⟩
  obtain ⟨d, h1, h2⟩ := h i hi j e hj
  obtain ⟨x, p1, p2⟩ := q3 _ _ h1
  exact ⟨x, by rw [cell_of hcell]; exact p1, h2 K w ρ x hk p2⟩
/-- what is nil, or empty, is an empty row -/
theorem frz_nil {k : Nat} {g : Nat → List D} : FrzP hp (.val (.slice none 0 0)) (.row k 0 g) := fun K w ρ v _ hr => by
  simp only [Rep] at hr ⊢
  exact .inl ⟨hr, trivial⟩
end
section
variable {P : Program} {cl : FuncId → List D → List Blk → Nat → Option Out}
/-- the end of a function alone, whose result is told as rows -/
structure EndF (fn : AFun) (d : D) (e : Ex) (s : St) : Prop where
  out : exD e = true ∧ ∃ ds, resD s fn.results = some ds ∧ FrzP s.hp (tupD ds) d
theorem end_f {fn : AFun} {d : D} {e : Ex} {s : St} (r : D) (h : FrzP s.hp r d) (he : exD e = true := by kernel_rfl) (hr : (resD s fn.results).map tupD = some r := by kernel_rfl) : EndF fn d e s := by
  refine ⟨he, ?_⟩
  cases hres : resD s fn.results with
  | none => rw [hres] at hr; cases hr
  | some ds =>
    rw [hres] at hr
    obtain rfl := Option.some.inj hr
    exact ⟨ds, rfl, h⟩
theorem Alone.ofF {f : FuncId} {fn : AFun} (hm : P.follows .mixedOrders = true) (hcl : ∀ K, ClOK K P cl) (hf : compF P f = some fn) {ds : List D} {d : D}
    (h : ∀ K w, AW cl (LoopA K P w [.fresh] [.dead]) fn.body (startF fn ds [.dead]) (EndF fn d)) : Alone P f ds d := by
  intro K w args hk hr
  have hcl := hcl K
  unfold compF at hf
  split at hf
  · rename_i fu hfn
    split at hf
    · rename_i c hbody
      split at hf
      · rename_i ab rs hab hrs hname
        cases hf
        refine calls_of_wp hfn hbody (wp_mono (aw_ok hm hcl c ab _ _ hab (h K w).out w [.fresh] _ (Inv.init hk hr)) fun x a' w' hx => ?_)
        obtain ⟨e, s', ρ', rfl, hI, hq⟩ := hx
        obtain ⟨hex, rds, hrd, hF⟩ := hq.out
        obtain ⟨v, hv1, hv2⟩ := results_ok (fn := fu) hI.okHp hI.slots hrs hrd
        have hkeep : ∀ b : Nat, b < w.heap.size → w'.heap[b]? = w.heap[b]? := fun b hb => hI.keep b hb fun i n hi => by cases i <;> simp at hi
        have hres : Res K w [.fresh] [.dead] 0 ⟨none, d, [], []⟩ v w' := ⟨[.fresh], hF K w' ρ' v hI.okHp hv2, Eff.foreign hI.size hkeep hI.env⟩
        cases e with
        | normal => exact ⟨hI.defers, v, hv1, v, rfl, hres⟩
        | ret => exact ⟨hI.defers, v, hv1, v, rfl, hres⟩
        | exit i => simp [exD] at hex
      · cases hf
    · cases hf
  · cases hf
end
end Go.Ev
