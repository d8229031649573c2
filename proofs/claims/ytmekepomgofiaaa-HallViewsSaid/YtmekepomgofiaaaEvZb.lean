import Derived.Test.YtmekepomgofiaaaEvZa
set_option linter.all false
namespace Go.Ev
/-! ### Contracts of functions, and loops by invariants -/
noncomputable section
/-- the state in which a function begins -/
def startF (fn : AFun) (ds : List D) (hp : List Blk) : St := ⟨True, ds ++ List.replicate (fn.ntmps - ds.length) undefD, hp, hp.length, []⟩
/-- the end of a function: what it hands back is so -/
def exitP (raw : Bool) (nid : Nat) (fn : AFun) (R : Out → Prop) (e : Ex) (s : St) : Prop :=
  exD e = true ∧ ∃ rds out, resD s fn.results = some rds ∧ leave raw nid s rds = some out ∧ R out
/-- one table of calls beside another -/
def orCl (c1 c2 : FuncId → List D → List Blk → Nat → Option Out) (f : FuncId) (ds : List D) (hp : List Blk) (nid : Nat) : Option Out := match c1 f ds hp nid with
  | some out => some out
  | none => c2 f ds hp nid
/-- a call of a function whose contract says what it hands back -/
def oneCl (g : FuncId) (r : List D → List Blk → Nat → Option Out) (f : FuncId) (ds : List D) (hp : List Blk) (nid : Nat) : Option Out := match Nat.beq f g with
  | true => r ds hp nid
  | false => none
end
section
variable {K : Cust} {P : Program} {w0 : World} {ρ0 : List Own} {hp0 : List Blk} {w : World} {ρ : List Own} {a : Act} {s s' : St} {cl : FuncId → List D → List Blk → Nat → Option Out}

theorem ClOK.or {c1 c2 : FuncId → List D → List Blk → Nat → Option Out} (h1 : ClOK K P c1) (h2 : ClOK K P c2) : ClOK K P (orCl c1 c2) := by
  intro f ds hp nid out h hc
  unfold orCl at h
  split at h
  · rename_i o ho
    cases h
    exact h1 f ds hp nid out ho hc
  · exact h2 f ds hp nid out h hc
/-- the contract of one function, as a call may use it -/
def Contract (K : Cust) (P : Program) (f : FuncId) (r : List D → List Blk → Nat → Option Out) : Prop :=
  (∀ args w, (callFunc f args).run P w = .ok (.enter f args) w) ∧ ∀ ds hp nid out, r ds hp nid = some out → (∀ p, out.p = some p → p) →
    ∀ (w : World) (ρ : List Own) (args : List Value), OK K w ρ hp → RepL K (mask K w ρ) ρ ds args → ρ[nid]? = some .fresh →
      Calls P f args.toArray w fun e w' => ∃ v, e = .returned v ∧ Res K w ρ hp nid out v w'
theorem ClOK.one {g : FuncId} {r : List D → List Blk → Nat → Option Out} (h : Contract K P g r) : ClOK K P (oneCl g r) := by
  intro f ds hp nid out ho hc
  unfold oneCl at ho
  split at ho
  · rename_i e
    obtain rfl := Nat.eq_of_beq_eq_true e
    exact ⟨h.1, h.2 ds hp nid out ho hc⟩
  · cases ho

/-- a function by its symbolic evaluation -/
theorem fun_ok (hm : P.follows .mixedOrders = true) (hcl : ClOK K P cl) {f : FuncId} {fn : AFun} (hf : compF P f = some fn) :
    (∀ args w, (callFunc f args).run P w = .ok (.enter f args) w) ∧
    ∀ {raw : Bool} {ds : List D} {hp : List Blk} {nid : Nat} {R : Out → Prop} {w : World} {ρ : List Own} {args : List Value} {Q : Ex → St → Prop}, (∀ e s, Q e s → exitP raw nid fn R e s) →
      aw cl (LoopA K P w ρ hp) fn.body (startF fn ds hp) Q → OK K w ρ hp → RepL K (mask K w ρ) ρ ds args → ρ[nid]? = some .fresh →
      Calls P f args.toArray w fun e w' => ∃ v out, e = .returned v ∧ R out ∧ Res K w ρ hp nid out v w' := by
  unfold compF at hf
  split at hf
  · rename_i fu hfn
    split at hf
    · rename_i c hbody
      split at hf
      · rename_i ab rs hab hrs hname
        cases hf
        refine ⟨enters hfn hname hbody, fun {raw ds hp nid R w ρ args Q} hQ h hk hr hn => ?_⟩
        refine calls_of_wp hfn hbody (wp_mono (aw_ok hm hcl c ab _ _ hab h w ρ _ (Inv.init hk hr)) fun x a' w' hx => ?_)
        obtain ⟨e, s', ρ', rfl, hI, hq⟩ := hx
        obtain ⟨hex, rds, out, hrd, hl, hR⟩ := hQ e s' hq
        obtain ⟨v, hv1, hv2⟩ := results_ok (fn := fu) hI.okHp hI.slots hrs hrd
        have hres := leave_ok hI hv2 hl hn
        cases e with
        | normal => exact ⟨hI.defers, v, hv1, v, out, rfl, hR, hres⟩
        | ret => exact ⟨hI.defers, v, hv1, v, out, rfl, hR, hres⟩
        | exit i => simp [exD] at hex
      · cases hf
    · cases hf
  · cases hf
/-- the contract of a function whose end is one and the same on every way -/
theorem fun_contract (hm : P.follows .mixedOrders = true) (hcl : ClOK K P cl) {f : FuncId} {fn : AFun} (hf : compF P f = some fn) {raw : Bool} {r : List D → List Blk → Nat → Option Out}
    (h : ∀ ds hp nid out, r ds hp nid = some out → (∀ p, out.p = some p → p) → ∀ w ρ, OK K w ρ hp → aw cl (LoopA K P w ρ hp) fn.body (startF fn ds hp) (exitP raw nid fn (fun o => o = out))) : Contract K P f r := by
  obtain ⟨h1, h2⟩ := fun_ok (cl := cl) hm hcl hf
  refine ⟨h1, fun ds hp nid out ho hc w ρ args hk hr hn => (h2 (fun _ _ h => h) (h ds hp nid out ho hc w ρ hk) hk hr hn).mono fun e w' hx => ?_⟩
  obtain ⟨v, o, he, rfl, hres⟩ := hx
  exact ⟨v, he, hres⟩

/-- s' tells no more than s -/
def Wk (K : Cust) (w0 : World) (ρ0 : List Own) (hp0 : List Blk) (s s' : St) : Prop :=
  ∀ (w : World) (ρ : List Own) (a : Act), Inv K w0 ρ0 hp0 w ρ a s → ∃ ρ', Inv K w0 ρ0 hp0 w ρ' a s'
theorem Wk.refl : Wk K w0 ρ0 hp0 s s := fun _ ρ _ h => ⟨ρ, h⟩
theorem Wk.trans {s1 s2 s3 : St} (h1 : Wk K w0 ρ0 hp0 s1 s2) (h2 : Wk K w0 ρ0 hp0 s2 s3) : Wk K w0 ρ0 hp0 s1 s3 := fun w ρ a h => by
  obtain ⟨ρ', h'⟩ := h1 w ρ a h
  exact h2 w ρ' a h'
/-- what one slot tells, told anew -/
inductive WkD : D → D → Prop
  | refl (d : D) : WkD d d
  | any (d : D) : WkD d .any
theorem rep_wkD {M : World} {d d' : D} {v : Value} (h : WkD d d') (hr : Rep K M ρ d v) : Rep K M ρ d' v := by
  cases h with
  | refl => exact hr
  | any => simp [Rep]
/-- slots may be forgotten -/
theorem Wk.slots {p : Prop} {sl : List D} (hl : sl.length = s.sl.length) (h : ∀ i : Nat, ∀ d d', s.sl[i]? = some d → sl[i]? = some d' → WkD d d') : Wk K w0 ρ0 hp0 s ⟨p, sl, s.hp, s.base, s.wr⟩ := fun w ρ a hI => by
  refine ⟨ρ, hI.size, hI.keep, hI.new, hI.le, hI.rlen, hI.base, hI.blen, hI.same, hI.hid, hI.ok, hI.fr, ⟨hl.trans hI.slots.1, fun i d' hd' => ?_⟩, hI.defers, hI.start, hI.env⟩
  have hi : i < s.sl.length := by rw [← hl]; exact (List.getElem?_eq_some_iff.1 hd').1
  obtain ⟨v, h1, h2⟩ := hI.slots.2 i s.sl[i] (List.getElem?_eq_getElem hi)
  exact ⟨v, h1, rep_wkD (h i _ _ (List.getElem?_eq_getElem hi) hd') h2⟩

/-- a loop by an invariant, with letters -/
def roundP {ι : Sort _} (K : Cust) (w0 : World) (ρ0 : List Own) (hp0 : List Blk) (st : ι → St) (μ : ι → Nat) (i : ι) (Q : Ex → St → Prop) (e : Ex) (s : St) : Prop := match e with
  | .normal => ∃ j, μ j < μ i ∧ Wk K w0 ρ0 hp0 s (st j)
  | e => Q e s
theorem loop_rule {ι : Type} (hm : P.follows .mixedOrders = true) (hcl : ClOK K P cl) {b : ACode} {Q : Ex → St → Prop} (st : ι → St) (μ : ι → Nat)
    (round : ∀ i, aw cl (LoopA K P w0 ρ0 hp0) b (st i) (roundP K w0 ρ0 hp0 st μ i Q)) {s : St} (i : ι) (hs : Wk K w0 ρ0 hp0 s (st i)) : LoopA K P w0 ρ0 hp0 b s Q := by
  intro c hc w ρ a hI
  obtain ⟨ρ1, hI1⟩ := hs w ρ a hI
  refine wp_loop_fuel (fun n a w => ∃ i ρ, μ i = n ∧ Inv K w0 ρ0 hp0 w ρ a (st i)) (n := μ i) ⟨i, ρ1, rfl, hI1⟩ fun n a w hJ => ?_
  obtain ⟨i, ρ, rfl, hI⟩ := hJ
  refine wp_mono (aw_ok hm hcl c b _ _ hc (round i) w ρ a hI) fun x a' w' hx => ?_
  obtain ⟨e, s', ρ', rfl, hI', hq⟩ := hx
  cases e with
  | normal =>
    obtain ⟨j, hj, hw⟩ := hq
    obtain ⟨ρ2, hI2⟩ := hw w' ρ' a' hI'
    exact ⟨μ j, hj, j, ρ2, rfl, hI2⟩
  | exit k => exact ⟨.exit k, s', ρ', rfl, hI', hq⟩
  | ret => exact ⟨.ret, s', ρ', rfl, hI', hq⟩
end
end Go.Ev
