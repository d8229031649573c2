import Derived.Test.YtmekepomgofiaaaEvZf
import Derived.Below
set_option linter.all false
namespace Go.Ev
/-! ### A table of calls that are reckoned in a heap of their own -/
noncomputable section
def isVal : D → Bool
  | .val _ => true
  | _ => false
def allVal : List D → Bool
  | [] => true
  | d :: l => match isVal d with | true => allVal l | false => false
def rowVal (f : Nat → List D) : Nat → Nat → Bool
  | 0, _ => true
  | n + 1, i => match allVal (f i) with | true => rowVal f n (i + 1) | false => false
/-- what is seen, as nobody's -/
def seeD (hp : List Blk) : Nat → D → Option D
  | 0, _ => none
  | n + 1, d => match d with
    | .val v => some (.val v)
    | .sl id off len k _ => match cellsAt hp id with
      | some cs => match Nat.ble (off + len * k) (lenG cs) with
        | true => match allVal cs with
          | true => some (.row k len fun i => takeG (dropG cs (off + i * k)) k)
          | false => none
        | false => none
      | none => none
    | .row k len f => match rowVal f len 0 with
      | true => some (.row k len f)
      | false => none
    | .agg ds => match ds.mapM (seeD hp n) with | some ds => some (.agg ds) | none => none
    | _ => none
def valO : Option Out → Option Out
  | some ⟨none, .val x, [], []⟩ => some ⟨none, .val x, [], []⟩
  | some ⟨none, .tup ds, [], []⟩ => match allVal ds with | true => some ⟨none, .tup ds, [], []⟩ | false => none
  | _ => none
/-- calls of the functions of a set, reckoned alone -/
def isoT (S : FuncId → Bool) (cl : FuncId → List D → List Blk → Nat → Option Out) (f : FuncId) (ds : List D) (hp : List Blk) (_ : Nat) : Option Out := match S f with
  | true => match ds.mapM (seeD hp 5) with
    | some ds' => valO (cl f ds' [.dead] 0)
    | none => none
  | false => none
end
section
variable {K : Cust} {P : Program} {w w' : World} {ρ : List Own} {hp : List Blk} {nid : Nat}
theorem allVal_mem : ∀ {l : List D}, allVal l = true → ∀ d ∈ l, ∃ v, d = .val v
  | [], _, d, h => by cases h
  | x :: l, ha, d, h => by
    simp only [allVal] at ha
    split at ha
    · rename_i hx
      rcases List.mem_cons.1 h with rfl | h
      · unfold isVal at hx
        split at hx
        · exact ⟨_, rfl⟩
        · cases hx
      · exact allVal_mem ha d h
    · cases ha
theorem rowVal_get {f : Nat → List D} : ∀ {n i : Nat}, rowVal f n i = true → ∀ j, j < n → allVal (f (i + j)) = true
  | 0, i, h, j, hj => by omega
  | n + 1, i, h, j, hj => by
    simp only [rowVal] at h
    split at h
    · rename_i h0
      cases j with
      | zero => exact h0
      | succ j =>
        rw [show i + (j + 1) = i + 1 + j by omega]
        exact rowVal_get h j (by omega)
    · cases h
/-- cells that are written out can be read by whoever sees the block -/
theorem repC_vals {M : World} {ρ' : List Own} {b : Nat} : ∀ {cs : List D} {o : Nat}, (∀ d ∈ cs, ∃ v, d = .val v) → (∀ (j : Nat) (v : Value), cs[j]? = some (.val v) → M.cell? ⟨b, o + j, none⟩ = some v) → RepC K M ρ' cs b o
  | [], o, _, _ => by simp [RepC]
  | d :: cs, o, hv, hc => by
    obtain ⟨v, rfl⟩ := hv d (List.mem_cons_self ..)
    simp only [RepC]
    refine ⟨⟨v, by simpa using hc 0 v rfl, by simp only [Rep]⟩, repC_vals (fun d hd => hv d (List.mem_cons_of_mem _ hd)) fun j v hj => ?_⟩
    rw [show o + 1 + j = o + (j + 1) by omega]
    exact hc (j + 1) v (by simpa using hj)
theorem repC_cells {M : World} {ρ' : List Own} {b : Nat} : ∀ {cs : List D} {o : Nat}, RepC K M ρ' cs b o → ∀ (j : Nat) (v : Value), cs[j]? = some (.val v) → M.cell? ⟨b, o + j, none⟩ = some v
  | [], o, _, j, v, h => by simp at h
  | d :: cs, o, hc, j, v, h => by
    simp only [RepC] at hc
    cases j with
    | zero =>
      simp only [List.getElem?_cons_zero, Option.some.injEq] at h
      subst h
      obtain ⟨⟨x, h1, h2⟩, _⟩ := hc
      simp only [Rep] at h2
      subst h2
      exact h1
    | succ j =>
      have := repC_cells hc.2 j v (by simpa using h)
      rw [show o + 1 + j = o + (j + 1) by omega] at this
      exact this
theorem mapM_some {α β : Type} {g : α → Option β} : ∀ {l : List α} {r : List β}, l.mapM g = some r → l.length = r.length ∧ ∀ (i : Nat) (x : α), l[i]? = some x → ∃ y, r[i]? = some y ∧ g x = some y
  | [], r, h => by
    simp at h
    subst h
    exact ⟨rfl, fun i x hx => by simp at hx⟩
  | x :: l, r, h => by
    rw [List.mapM_cons] at h
    simp only [bind, Option.bind_eq_some_iff, pure, Option.some.injEq] at h
    obtain ⟨y, hy, ys, hys, rfl⟩ := h
    obtain ⟨g1, g2⟩ := mapM_some hys
    refine ⟨by simp [g1], fun i x' hx => ?_⟩
    cases i with
    | zero => simp at hx; subst hx; exact ⟨y, by simp, hy⟩
    | succ i => simpa using g2 i x' (by simpa using hx)
theorem see_rep (hk : OK K w ρ hp) : ∀ (n : Nat) (d d' : D) (v : Value), Rep K (mask K w ρ) ρ d v → seeD hp n d = some d' → Rep K (mask K w [.fresh]) [.fresh] d' v
  | 0, d, d', v, h, hs => by simp [seeD] at hs
  | n + 1, d, d', v, h, hs => by
    unfold seeD at hs
    split at hs
    · cases hs
      simpa only [Rep] using h
    · rename_i id off len k cap
      split at hs
      · rename_i cs hcs
        split at hs
        · rename_i hle
          have hle := Nat.le_of_ble_eq_true hle
          rw [lenG_eq] at hle
          split at hs
          · rename_i hall
            cases hs
            have hv := allVal_mem hall
            obtain ⟨b, n', ho1, hbl⟩ := cellsAt_own hk hcs
            simp only [Rep, ho1] at h
            obtain ⟨c, rfl, hlc, _⟩ := h
            have hr := own_reads hbl
            obtain ⟨vs, ty, q1, q2, q3⟩ := hbl
            have hnh := hk.apart id b n' (own_live ho1)
            simp only [Rep]
            refine .inr ⟨b, off, c, rfl, hlc, fun i hi => ?_⟩
            simp only [takeG_eq, dropG_eq]
            refine repC_vals (fun d hd => hv d (List.mem_of_mem_drop (List.mem_of_mem_take hd))) fun j v hj => ?_
            rw [List.getElem?_take] at hj
            split at hj
            · rw [List.getElem?_drop] at hj
              obtain ⟨x, p1, p2⟩ := hr _ _ hj
              simp only [Rep] at p2
              subst p2
              unfold World.cell? at p1 ⊢
              simp only at p1 ⊢
              rw [q1] at p1
              rw [see_own q1 hnh]
              simp only at p1 ⊢
              rw [Nat.zero_add] at p1
              exact p1
            · cases hj
          · cases hs
        · cases hs
      · cases hs
    · rename_i k len f
      split at hs
      · rename_i hall
        cases hs
        simp only [Rep] at h ⊢
        rcases h with h | ⟨b, o, c, h1, h2, h3⟩
        · exact .inl h
        · refine .inr ⟨b, o, c, h1, h2, fun i hi => ?_⟩
          have ha := rowVal_get hall i hi
          rw [Nat.zero_add] at ha
          exact repC_vals (allVal_mem ha) fun j v hj => see_sub.cell (repC_cells (h3 i hi) j v hj)
      · cases hs
    · rename_i ds
      split at hs
      · rename_i ds' hds
        cases hs
        simp only [Rep] at h ⊢
        obtain ⟨vs, rfl, hr⟩ := h
        refine ⟨vs, rfl, ?_⟩
        obtain ⟨g1, g2⟩ := mapM_some hds
        have hl := repL_length hr
        refine repL_of (by omega) fun i d' hd' => ?_
        have hi : i < ds.length := by
          have := (List.getElem?_eq_some_iff.1 hd').1
          omega
        obtain ⟨y, hy, hg⟩ := g2 i ds[i] (List.getElem?_eq_getElem hi)
        rw [hy] at hd'
        cases hd'
        obtain ⟨u, hu, hru⟩ := repL_get hr (List.getElem?_eq_getElem hi)
        exact ⟨u, hu, see_rep hk n _ _ u hru hg⟩
      · cases hs
    · cases hs
theorem repL_allVal {M M' : World} {ρ ρ' : List Own} : ∀ {ds : List D} {vs : List Value}, allVal ds = true → RepL K M ρ ds vs → RepL K M' ρ' ds vs
  | [], vs, _, h => by simpa only [RepL] using h
  | d :: ds, vs, ha, h => by
    obtain ⟨v, rfl⟩ := allVal_mem ha d (List.mem_cons_self ..)
    simp only [allVal, isVal] at ha
    simp only [RepL] at h ⊢
    obtain ⟨x, r, rfl, h1, h2⟩ := h
    exact ⟨x, r, rfl, by simpa only [Rep] using h1, repL_allVal ha h2⟩
theorem isoT_ok {S : FuncId → Bool} {cl : FuncId → List D → List Blk → Nat → Option Out} (hcl : ClOK K P cl) : ClOK K P (isoT S cl) := by
  intro f ds hp nid out h hc
  unfold isoT at h
  split at h
  · split at h
    · rename_i ds' hds
      have key : ∃ out', cl f ds' [.dead] 0 = some out' ∧ out'.p = none ∧ ((∃ x, out' = ⟨none, .val x, [], []⟩ ∧ out = ⟨none, .val x, [], []⟩) ∨ (∃ es, allVal es = true ∧ out' = ⟨none, .tup es, [], []⟩ ∧ out = ⟨none, .tup es, [], []⟩)) := by
        unfold valO at h
        split at h
        · rename_i x hx
          exact ⟨_, hx, rfl, .inl ⟨x, rfl, (Option.some.inj h).symm⟩⟩
        · rename_i es hx
          split at h
          · rename_i ha
            exact ⟨_, hx, rfl, .inr ⟨es, ha, rfl, (Option.some.inj h).symm⟩⟩
          · cases h
        · cases h
      obtain ⟨out', h1, hp', h2⟩ := key
      obtain ⟨g1, g2⟩ := hcl f ds' [.dead] 0 out' h1 (fun p hp => by rw [hp'] at hp; cases hp)
      refine ⟨g1, fun w ρ args hk hr hn => ?_⟩
      obtain ⟨m1, m2⟩ := mapM_some hds
      have hl := repL_length hr
      have hr' : RepL K (mask K w [.fresh]) [.fresh] ds' args := repL_of (by omega) fun i d' hd' => by
        have hi : i < ds.length := by
          have := (List.getElem?_eq_some_iff.1 hd').1
          omega
        obtain ⟨y, hy, hg⟩ := m2 i ds[i] (List.getElem?_eq_getElem hi)
        rw [hy] at hd'
        cases hd'
        obtain ⟨u, hu, hru⟩ := repL_get hr (List.getElem?_eq_getElem hi)
        exact ⟨u, hu, see_rep hk 5 _ _ u hru hg⟩
      refine (g2 w [.fresh] args hk.see hr' rfl).mono fun e w' hx => ?_
      obtain ⟨v, rfl, ρ1, q1, q2⟩ := hx
      have hkeep : out'.δ = [] → out'.grow = [] → Eff K w ρ hp nid w' ρ [] [] := fun e1 e2 => by
        rw [e1, e2] at q2
        exact Eff.foreign q2.size (fun b hb => q2.keep b hb fun i n hi => by cases i <;> simp at hi) q2.env
      rcases h2 with ⟨x, rfl, rfl⟩ | ⟨es, ha, rfl, rfl⟩
      · exact ⟨v, rfl, ρ, by simpa only [Rep] using q1, hkeep rfl rfl⟩
      · refine ⟨v, rfl, ρ, ?_, hkeep rfl rfl⟩
        simp only [Rep] at q1 ⊢
        obtain ⟨vs, rfl, hvs⟩ := q1
        exact ⟨vs, rfl, repL_allVal ha hvs⟩
    · cases h
  · cases h
/-- functions but those of a set -/
def without (S : FuncId → Bool) (F : FuncId → Option AFun) (f : FuncId) : Option AFun := match S f with
  | true => none
  | false => F f
theorem without_ok {S : FuncId → Bool} {F : FuncId → Option AFun} (h : ∀ f fn, F f = some fn → compF P f = some fn) : ∀ f fn, without S F f = some fn → compF P f = some fn := fun f fn hf => by
  unfold without at hf
  split at hf
  · cases hf
  · exact h f fn hf
end
end Go.Ev
namespace Go.Ev
/-- a table of functions that are told alone, their arguments seen as nobody's -/
noncomputable def seeT (g : FuncId) (r : List D → Option Value) (f : FuncId) (ds : List D) (hp : List Blk) (_ : Nat) : Option Out := match Nat.beq f g with
  | true => match ds.mapM (seeD hp 5) with
    | some ds' => match r ds' with
      | some v => some ⟨none, .val v, [], []⟩
      | none => none
    | none => none
  | false => none
theorem seeT_ok {K : Cust} {P : Program} {g : FuncId} {r : List D → Option Value} (henter : ∀ args w, (callFunc g args).run P w = .ok (.enter g args) w)
    (h : ∀ ds v, r ds = some v → ∃ ds', Less ds ds' ∧ Alone P g ds' (.val v)) : ClOK K P (seeT g r) := by
  intro f ds hp nid out ho hc
  unfold seeT at ho
  split at ho
  · rename_i hfg
    obtain rfl := Nat.eq_of_beq_eq_true hfg
    split at ho
    · rename_i ds' hds
      split at ho
      · rename_i v hv
        obtain rfl := (Option.some.inj ho).symm
        refine ⟨henter, fun w ρ args hk hr hn => ?_⟩
        obtain ⟨ds2, hl, hA⟩ := h ds' v hv
        obtain ⟨m1, m2⟩ := mapM_some hds
        have hlen := repL_length hr
        have hr' : RepL K (mask K w [.fresh]) [.fresh] ds' args := repL_of (by omega) fun i d' hd' => by
          have hi : i < ds.length := by
            have := (List.getElem?_eq_some_iff.1 hd').1
            omega
          obtain ⟨y, hy, hg⟩ := m2 i ds[i] (List.getElem?_eq_getElem hi)
          rw [hy] at hd'
          cases hd'
          obtain ⟨u, hu, hru⟩ := repL_get hr (List.getElem?_eq_getElem hi)
          exact ⟨u, hu, see_rep hk 5 _ _ u hru hg⟩
        refine (hA K w args hk.see (hl K _ _ _ hr')).mono fun e w' hx => ?_
        obtain ⟨x, rfl, hres⟩ := hx
        exact ⟨x, rfl, hres.unsee⟩
      · cases ho
    · cases ho
  · cases ho
theorem Less.row {k n : Nat} {f g : Nat → List D} {ds ds' : List D} (h : ∀ i, i < n → ∀ (K : Cust) (M : World) (ρ : List Own) (b o : Nat), RepC K M ρ (f i) b o → RepC K M ρ (g i) b o) (h2 : Less ds ds') : Less (.row k n f :: ds) (.row k n g :: ds') := .cons (fun K M ρ v hv => by
  simp only [Rep] at *
  rcases hv with hv | ⟨b, o, c, h1, h3, h4⟩
  · exact .inl hv
  · exact .inr ⟨b, o, c, h1, h3, fun i hi => h i hi K M ρ b _ (h4 i hi)⟩) h2
end Go.Ev
