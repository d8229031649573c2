import Derived.Test.YtmekepomgofiaaaEvX
set_option linter.all false
namespace Go.Ev
section
variable {K : Cust} {P : Program} {w0 : World} {ρ0 : List Own} {hp0 : List Blk} {ex : Bool} {cl : FuncId → List D → List Blk → Nat → Option Out}

/-- those that have not come up yet -/
def left (A : List AOper) (listed : Array Bool) : List (AOper × Nat) := A.zipIdx.filter fun x => listed.getD x.2 true == false

theorem left_split {A : List AOper} {listed : Array Bool} {i : Nat} {y : AOper} (hy : A[i]? = some y) (hl : listed.getD i true = false) :
    left A listed = ((A.zipIdx.take i).filter fun x => listed.getD x.2 true == false) ++ (y, i) :: ((A.zipIdx.drop (i + 1)).filter fun x => listed.getD x.2 true == false) ∧
    left A (listed.setIfInBounds i true) = ((A.zipIdx.take i).filter fun x => listed.getD x.2 true == false) ++ ((A.zipIdx.drop (i + 1)).filter fun x => listed.getD x.2 true == false) := by
  have hil := (List.getElem?_eq_some_iff.1 hy).1
  have hz : A.zipIdx = A.zipIdx.take i ++ (y, i) :: A.zipIdx.drop (i + 1) := by
    have hlen : i < A.zipIdx.length := by simp; exact hil
    have e : A.zipIdx[i] = (y, i) := by
      have := List.getElem?_eq_getElem hlen
      rw [List.getElem?_zipIdx, hy] at this
      simpa using this.symm
    rw [← e, List.getElem_cons_drop hlen, List.take_append_drop]
  have hne1 : ∀ x ∈ A.zipIdx.take i, i ≠ x.2 := fun x hx => by
    obtain ⟨j, hj⟩ := List.mem_iff_getElem?.1 hx
    rw [List.getElem?_take] at hj
    split at hj
    · rw [List.getElem?_zipIdx] at hj
      cases ha : A[j]? with
      | none => rw [ha] at hj; cases hj
      | some z => rw [ha] at hj; simp at hj; subst hj; dsimp only; omega
    · cases hj
  have hne2 : ∀ x ∈ A.zipIdx.drop (i + 1), i ≠ x.2 := fun x hx => by
    obtain ⟨j, hj⟩ := List.mem_iff_getElem?.1 hx
    rw [List.getElem?_drop, List.getElem?_zipIdx] at hj
    cases ha : A[i + 1 + j]? with
    | none => rw [ha] at hj; cases hj
    | some z => rw [ha] at hj; simp at hj; subst hj; dsimp only; omega
  have same : ∀ l : List (AOper × Nat), (∀ x ∈ l, i ≠ x.2) → (l.filter fun x => (listed.setIfInBounds i true).getD x.2 true == false) = l.filter fun x => listed.getD x.2 true == false := fun l hl => by
    apply List.filter_congr
    intro x hx
    rw [getD_set_ne true (hl x hx)]
  have hself : (listed.setIfInBounds i true).getD i true = true := by
    rw [Array.getD_eq_getD_getElem?]
    rcases Nat.lt_or_ge i listed.size with h' | h'
    · simp [h']
    · rw [Array.getElem?_eq_none (by simpa using h')]; rfl
  constructor
  · unfold left
    conv => lhs; rw [hz]
    rw [List.filter_append, List.filter_cons, if_pos (by simp only [hl]; rfl)]
  · unfold left
    conv => lhs; rw [hz]
    rw [List.filter_append, List.filter_cons, if_neg (by rw [hself]; simp), same _ hne1, same _ hne2]

theorem take_idx {A : List AOper} {i : Nat} {x : AOper × Nat} (hx : x ∈ A.zipIdx.take i) : x.2 < i := by
  obtain ⟨j, hj⟩ := List.mem_iff_getElem?.1 hx
  rw [List.getElem?_take] at hj
  split at hj
  · rw [List.getElem?_zipIdx] at hj
    cases ha : A[j]? with
    | none => rw [ha] at hj; cases hj
    | some z => rw [ha] at hj; simp at hj; subst hj; dsimp only; omega
  · cases hj
/-- whoever is first of those that are left may come up -/
theorem first_ready {ops : Array Oper} {A : List AOper} {n : Nat} {listed : Array Bool} {y : AOper} {i : Nat} {l : List (AOper × Nat)} (hG : Good P ops A n) (hsz : listed.size = ops.size) (h : left A listed = (y, i) :: l) : i ∈ Region.ready .any ops listed := by
  have hm : (y, i) ∈ left A listed := by rw [h]; exact List.mem_cons_self ..
  have hf := List.mem_filter.1 hm
  have hl : listed.getD i true = false := by simpa using hf.2
  have hil : i < ops.size := by
    rcases Nat.lt_or_ge i ops.size with h' | h'
    · exact h'
    · rw [Array.getD_eq_getD_getElem?, Array.getElem?_eq_none (by omega)] at hl; cases hl
  refine mem_ready.2 ⟨hl, ops[i], Array.getElem?_eq_getElem hil, fun e he hb => ?_⟩
  have hlt := hG.lt i _ (Array.getElem?_eq_getElem hil) e he hb
  rcases Bool.eq_false_or_eq_true (listed.getD e.on false) with h' | h'
  · exact h'
  · exfalso
    have hel : e.on < listed.size := by omega
    have hu : listed.getD e.on true = false := by
      rw [Array.getD_eq_getD_getElem?, Array.getElem?_eq_getElem hel] at h' ⊢
      exact h'
    have hea : e.on < A.length := by rw [hG.len]; omega
    have := (left_split (List.getElem?_eq_getElem hea) hu).1
    rw [h] at this
    cases hq : ((A.zipIdx.take e.on).filter fun x => listed.getD x.2 true == false) with
    | nil =>
      rw [hq] at this
      simp at this
      omega
    | cons z t =>
      rw [hq] at this
      simp at this
      have hz : z ∈ A.zipIdx.take e.on := (List.mem_filter.1 (by rw [hq]; exact List.mem_cons_self ..)).1
      have := take_idx hz
      rename_i h2
      rw [← h2.1] at this
      dsimp only at this
      omega
theorem any_ok {ops : Array Oper} {A : List AOper} {n n0 : Nat} {sF : St} {Q : Exit → Act → World → Prop} (hcl : ClOK K P cl) (hG : Good P ops A n) (hn0 : hp0.length ≤ n0) (hp : sF.p)
    (hQ : ∀ a' w' ρ', Inv K w0 ρ0 hp0 w' ρ' a' sF → Q .normal a' w') : ∀ (fuel : Nat) (listed : Array Bool) (w : World) (ρ : List Own) (a : Act) (s : St),
    listed.size = ops.size → (left A listed).length ≤ fuel →
    (∀ (k : Nat) (o : Oper), listed.getD k false = true → ops[k]? = some o → ∀ e ∈ o.after, Region.binds .any e = true → listed.getD e.on false = true) →
    Inv K w0 ρ0 hp0 w ρ a s → (∀ x ∈ left A listed, allocs x.1.op = true → ρ[n0 + x.1.rank]? = some Own.fresh) → s.base ≤ n0 → stps ex cl n0 ((left A listed).map (·.1)) s = some sF →
    wpAny P .any ops Q fuel listed a w := by
  intro fuel
  induction fuel with
  | zero =>
    intro listed w ρ a s hsz hfl _ hI _ _ hst
    have h0 : left A listed = [] := List.eq_nil_of_length_eq_zero (by omega)
    rw [h0] at hst
    rw [List.map_nil, stps_nil] at hst
    obtain rfl := Option.some.inj hst
    refine ⟨?_, hQ _ _ _ hI⟩
    -- nobody is left
    apply List.eq_nil_iff_forall_not_mem.2
    intro i hi
    obtain ⟨h1, o, ho, _⟩ := mem_ready.1 hi
    have hil : i < A.length := by rw [hG.len]; exact (Array.getElem?_eq_some_iff.1 ho).1
    have := (left_split (List.getElem?_eq_getElem hil) h1).1
    rw [h0] at this
    simp at this
  | succ fuel ih =>
    intro listed w ρ a s hsz hfl hcl2 hI hfr hb hst
    refine ⟨fun hr => ?_, fun i hi => ?_⟩
    · cases hle : left A listed with
      | nil =>
        rw [hle] at hst
        rw [List.map_nil, stps_nil] at hst
        obtain rfl := Option.some.inj hst
        exact hQ _ _ _ hI
      | cons z l =>
        have := first_ready hG hsz (y := z.1) (i := z.2) hle
        rw [hr] at this
        cases this
    · obtain ⟨h1, o, ho, hed⟩ := mem_ready.1 hi
      have hil : i < A.length := by rw [hG.len]; exact (Array.getElem?_eq_some_iff.1 ho).1
      obtain ⟨y, hy⟩ : ∃ y, A[i]? = some y := ⟨_, List.getElem?_eq_getElem hil⟩
      obtain ⟨e1, e2⟩ := left_split hy h1
      rw [e1, List.map_append, List.map_cons] at hst
      have hind : ∀ x ∈ ((A.zipIdx.take i).filter fun x => listed.getD x.2 true == false).map (·.1), indep x y = true := fun x hx => by
        obtain ⟨⟨xa, xi⟩, hx2, rfl⟩ := List.mem_map.1 hx
        have hf := List.mem_filter.1 hx2
        obtain ⟨j, hj⟩ := List.mem_iff_getElem?.1 hf.1
        rw [List.getElem?_take] at hj
        split at hj
        · rename_i hji
          rw [List.getElem?_zipIdx] at hj
          cases hz : A[j]? with
          | none => rw [hz] at hj; cases hj
          | some z =>
            rw [hz] at hj
            simp at hj
            obtain ⟨rfl, rfl⟩ := hj
            rcases hG.ind j i z y hz hy hji with hbit | hind
            · exfalso
              have := bit_listed hG.lt hcl2 i j o ho hed hbit
              have h2 := hf.2
              simp only [beq_iff_eq] at h2
              rw [Array.getD_eq_getD_getElem?] at this h2
              cases hlj : listed[j]? with
              | none => rw [hlj] at h2; cases h2
              | some b => rw [hlj] at this h2; simp at this h2; rw [this] at h2; cases h2
            · exact hind
        · cases hj
      obtain ⟨s1, g1, g2⟩ := front _ s hb hind hst
      · refine stp_ok ho (hG.of i o y ho hy) hcl hI hn0 (fun ha => ?_) g1 (stps_p _ _ _ g2 hp) fun a' w' ρ' hI' hf => ?_
        · refine hfr (y, i) ?_ ha
          rw [e1]
          exact List.mem_append_right _ (List.mem_cons_self ..)
        · refine ih _ w' ρ' a' s1 (by simpa using hsz) ?_ (fun k ok hk hok e he hbd => ?_) hI' (fun x hx ha => ?_) (by rw [stp_base g1]; exact hb) ?_
          · rw [e2]
            rw [e1] at hfl
            simp at hfl ⊢
            omega
          · by_cases hki : i = k
            · subst hki
              rw [ho] at hok
              cases hok
              exact getD_set_true (hed e he hbd)
            · rw [getD_set_ne false hki] at hk
              exact getD_set_true (hcl2 k ok hk hok e he hbd)
          · have hx' : x ∈ left A listed := by
              rw [e2] at hx
              rw [e1]
              rcases List.mem_append.1 hx with h | h
              · exact List.mem_append_left _ h
              · exact List.mem_append_right _ (List.mem_cons_of_mem _ h)
            refine hf _ (hfr x hx' ha) fun hay => ?_
            -- another one
            obtain ⟨xa, xi⟩ := x
            have hxa : A[xi]? = some xa ∧ xi ≠ i := by
              rw [e2] at hx
              rcases List.mem_append.1 hx with h | h
              · have := (List.mem_filter.1 h).1
                obtain ⟨j, hj⟩ := List.mem_iff_getElem?.1 this
                rw [List.getElem?_take] at hj
                split at hj
                · rw [List.getElem?_zipIdx] at hj
                  cases hz : A[j]? with
                  | none => rw [hz] at hj; cases hj
                  | some z => rw [hz] at hj; simp at hj; obtain ⟨rfl, rfl⟩ := hj; exact ⟨hz, by omega⟩
                · cases hj
              · have := (List.mem_filter.1 h).1
                obtain ⟨j, hj⟩ := List.mem_iff_getElem?.1 this
                rw [List.getElem?_drop, List.getElem?_zipIdx] at hj
                cases hz : A[i + 1 + j]? with
                | none => rw [hz] at hj; cases hj
                | some z => rw [hz] at hj; simp at hj; obtain ⟨rfl, rfl⟩ := hj; exact ⟨hz, by omega⟩
            have := hG.apart xi i xa y hxa.1 hy ha hay hxa.2
            dsimp only
            omega
          · rw [e2, List.map_append]
            exact g2

theorem Inv.heap {w w' : World} {ρ : List Own} {a : Act} {s : St} (h : Inv K w0 ρ0 hp0 w ρ a s) (hw : w'.heap = w.heap) (he : Env w w' := by exact ⟨rfl, rfl, rfl⟩) : Inv K w0 ρ0 hp0 w' ρ a s := by
  have := h.step (w' := w') (ρ' := ρ) (t := none) (p := s.p) (n0 := 0) (hid := []) (d := undefD) (v := undef) (δ := []) (g := []) (by simp only [undefD, Rep]; exact ⟨[], rfl, by simp [RepL]⟩) (Eff.no (nid := hp0.length) hw he) (Nat.le_refl _)
  simpa [app, addW, setD, Act.put] using this
/-- drawn regions are carried out soundly -/
theorem drawn_ok (hm : P.follows .mixedOrders = true) : Drawn P := by
  intro K cl id ops A n hcl hc ex w0 ρ0 hp0 w ρ a s s' hI h hp Q hQ
  have hG := compD_good hc
  unfold reg at h
  simp only [growS_eq, forceN_eq, lenG_eq] at h
  have hl := hI.rlen
  have hb := hI.base
  have hbl := hI.blen
  refine wp_region_any hm ?_
  have hleft : left A (Array.replicate ops.size false) = A.zipIdx := by
    unfold left
    rw [List.filter_eq_self]
    intro x hx
    obtain ⟨j, hj⟩ := List.mem_iff_getElem?.1 hx
    rw [List.getElem?_zipIdx] at hj
    cases ha : A[j]? with
    | none => rw [ha] at hj; cases hj
    | some z =>
      rw [ha] at hj
      simp at hj
      subst hj
      have := (List.getElem?_eq_some_iff.1 ha).1
      rw [hG.len] at this
      simp [Array.getD_eq_getD_getElem?, this]
  refine any_ok (ex := ex) (cl := cl) (n0 := s.hp.length) hcl hG hI.blen hp hQ ops.size _ { w with drawn := w.drawn + 1 } (ρ ++ List.replicate n Own.fresh) a ⟨s.p, s.sl, s.hp ++ deads n, s.base, s.wr⟩ (by simp) (by rw [hleft]; simp [hG.len]) (fun k o hk => ?_) ((hI.grow n).heap rfl) (fun x hx ha => ?_) (by dsimp only; omega) ?_
  · simp [Array.getD_eq_getD_getElem?, Array.getElem?_replicate] at hk
    split at hk <;> simp at hk
  · rw [hleft] at hx
    obtain ⟨j, hj⟩ := List.mem_iff_getElem?.1 hx
    rw [List.getElem?_zipIdx] at hj
    cases hz : A[j]? with
    | none => rw [hz] at hj; cases hj
    | some z =>
      rw [hz] at hj
      simp at hj
      subst hj
      have := hG.rank j z hz ha
      rw [List.getElem?_append_right (by omega), List.getElem?_replicate, if_pos (by dsimp only; omega)]
  · rw [hleft]
    have : A.zipIdx.map (·.1) = A := by
      apply List.ext_getElem?
      intro j
      rw [List.getElem?_map, List.getElem?_zipIdx]
      cases A[j]? <;> simp
    rw [this]
    exact h
end
end Go.Ev
