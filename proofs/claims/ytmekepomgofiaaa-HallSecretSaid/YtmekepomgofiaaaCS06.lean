import Derived.Test.YtmekepomgofiaaaCS05
set_option linter.all false
section
namespace Go.Ev
/-! ### Blocks that are told by a function: as lists they are the same -/
def flatB : Blk → Blk
  | .arr n f => .cells (tabL n f)
  | x => x
def flatX (x : Nat × Blk) : Nat × Blk := (x.1, flatB x.2)
section
variable {K : Cust} {P : Program} {o : Oper} {a : Act} {w w' : World} {ρ ρ' : List Own} {hp : List Blk} {sl : List D} {nid : Nat} {out : Out}
theorem tabL_get {n : Nat} {f : Nat → D} {j : Nat} {d : D} : (tabL n f)[j]? = some d ↔ j < n ∧ d = f j := by
  unfold tabL
  rw [List.getElem?_map]
  by_cases h : j < n
  · rw [List.getElem?_range h]
    simp [h, eq_comm]
  · rw [List.getElem?_eq_none (by simpa using h)]
    simp [h]
theorem tabL_length {n : Nat} {f : Nat → D} : (tabL n f).length = n := by simp [tabL]
theorem tabL_ext {cs : List D} {n : Nat} {f : Nat → D} (hl : cs.length = n) (h : ∀ j, j < n → cs[j]? = some (f j)) : cs = tabL n f := by
  apply List.ext_getElem?
  intro j
  by_cases hj : j < n
  · rw [h j hj, tabL_get.2 ⟨hj, rfl⟩]
  · rw [List.getElem?_eq_none (by omega), List.getElem?_eq_none (by rw [tabL_length]; omega)]
theorem RepB_flat {M : World} {ow : Own} {x : Blk} : RepB K w M ρ ow (flatB x) ↔ RepB K w M ρ ow x := by
  cases x with
  | arr n f =>
    cases ow with
    | live b m =>
      show (∃ vs ty, _ ∧ _ ∧ ReadsL K M ρ (tabL n f) vs) ↔ (∃ vs ty, _)
      constructor
      · rintro ⟨vs, ty, h1, h2, h3⟩
        have h4 := readsL_size h3
        rw [tabL_length] at h4
        exact ⟨vs, ty, h1, h2, by omega, fun j hj => h3 j _ (tabL_get.2 ⟨hj, rfl⟩)⟩
      · rintro ⟨vs, ty, h1, h2, h3, h4⟩
        refine ⟨vs, ty, h1, h2, fun j d hj => ?_⟩
        obtain ⟨hj', rfl⟩ := tabL_get.1 hj
        exact h4 j hj'
    | fresh => exact Iff.rfl
    | dead => exact Iff.rfl
  | _ => exact Iff.rfl
theorem flatB_dead {x : Blk} : flatB x = .dead ↔ x = .dead := by cases x <;> simp [flatB]
theorem flat_get {i : Nat} : (hp.map flatB)[i]? = some .dead ↔ hp[i]? = some .dead := by
  rw [List.getElem?_map]
  cases hp[i]? with
  | none => simp
  | some x => simp [flatB_dead]
theorem OK_flat : OK K w ρ (hp.map flatB) ↔ OK K w ρ hp := by
  constructor
  · intro h
    refine ⟨by simpa using h.len, h.lt, h.inj, fun i x hx => ?_, h.hid, h.apart⟩
    exact RepB_flat.1 (h.blk i (flatB x) (by rw [List.getElem?_map, hx]; rfl))
  · intro h
    refine ⟨by simpa using h.len, h.lt, h.inj, fun i x hx => ?_, h.hid, h.apart⟩
    rw [List.getElem?_map] at hx
    cases hy : hp[i]? with
    | none => rw [hy] at hx; cases hx
    | some y =>
      rw [hy] at hx
      simp only [Option.map_some, Option.some.injEq] at hx
      rw [← hx]
      exact RepB_flat.2 (h.blk i y hy)
theorem app_flat : ∀ (δ : List (Nat × Blk)) (hp : List Blk), (app δ hp).map flatB = app (δ.map flatX) (hp.map flatB)
  | [], hp => rfl
  | x :: δ, hp => by
    show (app δ (hp.set x.1 x.2)).map flatB = app (δ.map flatX) ((hp.map flatB).set x.1 (flatB x.2))
    rw [app_flat δ, List.map_set]
theorem Eff.unflat {δ : List (Nat × Blk)} {g : List Blk} (h : Eff K w ρ (hp.map flatB) nid w' ρ' (δ.map flatX) (g.map flatB)) : Eff K w ρ hp nid w' ρ' δ g := by
  refine ⟨h.size, fun b hb hv => h.keep b hb fun i n hi => flat_get.2 (hv i n hi), h.new, by simpa using h.len, h.le, fun hp2 hle hk => ?_, fun i h1 h2 => ?_, h.fr, h.env⟩
  · have := h.ok (hp2.map flatB) ⟨by simpa using hle.1, fun i => ?_⟩ (OK_flat.2 hk)
    · rw [← app_flat, ← List.map_append] at this
      exact OK_flat.1 this
    · rcases hle.2 i with e | e
      · left; rw [List.getElem?_map, List.getElem?_map, e]
      · right; exact flat_get.2 e
  · obtain ⟨q1, q2⟩ := h.hid i (flat_get.2 h1) h2
    refine ⟨fun x hx => ?_, q2⟩
    exact q1 (flatX x) (List.mem_map.2 ⟨x, hx, rfl⟩)
/-- an operation that is carried out upon lists is so upon functions -/
theorem does_flat {p : Option Prop} (h : Does P o a w (Res K w ρ (hp.map flatB) nid ⟨p, out.d, out.δ.map flatX, out.grow.map flatB⟩)) : Does P o a w (Res K w ρ hp nid out) := by
  intro next Q hn
  refine h next Q fun v w' hr => hn v w' ?_
  obtain ⟨ρ', h1, h2⟩ := hr
  exact ⟨ρ', h1, h2.unflat⟩
theorem cellsAt_flat {id n : Nat} {f : Nat → D} (h : getG hp id = some (.arr n f)) : cellsAt (hp.map flatB) id = some (tabL n f) := by
  unfold cellsAt
  rw [getG_eq] at h ⊢
  rw [List.getElem?_map, h]
  rfl
theorem tabF_get : ∀ (q : Nat) (f : Nat → D) (off : Nat), tabF f off q = (List.range q).map fun j => f (off + j)
  | 0, f, off => rfl
  | q + 1, f, off => by
    rw [tabF, tabF_get q f (off + 1), List.range_succ_eq_map]
    simp [Function.comp_def, Nat.add_assoc, Nat.add_comm 1]
theorem ofCells_tab {m : Nat} {f : Nat → D} {off : Nat} : (off < m → ofCells none (tabL m f) off = some (f off)) ∧ (∀ q, off + q ≤ m → ofCells (some q) (tabL m f) off = some (.agg (tabF f off q))) := by
  refine ⟨fun h => ?_, fun q h => ?_⟩
  · simp only [ofCells, getG_eq]
    exact tabL_get.2 ⟨h, rfl⟩
  · simp only [ofCells, lenG_eq, takeG_eq, dropG_eq, tabL_length]
    rw [if_pos h, tabF_get]
    congr 2
    apply List.ext_getElem?
    intro j
    rw [List.getElem?_take, List.getElem?_map]
    by_cases hj : j < q
    · rw [if_pos hj, List.getElem?_drop, List.getElem?_range hj, tabL_get.2 ⟨by omega, rfl⟩]
      rfl
    · rw [if_neg hj, List.getElem?_eq_none (by simpa using hj)]
      rfl
theorem s_loadS {t : TypeId} {n : Option Nat} {x : Operand} (ho : o.op = .load t x) (ht : shapeT P t = some n) (hk : OK K w ρ hp) (hs : Slots K (mask K w ρ) ρ sl a.tmps) (h : c_loadS sl hp nid n x = some out) (hc : ∀ p, out.p = some p → p) : Does P o a w (Res K w ρ hp nid out) := by
  unfold c_loadS at h
  split at h
  · rename_i id off hd
    split at h
    · rename_i m f hm
      have key : ∀ d p, out = ⟨some p, d, [], []⟩ → ofCells n (tabL m f) off = some d → Does P o a w (Res K w ρ hp nid out) := fun d p e hof => by
        subst e
        refine does_flat (p := none) (s_load (nid := nid) ho ht (OK_flat.2 hk) hs ?_)
        unfold c_load
        rw [hd]
        simp only [cellsAt_flat hm, hof]
        rfl
      split at h
      · obtain rfl := (Option.some.inj h).symm
        exact key _ _ rfl (ofCells_tab.1 (hc _ rfl))
      · obtain rfl := (Option.some.inj h).symm
        exact key _ _ rfl (ofCells_tab.2 _ (hc _ rfl))
    · exact s_load (nid := nid) ho ht hk hs h
  · exact s_load (nid := nid) ho ht hk hs h
theorem updF_get : ∀ (ds : List D) (f : Nat → D) (off j : Nat), updF f off ds j = if h : off ≤ j ∧ j < off + ds.length then ds[j - off]'(by omega) else f j
  | [], f, off, j => by
    simp only [updF]
    rw [dif_neg (by rintro ⟨h1, h2⟩; simp only [List.length_nil] at h2; omega)]
  | [d], f, off, j => by
    simp only [updF]
    by_cases h : j = off
    · subst h
      rw [show Nat.beq j j = true from Nat.beq_refl j, dif_pos (by simp)]
      simp
    · have : Nat.beq j off = false := by
        cases hb : Nat.beq j off with
        | false => rfl
        | true => exact absurd (Nat.eq_of_beq_eq_true hb) h
      rw [this, dif_neg (by simp; omega)]
  | d :: e :: ds, f, off, j => by
    rw [updF, updF_get (e :: ds)]
    by_cases h : j = off
    · subst h
      rw [dif_neg (by omega), dif_pos (by simp), show Nat.beq j j = true from Nat.beq_refl j]
      simp
    · have hb : Nat.beq j off = false := by
        cases hb : Nat.beq j off with
        | false => rfl
        | true => exact absurd (Nat.eq_of_beq_eq_true hb) h
      by_cases h2 : off + 1 ≤ j ∧ j < off + 1 + (e :: ds).length
      · rw [dif_pos h2, dif_pos (by simp at h2 ⊢; omega)]
        have : j - off = (j - (off + 1)) + 1 := by omega
        simp only [this, List.getElem_cons_succ]
      · rw [dif_neg h2, dif_neg (by simp at h2 ⊢; omega), hb]
theorem put_tab {m : Nat} {f : Nat → D} {off : Nat} {new : List D} (h : off + new.length ≤ m) : put (tabL m f) off new = tabL m (updF f off new) := by
  refine tabL_ext (by rw [put_length _ _ _ (by rw [tabL_length]; exact h), tabL_length]) fun j hj => ?_
  rw [put_get _ _ _ _ (by rw [tabL_length]; exact h), updF_get]
  split
  · rename_i h1
    rw [List.getElem?_eq_getElem (by omega)]
  · exact tabL_get.2 ⟨hj, rfl⟩
theorem s_storeS {t : TypeId} {n : Nat} {x y : Operand} (ho : o.op = .store t x y) (ht : sizT P t = some n) (hk : OK K w ρ hp) (hs : Slots K (mask K w ρ) ρ sl a.tmps) (h : c_storeS sl hp nid n x y = some out) (hc : ∀ p, out.p = some p → p) : Does P o a w (Res K w ρ hp nid out) := by
  unfold c_storeS at h
  split at h
  · rename_i id off hd
    split at h
    · rename_i m f hm
      split at h
      · rename_i new hnew
        split at h
        · rename_i hcc
          obtain rfl := (Option.some.inj h).symm
          have hle := hc _ rfl
          simp only [Bool.and_eq_true] at hcc
          have hl := Nat.eq_of_beq_eq_true hcc.1
          rw [lenG_eq] at hl
          refine does_flat (p := none) (s_store (nid := nid) ho ht (OK_flat.2 hk) hs ?_)
          unfold c_store
          rw [hd]
          simp only [hnew, cellsAt_flat hm, tabL_length]
          rw [if_pos ⟨hl, hle, hcc.2⟩, put_tab (by omega)]
          rfl
        · cases h
      · cases h
    · exact s_store (nid := nid) ho ht hk hs h
  · exact s_store (nid := nid) ho ht hk hs h
theorem mulN_eq (a k : Nat) : mulN a k = a * k := by
  unfold mulN
  split
  · rename_i h
    have := Nat.eq_of_beq_eq_true h
    subst this
    omega
  · rfl
theorem addN_eq (a b : Nat) : addN a b = a + b := by
  unfold addN
  split
  · omega
  · rfl
theorem getK_some {l : List D} {j : Nat} (h : j < l.length) : l[j]? = some (getK l j) := by
  rw [getK_eq, List.getD_eq_getElem?_getD, List.getElem?_eq_getElem h]
  rfl
theorem zF_get {z : List D} {k j : Nat} (hz : z.length = k) (hk : 0 < k) : z[j % k]? = some (zF z k j) := by
  have hj : j % k < k := Nat.mod_lt _ hk
  unfold zF
  cases hb : Nat.beq k 1 with
  | true =>
    have := Nat.eq_of_beq_eq_true hb
    subst this
    match z, hz with
    | [d], _ =>
      have : j % 1 = 0 := by omega
      rw [this]
      rfl
  | false => exact getK_some (by omega)
theorem s_mkSliceS {t e : TypeId} {i : TypeInfo} {z : List D} {x y : Operand} (ho : o.op = .makeSlice t x y) (he : elemT P t = some e) (hi : P.info? e = some i) (hz : zeroT P e = some z) (hk0 : 0 < i.size) (hzl : z.length = i.size)
    (hk : OK K w ρ hp) (hn : ρ[nid]? = some .fresh) (hs : Slots K (mask K w ρ) ρ sl a.tmps) (h : c_mkSliceS sl hp nid i.size i.bytes z x y = some out) (hc : ∀ p, out.p = some p → p) : Does P o a w (Res K w ρ hp nid out) := by
  unfold c_mkSliceS at h
  split at h
  · rename_i kx l ky c hdx hdy
    split at h
    · obtain rfl := (Option.some.inj h).symm
      have hp := hc _ rfl
      refine does_flat (p := none) (s_mkSlice (nid := nid) ho he hi hz hk0 hzl (OK_flat.2 hk) hn hs ?_)
      unfold c_mkSlice
      rw [hdx, hdy]
      simp only
      rw [if_pos hp]
      congr 3
      simp only [List.map_cons, List.map_nil, flatX, flatB]
      congr 3
      refine (tabL_ext ?_ fun j hj => ?_)
      · rw [rep_length, hzl, mulN_eq]
      · rw [mulN_eq] at hj
        rw [rep_get (by omega) _ _ (by rw [hzl]; exact hj), hzl]
        exact zF_get hzl hk0
    · cases h
  · cases h
theorem seen_flat {id : Nat} (h : seen hp id = true) : ∃ cs, cellsAt (hp.map flatB) id = some cs := by
  unfold seen at h
  split at h
  · rename_i cs hh
    unfold cellsAt
    rw [getG_eq] at hh ⊢
    rw [List.getElem?_map, hh]
    exact ⟨cs, rfl⟩
  · rename_i n f hh
    exact ⟨_, cellsAt_flat hh⟩
  · cases h
theorem s_iaddrS {t e : TypeId} {x i : Operand} {k : Nat} (ho : o.op = .indexAddr t x i) (he : elemT P t = some e) (hk0 : sizT P e = some k) (hk : OK K w ρ hp)
    (hs : Slots K (mask K w ρ) ρ sl a.tmps) (h : c_iaddrS sl hp nid k x i = some out) (hc : ∀ p, out.p = some p → p) : Does P o a w (Res K w ρ hp nid out) := by
  unfold c_iaddrS at h
  split at h
  · rename_i id off len k' cap hd
    split at h
    · rename_i kk n hd2
      split at h
      · rename_i hcc
        simp only [Bool.and_eq_true] at hcc
        have hkk := Nat.eq_of_beq_eq_true hcc.1
        obtain ⟨cs, hcs⟩ := seen_flat hcc.2
        obtain rfl := (Option.some.inj h).symm
        have hp := hc _ rfl
        refine does_flat (p := none) (s_iaddr (ex := false) (nid := nid) ho he hk0 (OK_flat.2 hk) hs ?_ (fun p hp => by cases hp))
        unfold c_iaddr
        rw [hd, hd2]
        simp only
        rw [if_pos ⟨hkk, hp⟩, hcs, addN_eq, mulN_eq]
        rfl
      · cases h
    · cases h
  · exact s_iaddr (ex := true) (nid := nid) ho he hk0 hk hs h hc
theorem s_lenS {c : Call} {x : Operand} {t : TypeId} {d : TypeDesc} {str : Bool} (ho : o.op = .call c) (hc : c.callee = .builtin .len) (hca : c.args.toList = [x]) (ht : c.argTypes[0]? = some t) (hu : P.underlying t = some d) (hd : (str = true ∧ d = .string) ∨ (str = false ∧ ∃ e, d = .slice e)) (hk : OK K w ρ hp)
    (hs : Slots K (mask K w ρ) ρ sl a.tmps) (h : c_lenS sl hp nid str x = some out) : Does P o a w (Res K w ρ hp nid out) := by
  unfold c_lenS at h
  split at h
  · rename_i id off n k cap hdx
    split at h
    · rename_i hseen
      split at h
      · obtain ⟨cs, hcs⟩ := seen_flat hseen
        obtain rfl := (Option.some.inj h).symm
        refine does_flat (p := none) (s_len (nid := nid) ho hc hca ht hu hd (OK_flat.2 hk) hs ?_)
        unfold c_len
        rw [hdx]
        simp only [hcs]
        rfl
      · cases h
    · cases h
  · exact s_len (nid := nid) ho hc hca ht hu hd hk hs h
theorem rowF_get {f : Nat → List D} {k m j : Nat} (hk : 0 < k) (hf : ∀ i, i < m → (f i).length = k) (hj : j < m * k) : (f (j / k))[j % k]? = some (rowF f k j) := by
  have h1 : j / k < m := by rw [Nat.div_lt_iff_lt_mul hk]; exact hj
  have h2 := hf _ h1
  have h3 : j % k < k := Nat.mod_lt _ hk
  unfold rowF
  cases hb : Nat.beq k 1 with
  | true =>
    have := Nat.eq_of_beq_eq_true hb
    subst this
    have e1 : j / 1 = j := by omega
    have e2 : j % 1 = 0 := by omega
    rw [e1] at h2 ⊢
    rw [e2]
    exact getK_some (by omega)
  | false => exact getK_some (by omega)
theorem flatMap_get {f : Nat → List D} {k : Nat} (hk : 0 < k) : ∀ (m j : Nat), (∀ i, i < m → (f i).length = k) → j < m * k → ((List.range m).flatMap f)[j]? = (f (j / k))[j % k]? ∧ ((List.range m).flatMap f).length = m * k
  | 0, j, _, hj => by omega
  | m + 1, j, hf, hj => by
    rw [List.range_succ, List.flatMap_append]
    have e : [m].flatMap f = f m := by simp
    rw [e]
    have hlen : ((List.range m).flatMap f).length = m * k := by
      clear hj e
      induction m with
      | zero => simp
      | succ m ih =>
        rw [List.range_succ, List.flatMap_append]
        simp only [List.flatMap_cons, List.flatMap_nil, List.append_nil, List.length_append]
        rw [ih (fun i hi => hf i (by omega)), hf m (by omega), Nat.add_mul, Nat.one_mul]
    refine ⟨?_, by rw [List.length_append, hlen, hf m (by omega), Nat.add_mul, Nat.one_mul]⟩
    by_cases hm : j < m * k
    · rw [List.getElem?_append_left (by omega)]
      exact (flatMap_get hk m j (fun i hi => hf i (by omega)) hm).1
    · rw [List.getElem?_append_right (by omega), hlen]
      have hj' : j < m * k + k := by rw [Nat.add_mul, Nat.one_mul] at hj; exact hj
      have hd : j / k = m := by
        rw [Nat.div_eq_iff hk]
        constructor
        · omega
        · omega
      have hmod : j % k = j - m * k := by
        have := Nat.div_add_mod j k
        rw [hd] at this
        rw [Nat.mul_comm m k]
        omega
      rw [hd, hmod]
theorem flatMap_len {f : Nat → List D} {k : Nat} : ∀ (m : Nat), (∀ i, i < m → (f i).length = k) → ((List.range m).flatMap f).length = m * k
  | 0, _ => by simp
  | m + 1, hf => by
    rw [List.range_succ, List.flatMap_append]
    simp only [List.flatMap_cons, List.flatMap_nil, List.append_nil, List.length_append]
    rw [flatMap_len m (fun i hi => hf i (by omega)), hf m (by omega), Nat.add_mul, Nat.one_mul]
theorem contents_flat {k : Nat} {d : D} {x : Nat × List D} (h : contents hp k d = some x) : contents (hp.map flatB) k d = some x := by
  unfold contents at h ⊢
  split at h
  · exact h
  · rename_i id off len k' cap
    split at h
    · split at h
      · rename_i cs hcs
        have : cellsAt (hp.map flatB) id = some cs := by
          unfold cellsAt at hcs ⊢
          rw [getG_eq] at hcs ⊢
          rw [List.getElem?_map]
          split at hcs
          · rename_i cs' hh
            rw [hh]
            exact hcs
          · cases hcs
        simp only [this]
        rw [if_pos (by assumption)]
        exact h
      · cases h
    · cases h
  · exact h
  · exact h
  · cases h
theorem secondA_some {k : Nat} {d : D} {p : Prop} {m b : Nat} {h : Nat → D} (hs : secondA hp k d = some (p, m, b, h)) (hp' : p) : contents (hp.map flatB) k d = some (m, tabL b h) ∧ b = m * k ∧ (tabL b h).all okCell = true := by
  unfold secondA at hs
  split at hs
  · rename_i id _ _ _
    split at hs
    · rename_i hkk
      have hk1 := Nat.eq_of_beq_eq_true hkk
      subst hk1
      split at hs
      · rename_i q h' hh
        cases hs
        obtain ⟨h1, h2⟩ := hp'
        have hcs : cellsAt (hp.map flatB) id = some (tabL b h) := by
          unfold cellsAt
          rw [getG_eq] at hh ⊢
          rw [List.getElem?_map, hh]
          rfl
        refine ⟨?_, h1.symm, ?_⟩
        · unfold contents
          simp only [if_true, hcs, tabL_length]
          rw [if_pos (by omega)]
          congr 2
          rw [List.drop_zero, List.take_of_length_le (by rw [tabL_length]; omega)]
        · rw [List.all_eq_true]
          intro x hx
          unfold tabL at hx
          obtain ⟨j, hj, rfl⟩ := List.mem_map.1 hx
          exact h2 j (List.mem_range.1 hj)
      · cases hs
    · cases hs
  · cases hs
theorem secondS_some {k : Nat} (hk0 : 0 < k) {d : D} {p : Prop} {m b : Nat} {h : Nat → D} (hs : secondS hp k d = some (p, m, b, h)) (hp' : p) : contents (hp.map flatB) k d = some (m, tabL b h) ∧ b = m * k ∧ (tabL b h).all okCell = true := by
  unfold secondS at hs
  split at hs
  · rename_i k' m' f
    split at hs
    · rename_i hkk
      have := Nat.eq_of_beq_eq_true hkk
      subst this
      cases hs
      have hf : ∀ i, i < m → (f i).length = k' := fun i hi => (hp' i hi).1
      have e : (List.range m).flatMap f = tabL (mulN m k') (rowF f k') := by
        rw [mulN_eq]
        refine tabL_ext (flatMap_len m hf) fun j hj => ?_
        rw [(flatMap_get hk0 m j hf hj).1]
        exact rowF_get hk0 hf hj
      refine ⟨?_, mulN_eq _ _, ?_⟩
      · unfold contents
        simp only
        rw [if_pos ⟨trivial, by
          rw [List.all_eq_true]
          intro i hi
          simp [hf i (List.mem_range.1 hi)]⟩, e]
      · rw [← e, List.all_eq_true]
        intro x hx
        obtain ⟨i, hi, hxi⟩ := List.mem_flatMap.1 hx
        exact List.all_eq_true.1 (hp' i (List.mem_range.1 hi)).2 x hxi
    · cases hs
  · split at hs
    · rename_i r hr
      rw [Option.some.inj hs] at hr
      exact secondA_some hr hp'
    · split at hs
      · rename_i m' b' hc
        split at hs
        · rename_i hcc
          cases hs
          simp only [Bool.and_eq_true] at hcc
          have hl := Nat.eq_of_beq_eq_true hcc.2
          have e : tabL (lenG b') (getK b') = b' := by
            rw [lenG_eq]
            exact (tabL_ext rfl fun j hj => getK_some hj).symm
          rw [e]
          exact ⟨contents_flat hc, hl, hcc.1⟩
        · cases hs
      · cases hs
theorem firstS_some {k : Nat} {d : D} {p : Prop} {id n q : Nat} {g : Nat → D} (hs : firstS hp k d = some (p, id, n, q, g)) (hp' : p) : d = .sl id 0 n k none ∧ cellsAt (hp.map flatB) id = some (tabL q g) ∧ n * k = q := by
  unfold firstS at hs
  split at hs
  · rename_i id' off n' k'
    split at hs
    · rename_i hcc
      simp only [Bool.and_eq_true] at hcc
      have h1 := Nat.eq_of_beq_eq_true hcc.1
      have h2 := Nat.eq_of_beq_eq_true hcc.2
      subst h1 h2
      split at hs
      · rename_i cs hh
        split at hs
        · rename_i hl
          cases hs
          have hl := Nat.eq_of_beq_eq_true hl
          refine ⟨rfl, ?_, hl⟩
          have e : tabL (lenG cs) (getK cs) = cs := by
            rw [lenG_eq]
            exact (tabL_ext rfl fun j hj => getK_some hj).symm
          rw [e]
          unfold cellsAt
          rw [getG_eq] at hh ⊢
          rw [List.getElem?_map, hh]
          rfl
        · cases hs
      · rename_i q' g' hh
        cases hs
        exact ⟨rfl, cellsAt_flat hh, hp'⟩
      · cases hs
    · cases hs
  · cases hs
theorem s_appE {c : Call} {x y : Operand} {t u e e2 : TypeId} {i : TypeInfo} {z : List D} (ho : o.op = .call c) (hc : c.callee = .builtin .append) (hca : c.args.toList = [x, y]) (ht : c.argTypes[0]? = some t) (hu : c.argTypes[1]? = some u)
    (he : elemT P t = some e) (hue : P.underlying u = some (.slice e2)) (hi : P.info? e = some i) (hz : zeroT P e = some z) (hzl : z.length = i.size) (hk0 : 0 < i.size) (hbytes : i.bytes ≤ 65536) (hk : OK K w ρ hp)
    (hs : Slots K (mask K w ρ) ρ sl a.tmps) (h : c_appE sl i.size x y = some out) (hcond : ∀ p, out.p = some p → p) : Does P o a w (Res K w ρ hp nid out) := by
  have hx := evO_rep hs x
  have hy := evO_rep hs y
  unfold c_appE at h
  split at h
  · rename_i hdx
    rw [hdx] at hx
    simp only [Rep] at hx
    obtain ⟨b0, o0, c0, ex, hc0⟩ := hx
    obtain rfl := hc0 trivial
    split at h
    · rename_i k' m f hdy
      split at h
      · rename_i hk'
        obtain rfl := Nat.eq_of_beq_eq_true hk'
        obtain rfl := (Option.some.inj h).symm
        obtain ⟨c1, c2⟩ := hcond _ rfl
        have h2 : secondS hp i.size (evO sl y) = some ((∀ j, j < m → (f j).length = i.size ∧ (f j).all okCell = true), m, mulN m i.size, rowF f i.size) := by
          rw [hdy]
          show (match Nat.beq i.size i.size with | true => _ | false => _) = _
          rw [show Nat.beq i.size i.size = true from Nat.beq_refl i.size]
        obtain ⟨g1, g2, g3⟩ := secondS_some hk0 h2 c1
        obtain ⟨qx, cx, ey, hmcx, lB, hqx0, vx, lvx, rB, fB⟩ := contents_run (P := P) (OK_flat.2 hk) hy g1
        have hsz : sizT P e = some i.size := by simp [sizT, hi]
        have hnew : ∀ w2 : World, w2.heap = w.heap → (Builtin.firstCells i.size m (a.eval y)).run P w2 = .ok vx.toArray w2 := fun w2 hw2 => by
          have := fB m (Nat.le_refl _) w2 hw2
          rwa [List.take_of_length_le (by omega)] at this
        have hly : ∀ w2 : World, (Builtin.lenOf (a.eval y)).run P w2 = .ok m w2 := fun w2 => by rw [ey]; rfl
        rcases Nat.eq_zero_or_pos m with hm0 | hm0
        · subst hm0
          have r := append_in ho hc hca ht hu he hue (by simp) hsz ex hly (hnew w rfl) (by omega)
          obtain rfl : vx = [] := by
            rw [Nat.zero_mul] at lvx
            exact List.eq_nil_of_length_eq_zero lvx
          simp only [storeCells, Sem.run_pure, Result.andThen_ok] at r
          refine quiet r ?_
          simp only [Rep]
          exact .inr ⟨b0, o0, 0, rfl, Nat.le_refl _, fun j hj => by omega⟩
        · obtain ⟨i', zv, z1, z2, z3⟩ := zeroT_some hz
          rw [hi] at z1
          cases z1
          have hold : ∀ w2 : World, w2.heap = w.heap → (Builtin.firstCells i.size 0 (a.eval x)).run P w2 = .ok ([] : List Value).toArray w2 := fun w2 hw2 => by
            rw [ex]
            simp [Builtin.firstCells, loadCells, loadCellsFrom]
          obtain ⟨nc, dr, hnc, hrun⟩ := append_new ho hc hca ht hu he hue (by simp) hi z2 hbytes (by omega) ex hly hold hnew (by omega)
          refine does_value hrun ⟨ρ, ?_, Eff.foreign (by simp) (fun c hcl => by rw [Array.getElem?_push_lt hcl, Array.getElem?_eq_getElem hcl]) ⟨rfl, rfl, rfl⟩⟩
          have hnl : ¬ isLive K ρ w.heap.size := by
            rintro (hh | ⟨j, q, hj⟩)
            · exact Nat.lt_irrefl _ (hk.hid _ hh)
            · exact Nat.lt_irrefl _ (hk.lt _ _ _ hj)
          simp only [Rep]
          refine .inr ⟨w.heap.size, 0, nc, by rw [Nat.zero_add], by omega, fun j hj => reads_C fun q d hq => ?_⟩
          obtain ⟨l1, l2⟩ := c1 j hj
          have hqk : q < i.size := by rw [← l1]; exact (List.getElem?_eq_some_iff.1 hq).1
          have hlt : j * i.size + q < m * i.size := by
            have : (j + 1) * i.size ≤ m * i.size := Nat.mul_le_mul_right _ hj
            rw [Nat.add_mul, Nat.one_mul] at this
            omega
          have hmul : mulN m i.size = m * i.size := by
            unfold mulN
            cases h1 : Nat.beq i.size 1 with
            | true =>
              have := Nat.eq_of_beq_eq_true h1
              simp [this]
            | false => rfl
          have hrow : rowF f i.size (j * i.size + q) = d := by
            unfold rowF
            cases h1 : Nat.beq i.size 1 with
            | true =>
              have h1 := Nat.eq_of_beq_eq_true h1
              obtain rfl : q = 0 := by omega
              simp only
              have : j * i.size + 0 = j := by rw [h1]; omega
              rw [this, getK_eq, List.getD_eq_getElem?_getD, hq]
              rfl
            | false =>
              simp only
              have e1 : (j * i.size + q) / i.size = j := by rw [Nat.mul_comm, Nat.mul_add_div hk0, Nat.div_eq_of_lt hqk]; rfl
              have e2 : (j * i.size + q) % i.size = q := by rw [Nat.mul_comm, Nat.mul_add_mod, Nat.mod_eq_of_lt hqk]
              rw [e1, e2, getK_eq, List.getD_eq_getElem?_getD, hq]
              rfl
          have hBg : (tabL (mulN m i.size) (rowF f i.size))[j * i.size + q]? = some d := tabL_get.2 ⟨by rw [hmul]; exact hlt, hrow.symm⟩
          obtain ⟨v, v1, v2⟩ := repL_get rB hBg
          have hsub : Sub (mask K w ρ) (mask K { w with heap := w.heap.push (Obj.cells (([] ++ vx).toArray ++ Builtin.zeroCells zv.cells (nc - (0 + m))) e (0, 0)), drawn := dr } ρ) := fun c cs ty fr hh => by
            rw [mask_some] at *
            refine ⟨hh.1, ?_⟩
            have hcl := lt_of_cells hh.2
            show (w.heap.push _)[c]? = _
            rw [Array.getElem?_push_lt hcl, ← Array.getElem?_eq_getElem hcl]
            exact hh.2
          refine ⟨v, ?_, Rep.mono hsub (OwnLe.refl ρ) _ _ v2⟩
          have hvis : (mask K { w with heap := w.heap.push (Obj.cells (([] ++ vx).toArray ++ Builtin.zeroCells zv.cells (nc - (0 + m))) e (0, 0)), drawn := dr } ρ).heap[w.heap.size]? = some (Obj.cells (([] ++ vx).toArray ++ Builtin.zeroCells zv.cells (nc - (0 + m))) e (0, 0)) := mask_some.2 ⟨hnl, by simp⟩
          rw [cell_of hvis, Nat.zero_add]
          have hvl : j * i.size + q < vx.length := by rw [lvx]; exact hlt
          rw [Array.getElem?_append_left (by simpa using hvl)]
          simpa using v1
      · cases h
    · cases h
  · cases h
theorem s_appendS {c : Call} {x y : Operand} {t u e e2 : TypeId} {i : TypeInfo} {z : List D} (ho : o.op = .call c) (hc : c.callee = .builtin .append) (hca : c.args.toList = [x, y]) (ht : c.argTypes[0]? = some t) (hu : c.argTypes[1]? = some u)
    (he : elemT P t = some e) (hue : P.underlying u = some (.slice e2)) (hi : P.info? e = some i) (hz : zeroT P e = some z) (hzl : z.length = i.size) (hk0 : 0 < i.size) (hbytes : i.bytes ≤ 65536) (hk : OK K w ρ hp) (hn : ρ[nid]? = some .fresh)
    (hs : Slots K (mask K w ρ) ρ sl a.tmps) (h : c_appendS sl hp nid i.size x y = some out) (hcond : ∀ p, out.p = some p → p) : Does P o a w (Res K w ρ hp nid out) := by
  unfold c_appendS at h
  split at h
  · split at h
    · rename_i p id n q g p2 m b hh h1 h2
      obtain rfl := (Option.some.inj h).symm
      obtain ⟨c1, c2, c3⟩ := hcond _ rfl
      obtain ⟨f1, f2, f3⟩ := firstS_some h1 c1
      obtain ⟨g1, g2, g3⟩ := secondS_some hk0 h2 c2
      have hA : contents (hp.map flatB) i.size (evO sl x) = some (n, tabL q g) := by
        rw [f1]
        unfold contents
        simp only [if_true, f2, tabL_length]
        rw [if_pos (by omega), f3]
        congr 2
        rw [List.drop_zero, List.take_of_length_le (by rw [tabL_length]; exact Nat.le_refl _)]
      have hcat : tabL q g ++ tabL b hh = tabL (q + b) (catF q g hh) := by
        refine tabL_ext (by rw [List.length_append, tabL_length, tabL_length]) fun j hj => ?_
        unfold catF
        cases hb0 : Nat.beq q 0 with
        | true =>
          have := Nat.eq_of_beq_eq_true hb0
          subst this
          rw [List.getElem?_append_right (by rw [tabL_length]; omega), tabL_length]
          exact tabL_get.2 ⟨by omega, rfl⟩
        | false =>
          simp only
          cases h0 : Nat.ble (j + 1) q with
          | true =>
            have := Nat.le_of_ble_eq_true h0
            rw [List.getElem?_append_left (by rw [tabL_length]; omega)]
            exact tabL_get.2 ⟨by omega, rfl⟩
          | false =>
            have : q ≤ j := by
              rcases Nat.lt_or_ge j q with h' | h'
              · rw [Nat.ble_eq_true_of_le (by omega)] at h0; cases h0
              · exact h'
            rw [List.getElem?_append_right (by rw [tabL_length]; omega), tabL_length]
            exact tabL_get.2 ⟨by omega, rfl⟩
      refine does_flat (p := none) (s_append (nid := nid) ho hc hca ht hu he hue hi hz hzl hk0 hbytes (OK_flat.2 hk) hn hs ?_)
      unfold c_append
      rw [hA, g1]
      simp only
      rw [if_pos ⟨c3, g3⟩, f1]
      unfold appendTo
      simp only [f2, tabL_length]
      rw [if_pos ⟨trivial, trivial, f3⟩, hcat]
      rfl
    · exact s_appE ho hc hca ht hu he hue hi hz hzl hk0 hbytes hk hs h hcond
  · exact s_append (nid := nid) ho hc hca ht hu he hue hi hz hzl hk0 hbytes hk hn hs h
/-- a new block of one's own, somewhere among what is new -/
theorem Eff.new_at {b n : Nat} {x : Blk} (hsz : w.heap.size ≤ w'.heap.size) (hkeep : ∀ c : Nat, c < w.heap.size → w'.heap[c]? = w.heap[c]?) (hb : w.heap.size ≤ b) (hb2 : b < w'.heap.size)
    (hn : ρ[nid]? = some Own.fresh) (hlt : ∀ i b n : Nat, ρ[i]? = some (Own.live b n) → b < w.heap.size)
    (hx : RepB K w' (mask K w' (ρ.set nid (.live b n))) (ρ.set nid (.live b n)) (.live b n) x) (he : Env w w') : Eff K w ρ hp nid w' (ρ.set nid (.live b n)) [(nid, x)] [] := by
  have hi : nid < ρ.length := (List.getElem?_eq_some_iff.1 hn).1
  have hnew : ∀ c, isLive K (ρ.set nid (.live b n)) c → isLive K ρ c ∨ w.heap.size ≤ c := by
    rintro c (hh | ⟨i, m, h⟩)
    · exact .inl (.inl hh)
    rw [List.getElem?_set] at h
    split at h
    · simp [hi] at h
      exact .inr (by omega)
    · exact .inl (.inr ⟨i, m, h⟩)
  have hle : OwnLe ρ (ρ.set nid (.live b n)) := fresh_le hn
  have hsub : Sub (mask K w ρ) (mask K w' (ρ.set nid (.live b n))) := by
    intro c cs ty fr hc
    rw [mask_some] at hc ⊢
    refine ⟨fun hl => ?_, ?_⟩
    · rcases hnew c hl with hl | hl
      · exact hc.1 hl
      · exact absurd (lt_of_cells hc.2) (Nat.not_lt.2 hl)
    · rw [hkeep c (lt_of_cells hc.2)]; exact hc.2
  refine ⟨hsz, fun c hc _ => hkeep c hc, hnew, by simp, hle, fun hp2 _ hk => ?_, fun i h1 h2 => ?_, fun i h1 h2 => by rw [List.getElem?_set, if_neg (Ne.symm h2)]; exact h1, he⟩
  rotate_left
  · have hne : nid ≠ i := fun e => h2 (e ▸ hn)
    refine ⟨fun y hy => ?_, by rw [List.getElem?_set, if_neg hne]⟩
    rw [List.mem_singleton] at hy
    subst hy
    exact hne
  rw [List.append_nil]
  refine ⟨by simp [app, hk.len], fun i c m h => ?_, fun i j c m m' h1 h2 => ?_, fun i y hy => ?_, fun c hc => Nat.lt_of_lt_of_le (hk.hid c hc) hsz, fun i c m h hh => ?_⟩
  · rw [List.getElem?_set] at h
    split at h
    · simp [hi] at h; omega
    · have := hk.lt i c m h; omega
  · rw [List.getElem?_set] at h1 h2
    split at h1 <;> split at h2
    · omega
    · simp [hi] at h1
      have := hlt _ _ _ h2
      omega
    · simp [hi] at h2
      have := hlt _ _ _ h1
      omega
    · exact hk.inj i j c m m' h1 h2
  · simp only [app, List.foldl_cons, List.foldl_nil, List.getElem?_set] at hy
    rw [own_set hi]
    split at hy
    · rename_i e
      rw [if_pos e]
      have : y = x := by
        split at hy
        · exact (Option.some.inj hy).symm
        · cases hy
      rw [this]
      exact hx
    · rename_i e
      rw [if_neg e]
      exact (hk.blk i y hy).mono hsub hle fun c m hc => hkeep c (hk.lt i c m (own_live hc))
  · rw [List.getElem?_set] at h
    split at h
    · simp [hi] at h
      have := hk.hid c hh
      omega
    · exact hk.apart i c m h hh
theorem s_s2bS {s d e : TypeId} {x : Operand} (ho : o.op = .convert s d x) (h1 : P.underlying s = some .string) (h2 : P.underlying d = some (.slice e)) (h3 : isU8 P e = true) (hk : OK K w ρ hp) (hn : ρ[nid]? = some .fresh)
    (hs : Slots K (mask K w ρ) ρ sl a.tmps) (h : c_s2bS sl hp nid x = some out) : Does P o a w (Res K w ρ hp nid out) := by
  have hx := evO_rep hs x
  have he := isU8_some h3
  unfold c_s2bS at h
  split at h
  · rename_i u hu
    rw [hu] at hx
    simp only [Rep] at hx
    obtain rfl := (Option.some.inj h).symm
    have run : (execOp a.eval o).run P w = .ok (.value (.slice (some ⟨w.heap.size, 0, none⟩) u.size (grownCap w u.size 0 e))) (Lib.bytesWorld w e u) := by
      simp [execOp, ho, hx, Lib.run_convert_string_bytes w s d e u h1 h2 he]
    have hcap : u.size ≤ grownCap w u.size 0 e := by
      simp [grownCap, Question.cut]
    have hN : (Lib.bytesCells w e u).size = grownCap w u.size 0 e := by
      simp only [Lib.bytesCells, Array.size_append, Array.size_map, Array.size_replicate]
      show u.size + (grownCap w u.size 0 e - u.size) = _
      omega
    have hi : nid < ρ.length := (List.getElem?_eq_some_iff.1 hn).1
    refine does_value run ⟨ρ.set nid (.live w.heap.size (Lib.bytesCells w e u).size), ?_, Eff.new_at (by rw [Lib.bytesWorld_size]; omega) (fun b hb => Lib.bytesWorld_at_old w e u b hb) (Nat.le_refl _) (by rw [Lib.bytesWorld_size]; omega) hn hk.lt ?_ ⟨rfl, rfl, rfl⟩⟩
    · simp only [Rep, own_set hi, if_true]
      exact ⟨_, rfl, hcap, by rw [hN]; omega, by rw [hN]; omega⟩
    · refine ⟨Lib.bytesCells w e u, (e, _, _), Lib.bytesWorld_at_new w e u, ⟨rfl, .inr rfl⟩, by rw [hN]; exact hcap, fun j hj => ⟨.int .u8 (byteI u j), ?_, by simp only [Rep]⟩⟩
      have hc := Lib.bytesWorld_cell w e u j hj
      unfold World.cell? at hc
      simp only [Lib.bytesWorld_at_new] at hc
      exact hc
  · cases h
theorem row_bytes {n : Nat} {f : Nat → List D} (h : ∀ i, i < n → f i = [.val (.int .u8 (cellI (f i)))]) : ∀ l : List Nat, (∀ i ∈ l, i < n) → bytesB (l.flatMap f) = some (l.map fun i => UInt8.ofNat (cellI (f i)).toNat)
  | [], _ => rfl
  | i :: l, hl => by
    have h0 := h i (hl i (List.mem_cons_self ..))
    have ih := row_bytes h l fun j hj => hl j (List.mem_cons_of_mem _ hj)
    rw [List.flatMap_cons, List.map_cons]
    generalize cellI (f i) = z at *
    rw [h0]
    show (match bytesB (l.flatMap f) with | some r => some (UInt8.ofNat z.toNat :: r) | none => none) = _
    rw [ih]
theorem s_b2sS {s d e : TypeId} {x : Operand} (ho : o.op = .convert s d x) (h1 : P.underlying s = some (.slice e)) (h2 : P.underlying d = some .string) (h3 : isU8 P e = true) (hk : OK K w ρ hp)
    (hs : Slots K (mask K w ρ) ρ sl a.tmps) (h : c_b2sS sl hp nid x = some out) (hc : ∀ p, out.p = some p → p) : Does P o a w (Res K w ρ hp nid out) := by
  unfold c_b2sS at h
  split at h
  · rename_i n f hu
    obtain rfl := (Option.some.inj h).symm
    have hcond := hc _ rfl
    have key : c_b2s sl hp nid x = some ⟨none, .val (.string ⟨⟨(List.range n).map fun i => UInt8.ofNat (cellI (f i)).toNat⟩⟩), [], []⟩ := by
      unfold c_b2s
      rw [hu]
      have : (1 = 1 ∧ (List.range n).all (fun i => (f i).length == 1) = true) := by
        refine ⟨rfl, ?_⟩
        rw [List.all_eq_true]
        intro i hi
        rw [hcond i (List.mem_range.1 hi)]
        rfl
      have hct : contents hp 1 (.row 1 n f) = some (n, (List.range n).flatMap fun i => f i) := by
        unfold contents
        exact if_pos this
      rw [hct]
      have hrb : bytesB ((List.range n).flatMap fun i => f i) = some ((List.range n).map fun i => UInt8.ofNat (cellI (f i)).toNat) := row_bytes hcond (List.range n) fun i hi => List.mem_range.1 hi
      simp only [hrb]
      rfl
    have hh := s_b2s (nid := nid) ho h1 h2 h3 hk hs key
    exact hh
  · exact s_b2s ho h1 h2 h3 hk hs h
end
end Go.Ev
end
section
namespace Go.Ev
section
variable {K : Cust} {P : Program} {o : Oper} {a : Act} {w w' : World} {ρ : List Own} {hp : List Blk} {sl : List D} {nid : Nat} {out : Out} {ex : Bool} {cl : FuncId → List D → List Blk → Nat → Option Out}

theorem nilD_noMethod {d : D} {v : Value} (hk : OK K w ρ hp) (h : Rep K (mask K w ρ) ρ d v) (hn : nilD hp d = some false) : ∀ n f c, v ≠ .func (.method n) f c := by
  have h2 := nilD_false hk h hn
  intro n f c e
  subst e
  cases d <;> simp only [nilD, getG_eq] at hn <;> simp only [Rep] at h
  case val x => split at hn <;> cases hn
  case fn f' x y => obtain ⟨x, y, h, _⟩ := h; cases h
  case row => split at hn <;> first | cases hn; done | (rcases h with ⟨h, _⟩ | ⟨b, o, c, h, _⟩ <;> cases h)
  case ref => obtain ⟨b, o, h, _⟩ := h; cases h
  case emp => obtain ⟨b, o2, c, h, _⟩ := h; cases h
  case ptr id off =>
    split at h
    · cases h
    · rename_i hod0
      split at hn
      · cases hn
      · cases hn
      · rename_i h3 h4
        cases hh : hp[id]? with
        | none => exact h4 hh
        | some x =>
          obtain ⟨b, n, ho⟩ := hp_live hk hh (fun e => h3 (e ▸ hh))
          rw [ho] at hod0; cases hod0
    · exact h
  case sl id off len k cap =>
    split at h
    · obtain ⟨c, h, _⟩ := h; cases h
    · rename_i hod0
      split at hn
      · cases hn
      · cases hn
      · rename_i h3 h4
        cases hh : hp[id]? with
        | none => exact h4 hh
        | some x =>
          obtain ⟨b, n, ho⟩ := hp_live hk hh (fun e => h3 (e ▸ hh))
          rw [ho] at hod0; cases hod0
    · exact h
  case map id =>
    split at h
    · cases h
    · rename_i hod0
      split at hn
      · cases hn
      · cases hn
      · rename_i h3 h4
        cases hh : hp[id]? with
        | none => exact h4 hh
        | some x =>
          obtain ⟨b, n, ho⟩ := hp_live hk hh (fun e => h3 (e ▸ hh))
          rw [ho] at hod0; cases hod0
    · exact h
  all_goals cases hn

theorem core_ok {ao : AOp} (hc : comp P o = some ao) (hcl : ClOK K P cl) (hk : OK K w ρ hp) (hs : Slots K (mask K w ρ) ρ sl a.tmps) (hn : allocs ao = true → ρ[nid]? = some .fresh)
    (h : core ex cl sl hp nid ao = some out) (hcond : ∀ p, out.p = some p → p) : Does P o a w (Res K w ρ hp nid out) := by
  unfold comp at hc
  split at hc
  · rename_i x ho; cases hc; exact s_mov (nid := nid) (.inl ho) hs h
  · rename_i x ho; cases hc; exact s_mov (nid := nid) (.inr ho) hs h
  · rename_i c x y ho; cases hc; exact s_pick (nid := nid) ho hs h
  · rename_i t ho
    split at hc
    · rename_i z hz; cases hc; exact s_zero (nid := nid) (sl := sl) ho hz hk (hn rfl) h
    · cases hc
  · rename_i t x ho
    split at hc
    · cases hc; exact s_box (nid := nid) ho hk hs (hn rfl) h
    · cases hc
  · rename_i t parts ho
    split at hc
    · rename_i n e hu
      split at hc
      · rename_i z k hz hsz
        cases hc
        exact s_buildA (nid := nid) ho hu hz hsz hs h
      · cases hc
    · split at hc
      · rename_i z fs hz hfs
        split at hc
        · rename_i l hl hall
          cases hc
          refine s_build (nid := nid) ho hz hfs (fun f hf => ?_) hl hs h
          have := List.all_eq_true.1 hall f hf
          exact Option.isSome_iff_exists.1 this
        · cases hc
      · cases hc
  · rename_i t len parts ho
    split at hc
    · rename_i e he
      split at hc
      · rename_i k z hsz hz
        split at hc
        · rename_i hcc
          cases hc
          simp only [Bool.and_eq_true, decide_eq_true_eq, beq_iff_eq] at hcc
          exact s_bslice (nid := nid) ho he hsz hz hcc.1.1 hcc.1.2 hcc.2 hk (hn rfl) hs h
        · cases hc
      · cases hc
    · cases hc
  · rename_i t x ho
    split at hc
    · rename_i n ht
      cases hc
      cases ex
      · exact s_load (nid := nid) ho ht hk hs h
      · exact s_loadS (nid := nid) ho ht hk hs h hcond
    · cases hc
  · rename_i t x y ho
    split at hc
    · rename_i n ht
      cases hc
      cases ex
      · exact s_store (nid := nid) ho ht hk hs h
      · exact s_storeS (nid := nid) ho ht hk hs h hcond
    · cases hc
  · rename_i x ho
    cases hc
    refine s_nilCheck (nid := nid) ho hk hs h ?_
    have hx := evO_rep hs x
    have h2 : c_nilCheck sl hp nid x = some out := h
    unfold c_nilCheck at h2
    split at h2
    · rename_i hnil; exact nilD_noMethod hk hx hnil
    · cases h2
  · rename_i op t x y t2 ho
    split at hc
    · rename_i hu; cases hc; exact s_bin (nid := nid) ho hs h hcond (fun _ => hu)
    · cases hc; exact s_bin (nid := nid) ho hs h hcond (fun h => by cases h)
    · cases hc; exact s_bin (nid := nid) ho hs h hcond (fun h => by cases h)
    · rename_i e hu; cases hc; exact s_eqNil (nid := nid) ho hk hs h hu rfl
    · rename_i e hu
      split at hc
      · rename_i m hsz; cases hc; exact s_eqPtr (nid := nid) ho hk hs h hu hsz
      · cases hc; exact s_eqNil (nid := nid) ho hk hs h hu rfl
    · rename_i e f g hu; cases hc; exact s_eqNil (nid := nid) ho hk hs h hu rfl
    · rename_i e f hu; cases hc; exact s_eqNil (nid := nid) ho hk hs h hu rfl
    · rename_i fs hu
      split at hc
      · rename_i ks hks
        split at hc
        · rename_i hcc
          cases hc
          simp only [Bool.and_eq_true, Bool.not_eq_true'] at hcc
          exact s_eqAgg (nid := nid) ho hu hks hcc.1 hcc.2 hs h
        · cases hc
      · cases hc
    · rename_i n e hu
      split at hc
      · rename_i k i hk' hi
        split at hc
        · rename_i hcc
          cases hc
          simp only [Bool.and_eq_true, Bool.not_eq_true', beq_iff_eq] at hcc
          exact s_eqArr (nid := nid) ho hu hk' hi hcc.1.1 hcc.2 hs h
        · cases hc
      · cases hc
    · cases hc
  · rename_i op t x ho; cases hc; exact s_un (nid := nid) ho hs h
  · rename_i s d x ho
    split at hc
    · rename_i j k h1 h2; cases hc; exact s_convInt (nid := nid) ho h1 h2 hs h
    · rename_i h1 h2; cases hc; exact s_convStr (nid := nid) ho h1 h2 hs h
    · rename_i e h1 h2
      split at hc
      · rename_i h3
        cases hc
        cases ex
        · exact s_s2b (nid := nid) ho h1 h2 h3 hk hs h
        · exact s_s2bS (nid := nid) ho h1 h2 h3 hk (hn rfl) hs h
      · cases hc
    · rename_i e h1 h2
      split at hc
      · rename_i h3
        cases hc
        cases ex
        · exact s_b2s (nid := nid) ho h1 h2 h3 hk hs h
        · exact s_b2sS (nid := nid) ho h1 h2 h3 hk hs h hcond
      · cases hc
    · cases hc
  · rename_i t ho; cases hc; exact s_mkMap (nid := nid) (sl := sl) ho hk (hn rfl) h
  · rename_i t x ho
    split at hc
    · cases hc
    · rename_i d hne hu
      cases hc
      exact s_mkI (nid := nid) ho hu (fun ms e => hne ms e) hs h
    · cases hc
  · rename_i t x i ho
    split at hc
    · rename_i n e hu
      split at hc
      · rename_i s k hsh hsz; cases hc; exact s_aidx (nid := nid) ho hu hsh hsz hs h
      · cases hc
    · rename_i hu; cases hc; exact s_sidx (nid := nid) ho hu hs h
    · cases hc
  · rename_i t m k ok' ho
    split at hc
    · rename_i kt et hu
      split at hc
      · rename_i kd z hkd hz; cases hc; exact s_mlook (nid := nid) ho hu hkd hz hk hs h
      · rename_i z hkd hz
        split at hc
        · rename_i fs hfs
          split at hc
          · rename_i ks hks; cases hc; exact s_mlookS (nid := nid) ho hu hfs hks hz hk hs h
          · cases hc
        · cases hc
      · cases hc
    · cases hc
  · rename_i t m k v ho
    split at hc
    · rename_i kt et hu
      split at hc
      · rename_i kd hkd; cases hc; exact s_mput (nid := nid) ho hu hkd hk hs h
      · split at hc
        · rename_i fs hfs
          split at hc
          · rename_i ks hks; cases hc; exact s_mputS (nid := nid) ho hu hfs hks hk hs h
          · cases hc
        · cases hc
    · cases hc
  · rename_i f x y ho; cases hc; exact s_mkFn (nid := nid) ho hs h
  · rename_i t x y ho
    split at hc
    · rename_i e he
      split at hc
      · rename_i i z hi hz
        split at hc
        · rename_i hcc
          cases hc
          simp only [Bool.and_eq_true, decide_eq_true_eq, beq_iff_eq] at hcc
          cases ex
          · exact s_mkSlice (nid := nid) ho he hi hz hcc.1 hcc.2 hk (hn rfl) hs h
          · exact s_mkSliceS (nid := nid) ho he hi hz hcc.1 hcc.2 hk (hn rfl) hs h hcond
        · cases hc
      · cases hc
    · cases hc
  · rename_i t x lo hi mx ho
    split at hc
    · rename_i e he
      split at hc
      · rename_i k hsz
        split at hc
        · rename_i hk0; cases hc; exact s_slice (nid := nid) ho he hsz hk0 hk hs h
        · cases hc
      · cases hc
    · split at hc
      · rename_i hu; cases hc; exact s_sslice (nid := nid) ho hu hs h
      · cases hc
  · rename_i s x i ho
    split at hc
    · rename_i fs hfs
      split at hc
      · rename_i f hf
        split at hc
        · rename_i n hn'
          split at hc
          · rename_i hn0; cases hc; exact s_faddr (nid := nid) ho hfs hf hn' hn0 hk hs h
          · cases hc
        · cases hc
      · cases hc
    · cases hc
  · rename_i s x i ho
    split at hc
    · rename_i fs hfs
      split at hc
      · rename_i f hf
        split at hc
        · rename_i n hn'; cases hc; exact s_field (nid := nid) ho hfs hf hn' hs h
        · cases hc
      · cases hc
    · cases hc
  · rename_i t x i ho
    split at hc
    · rename_i e he
      split at hc
      · rename_i k hsz
        split at hc
        · cases hc
          cases ex
          · exact s_iaddr (ex := false) (nid := nid) ho he hsz hk hs h hcond
          · exact s_iaddrS (nid := nid) ho he hsz hk hs h hcond
        · cases hc
      · cases hc
    · cases hc
  · rename_i x i ho; cases hc; exact s_extract (nid := nid) ho hs h
  · rename_i c ho
    split at hc
    · rename_i f hcal
      unfold compCall at hc
      split at hc
      · rename_i hix
        split at hc
        · rename_i x y hca; cases hc; exact s_ixb (nid := nid) ho hcal hca hix hs h
        · cases hc
      · cases hc; exact s_call (nid := nid) hcl ho hcal hk (hn rfl) hs h hcond
    · rename_i x _ hcal; cases hc; exact s_callv (nid := nid) hcl ho hcal hk (hn rfl) hs h hcond
    · rename_i hcal
      split at hc
      · rename_i x e hca hu
        cases hc
        obtain ⟨t, ht, hu⟩ := Option.bind_eq_some_iff.1 hu
        cases ex
        · exact s_len (nid := nid) ho hcal hca ht hu (.inr ⟨rfl, e, rfl⟩) hk hs h
        · exact s_lenS (nid := nid) ho hcal hca ht hu (.inr ⟨rfl, e, rfl⟩) hk hs h
      · rename_i x hca hu
        cases hc
        obtain ⟨t, ht, hu⟩ := Option.bind_eq_some_iff.1 hu
        cases ex
        · exact s_len (nid := nid) ho hcal hca ht hu (.inl ⟨rfl, rfl⟩) hk hs h
        · exact s_lenS (nid := nid) ho hcal hca ht hu (.inl ⟨rfl, rfl⟩) hk hs h
      · rename_i x kt et hca hu
        cases hc
        obtain ⟨t, ht, hu⟩ := Option.bind_eq_some_iff.1 hu
        exact s_mlen (nid := nid) ho hcal hca ht hu hk hs h
      · cases hc
    · rename_i hcal
      split at hc
      · rename_i x y t e2 hca ht hu
        obtain ⟨u, hu, hue⟩ := Option.bind_eq_some_iff.1 hu
        split at hc
        · rename_i e he
          split at hc
          · rename_i i z hi hz
            split at hc
            · rename_i hcc
              cases hc
              simp only [Bool.and_eq_true, decide_eq_true_eq, beq_iff_eq] at hcc
              cases ex
              · exact s_append (nid := nid) ho hcal hca ht hu he hue hi hz hcc.2 hcc.1.1 hcc.1.2 hk (hn rfl) hs h
              · exact s_appendS (nid := nid) ho hcal hca ht hu he hue hi hz hcc.2 hcc.1.1 hcc.1.2 hk (hn rfl) hs h hcond
            · cases hc
          · cases hc
        · cases hc
      · rename_i x y t hca ht hu
        obtain ⟨u, hu, hue⟩ := Option.bind_eq_some_iff.1 hu
        split at hc
        · rename_i e he
          split at hc
          · rename_i i z hi hz
            split at hc
            · rename_i hcc
              cases hc
              simp only [Bool.and_eq_true, decide_eq_true_eq, beq_iff_eq] at hcc
              exact s_appS (nid := nid) ho hcal hca ht hu he hue hi hz hcc.2 hcc.1.1 hcc.1.2 hk (hn rfl) hs h
            · cases hc
          · cases hc
        · cases hc
      · cases hc
    · rename_i hcal
      split at hc
      · rename_i x y t e2 hca ht hu
        split at hc
        · rename_i e he
          split at hc
          · rename_i k hsz
            split at hc
            · cases hc; exact s_copy (nid := nid) ho hcal hca ht he hsz hk hs h
            · cases hc
          · cases hc
        · cases hc
      · rename_i x y t hca ht hu
        split at hc
        · rename_i e he
          split at hc
          · rename_i k hsz
            split at hc
            · rename_i hk1; cases hc; exact s_copS (nid := nid) ho hcal hca ht he hsz (eq_of_beq hk1) hk hs h
            · cases hc
          · cases hc
        · cases hc
      · cases hc
    · rename_i hcal
      split at hc
      · rename_i x t hca ht
        split at hc
        · rename_i e he
          split at hc
          · rename_i k z hsz hz
            split at hc
            · rename_i hcc
              cases hc
              simp only [Bool.and_eq_true, decide_eq_true_eq, beq_iff_eq] at hcc
              exact s_clear (nid := nid) ho hcal hca ht he hsz hz hcc.1 hcc.2 hk hs h
            · cases hc
          · cases hc
        · cases hc
      · cases hc
    · cases hc; cases h
    · cases hc; cases h
    · cases hc
  · cases hc
end
end Go.Ev
end
