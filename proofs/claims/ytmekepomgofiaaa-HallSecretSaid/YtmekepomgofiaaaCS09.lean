import Derived.Test.YtmekepomgofiaaaCS08
import Derived.Below
set_option linter.all false
section
namespace Go.Ev
section
variable {ex : Bool} {cl : FuncId → List D → List Blk → Nat → Option Out} {sl : List D} {hp hp' : List Blk} {nid nid' t : Nat} {d : D} {out : Out}

theorem evO_set {x : Operand} (h : t ∉ tmpO x) : evO (sl.set t d) x = evO sl x := by
  cases x with
  | tmp u =>
    simp only [tmpO, List.mem_singleton] at h
    simp only [evO, evF, getK_eq, List.getD_eq_getElem?_getD, List.getElem?_set, if_neg h]
  | _ => rfl
theorem evL_set : ∀ {l : List Operand}, t ∉ tmpL l → evL (sl.set t d) l = evL sl l
  | [], _ => rfl
  | x :: l, h => by
    simp only [tmpL, List.flatMap_cons, List.mem_append, not_or] at h
    simp only [evL, evO_set h.1]
    rw [evL_set (l := l) h.2]
theorem partsD_set : ∀ {l : List (Nat × Nat × Operand)}, (t ∉ l.flatMap fun p => tmpO p.2.2) → partsD (sl.set t d) l = partsD sl l
  | [], _ => rfl
  | (o, n, x) :: l, h => by
    simp only [List.flatMap_cons, List.mem_append, not_or] at h
    simp only [partsD, evO_set h.1]
    rw [partsD_set (l := l) h.2]
theorem partsS_set {k : Nat} : ∀ {l : List (Nat × Operand)}, (t ∉ l.flatMap fun p => tmpO p.2) → partsS (sl.set t d) k l = partsS sl k l
  | [], _ => rfl
  | (o, x) :: l, h => by
    simp only [List.flatMap_cons, List.mem_append, not_or] at h
    simp only [partsS, evO_set h.1]
    rw [partsS_set (l := l) h.2]
theorem opt_set {x : Option Operand} (h : t ∉ tmpL x.toList) : x.map (evO (sl.set t d)) = x.map (evO sl) := by
  cases x with
  | none => rfl
  | some x =>
    simp only [Option.toList, tmpL, List.flatMap_cons, List.flatMap_nil, List.append_nil] at h
    simp only [Option.map_some, evO_set h]
theorem core_set {ao : AOp} (h : t ∉ uses ao) : core ex cl (sl.set t d) hp nid ao = core ex cl sl hp nid ao := by
  cases ao <;> simp only [uses, List.mem_append, not_or] at h <;> simp only [core, coreF]
  case mov x => simp only [c_mov, evO_set h]
  case pick c a b => simp only [c_pick, evO_set h.1.1, evO_set h.1.2, evO_set h.2]
  case zero => rfl
  case box n x => simp only [c_box, evO_set h]
  case build z l => simp only [c_build, partsD_set h]
  case bslice k n z l => simp only [c_bslice, partsS_set h]
  case load n x => simp only [c_load, c_loadS, evO_set h]
  case store n x y => simp only [c_store, c_storeS, evO_set h.1, evO_set h.2]
  case nilCheck x => simp only [c_nilCheck, evO_set h]
  case bin kb op x y => simp only [c_bin, evO_set h.1, evO_set h.2]
  case eqNil kd op x y => simp only [c_eqNil, evO_set h.1, evO_set h.2]
  case eqAgg op ks x y => simp only [c_eqAgg, evO_set h.1, evO_set h.2]
  case un op x => simp only [c_un, evO_set h]
  case convInt k x => simp only [c_convInt, evO_set h]
  case convStr x => simp only [c_convStr, evO_set h]
  case mkFn f a b => simp only [c_mkFn, evL_set h.1, evL_set h.2]
  case mkSlice k b z x y => simp only [c_mkSlice, c_mkSliceS, evO_set h.1, evO_set h.2]
  case slice k x lo hi mx => simp only [c_slice, evO_set h.1.1.1, opt_set h.1.1.2, opt_set h.1.2, opt_set h.2]
  case faddr n x => simp only [c_faddr, evO_set h]
  case field n o x => simp only [c_field, evO_set h]
  case iaddr k x y => simp only [c_iaddr, c_iaddrS, evO_set h.1, evO_set h.2]
  case extract x i => simp only [c_extract, evO_set h]
  case call f l => simp only [c_call, evL_set h]
  case callv x l => simp only [c_callv, evO_set h.1, evL_set h.2]
  case len b x => simp only [c_len, c_lenS, evO_set h]
  case append k x y => simp only [c_append, c_appendS, c_appE, evO_set h.1, evO_set h.2]
  case copy k x y => simp only [c_copy, evO_set h.1, evO_set h.2]
  case clear k z x => simp only [c_clear, evO_set h]
  case minmax m l => rfl
  case aidx n len k x i => simp only [c_aidx, evO_set h.1, evO_set h.2]
  case sidx x i => simp only [c_sidx, evO_set h.1, evO_set h.2]
  case sslice x lo hi => simp only [c_sslice, evO_set h.1.1, opt_set h.1.2, opt_set h.2]
  case s2b x => simp only [c_s2b, c_s2bS, evO_set h]
  case b2s x => simp only [c_b2s, c_b2sS, evO_set h]
  case appS x y => simp only [c_appS, evO_set h.1, evO_set h.2]
  case copS x y => simp only [c_copS, evO_set h.1, evO_set h.2]
  case mkMap => rfl
  case mlook kd z ok' x y => simp only [c_mlook, evO_set h.1, evO_set h.2]
  case mlookS nf z ok' x y => simp only [c_mlookS, evO_set h.1, evO_set h.2]
  case mput kd x y z => simp only [c_mput, evO_set h.1.1, evO_set h.1.2, evO_set h.2]
  case mputS nf x y z => simp only [c_mputS, evO_set h.1.1, evO_set h.1.2, evO_set h.2]
  case mlen x => simp only [c_mlen, evO_set h]
  case ixb x y => simp only [c_ixb, evO_set h.1, evO_set h.2]
  case mkI t x => simp only [c_mkI, evO_set h]
  case eqPtr op x y => simp only [c_eqPtr, evO_set h.1, evO_set h.2]
theorem core_setD {ao : AOp} {t : Option Nat} (h : ∀ u, t = some u → u ∉ uses ao) : core ex cl (setD sl t d) hp nid ao = core ex cl sl hp nid ao := by
  cases t with
  | none => rfl
  | some t => exact core_set (h t rfl)
theorem core_pure {ao : AOp} (h : pureA ao = true) : core ex cl sl hp nid ao = core ex cl sl hp' nid' ao := by
  cases ao <;> first | rfl | (simp [pureA] at h)
theorem pure_out {ao : AOp} (h : pureA ao = true) (ho : core ex cl sl hp nid ao = some out) : out.δ = [] ∧ out.grow = [] := by
  cases ao <;> simp only [pureA, Bool.false_eq_true] at h <;> simp only [core, coreF] at ho
  case mov x => unfold c_mov ok at ho; cases ho; exact ⟨rfl, rfl⟩
  case emptyS => unfold ok at ho; cases ho; exact ⟨rfl, rfl⟩
  case pick c a b =>
    unfold c_pick ok at ho
    split at ho
    · split at ho <;> cases ho <;> exact ⟨rfl, rfl⟩
    · cases ho
  case build z l =>
    unfold c_build ok at ho
    split at ho
    · split at ho
      · cases ho; exact ⟨rfl, rfl⟩
      · cases ho
    · cases ho
  case bin kb op x y =>
    unfold c_bin at ho
    split at ho
    · split at ho
      · split at ho
        · rw [forceX_eq] at ho; cases ho; exact ⟨rfl, rfl⟩
        · cases ho
      · cases ho
    · cases ho
  case un op x =>
    unfold c_un ok at ho
    split at ho
    · split at ho
      · cases ho; exact ⟨rfl, rfl⟩
      · cases ho
    · cases ho
  case convInt k x =>
    unfold c_convInt ok at ho
    split at ho
    · cases ho; exact ⟨rfl, rfl⟩
    · cases ho
  case convStr x =>
    unfold c_convStr ok at ho
    split at ho
    · cases ho; exact ⟨rfl, rfl⟩
    · cases ho
  case mkFn f a b => unfold c_mkFn ok at ho; cases ho; exact ⟨rfl, rfl⟩
  case field n o x =>
    unfold c_field ok at ho
    split at ho
    · split at ho
      · cases ho; exact ⟨rfl, rfl⟩
      · cases ho
    · cases ho
  case extract x i =>
    unfold c_extract ok at ho
    split at ho
    · split at ho
      · cases ho; exact ⟨rfl, rfl⟩
      · cases ho
    · cases ho

  case aidx n len k x i =>
    unfold c_aidx ok at ho
    repeat' split at ho
    all_goals first | contradiction | (cases ho; exact ⟨rfl, rfl⟩) | cases ho
  case sidx x i =>
    unfold c_sidx ok at ho
    repeat' split at ho
    all_goals first | contradiction | (cases ho; exact ⟨rfl, rfl⟩) | cases ho
  case sslice x lo hi =>
    unfold c_sslice ok at ho
    repeat' split at ho
    all_goals first | contradiction | (cases ho; exact ⟨rfl, rfl⟩) | cases ho
  case ixb x y =>
    unfold c_ixb ok at ho
    repeat' split at ho
    all_goals first | contradiction | (cases ho; exact ⟨rfl, rfl⟩) | cases ho
  case mkI t x => unfold c_mkI ok at ho; cases ho; exact ⟨rfl, rfl⟩

theorem setD_comm {a b : Option Nat} {x y : D} (h : ∀ t, a = some t → b ≠ some t) : setD (setD sl a x) b y = setD (setD sl b y) a x := by
  cases a with
  | none => rfl
  | some a =>
    cases b with
    | none => rfl
    | some b =>
      have : a ≠ b := fun e => h a rfl (by rw [e])
      simp only [setD]
      exact List.set_comm x y this
theorem yes_setD {g : Option (Option Nat × Bool)} {t : Option Nat} (h : ∀ u, t = some u → u ∉ (match g with | some (some t, _) => [t] | _ => [])) : yes (setD sl t d) g = yes sl g := by
  cases t with
  | none => rfl
  | some t =>
    have h := h t rfl
    unfold yes
    split
    · rfl
    · rfl
    · rename_i u want
      simp only [List.mem_singleton] at h
      simp only [setD, getG_eq, List.getElem?_set, if_neg h]

theorem slotId_setD {n0 r : Nat} {t : Option Nat} (h : ∀ u, t = some u → u ∉ slotsL [r]) : slotId n0 (setD sl t d) r = slotId n0 sl r := by
  cases t with
  | none => rfl
  | some t =>
    have h := h t rfl
    unfold slotId
    cases e : Nat.ble 1000000 r with
    | false => rfl
    | true =>
      simp only [slotsL, List.filter_cons, e, if_true, List.filter_nil, List.map_cons, List.map_nil, List.mem_singleton] at h
      simp only [setD, getG_eq, List.getElem?_set, if_neg h]
theorem slotsL_cons {r : Nat} {l : List Nat} : slotsL (r :: l) = slotsL [r] ++ slotsL l := by
  unfold slotsL
  cases e : Nat.ble 1000000 r <;> simp [e]
theorem hideL_setD {n0 : Nat} {t : Option Nat} : ∀ {l : List Nat} {hp : List Blk}, (∀ u, t = some u → u ∉ slotsL l) → hideL n0 (setD sl t d) l hp = hideL n0 sl l hp
  | [], hp, _ => rfl
  | r :: l, hp, h => by
    have h1 : ∀ u, t = some u → u ∉ slotsL [r] := fun u hu hm => h u hu (by rw [slotsL_cons]; exact List.mem_append_left _ hm)
    have h2 : ∀ u, t = some u → u ∉ slotsL l := fun u hu hm => h u hu (by rw [slotsL_cons]; exact List.mem_append_right _ hm)
    simp only [hideL]
    rw [slotId_setD h1, hideL_setD h2]
theorem fits_setD {n0 r id : Nat} {t : Option Nat} (h : ∀ u, t = some u → u ∉ slotsL [r]) : fits n0 (setD sl t d) id r = fits n0 sl id r := by
  unfold fits
  rw [slotId_setD h]
theorem calm_setD {o : AOper} {t : Option Nat} {nid : Nat} {out : Out} (h : ∀ u, t = some u → u ∉ slotsL o.own) : calm o (setD sl t d) nid out = calm o sl nid out := by
  have key : ∀ (x : Nat) (l : List Nat), (∀ u, t = some u → u ∉ slotsL l) → (l.any fun r => fits (nid - o.rank) (setD sl t d) x r) = l.any fun r => fits (nid - o.rank) sl x r := by
    intro x l
    induction l with
    | nil => intro _; rfl
    | cons r l ih =>
      intro h
      have h1 : ∀ u, t = some u → u ∉ slotsL [r] := fun u hu hm => h u hu (by rw [slotsL_cons]; exact List.mem_append_left _ hm)
      have h2 : ∀ u, t = some u → u ∉ slotsL l := fun u hu hm => h u hu (by rw [slotsL_cons]; exact List.mem_append_right _ hm)
      simp only [List.any_cons]
      rw [fits_setD h1, ih h2]
  unfold calm
  split
  · congr 1
    funext x
    rw [key x.1 o.own h]
  · rfl
theorem hide_get {n0 : Nat} : ∀ {l : List Nat} {hp : List Blk} {i : Nat}, (hideL n0 sl l hp)[i]? = if (∃ r ∈ l, slotId n0 sl r = i) ∧ i < hp.length then some .dead else hp[i]?
  | [], hp, i => by simp [hideL]
  | r :: l, hp, i => by
    simp only [hideL, List.getElem?_set]
    rw [hide_get, (hideL_get n0 sl l hp 0).1]
    by_cases h : slotId n0 sl r = i
    · rw [if_pos h]
      by_cases hi : i < hp.length
      · rw [if_pos (by omega), if_pos ⟨⟨r, List.mem_cons_self .., h⟩, hi⟩]
      · rw [if_neg (by omega), if_neg (fun q => hi q.2)]
        exact (List.getElem?_eq_none (by omega)).symm
    · rw [if_neg h]
      by_cases q : (∃ r ∈ l, slotId n0 sl r = i) ∧ i < hp.length
      · rw [if_pos q, if_pos ⟨let ⟨r', h1, h2⟩ := q.1; ⟨r', List.mem_cons_of_mem _ h1, h2⟩, q.2⟩]
      · rw [if_neg q, if_neg]
        rintro ⟨⟨r', h1, h2⟩, h3⟩
        rcases List.mem_cons.1 h1 with rfl | h1
        · exact h h2
        · exact q ⟨⟨r', h1, h2⟩, h3⟩
theorem hide_set {n0 r : Nat} {x : Blk} {l : List Nat} {hp : List Blk} (h : r ∈ l) : hideL n0 sl l (hp.set (slotId n0 sl r) x) = hideL n0 sl l hp := by
  apply List.ext_getElem?
  intro i
  rw [hide_get, hide_get, List.length_set, List.getElem?_set]
  by_cases e : slotId n0 sl r = i
  · by_cases hi : i < hp.length
    · rw [if_pos ⟨⟨r, h, e⟩, hi⟩, if_pos ⟨⟨r, h, e⟩, hi⟩]
    · have hn : ¬ ((∃ r ∈ l, slotId n0 sl r = i) ∧ i < hp.length) := fun q => hi q.2
      rw [if_neg hn, if_neg hn, if_pos e, if_neg (by omega)]
      exact (List.getElem?_eq_none (by omega)).symm
  · rw [if_neg e]
theorem hide_app {n0 : Nat} {l : List Nat} : ∀ (δ : List (Nat × Blk)) (hp : List Blk), (∀ x ∈ δ, ∃ r ∈ l, x.1 = slotId n0 sl r) → hideL n0 sl l (app δ hp) = hideL n0 sl l hp
  | [], hp, _ => rfl
  | x :: δ, hp, h => by
    obtain ⟨r, hr, e⟩ := h x (List.mem_cons_self ..)
    show hideL n0 sl l (app δ (hp.set x.1 x.2)) = _
    rw [hide_app δ _ fun y hy => h y (List.mem_cons_of_mem _ hy), e, hide_set hr]
theorem app_set_comm {n : Nat} {x : Blk} : ∀ (ε : List (Nat × Blk)) (hp : List Blk), (∀ y ∈ ε, y.1 ≠ n) → (app ε hp).set n x = app ε (hp.set n x)
  | [], hp, _ => rfl
  | y :: ε, hp, h => by
    show (app ε (hp.set y.1 y.2)).set n x = app ε ((hp.set n x).set y.1 y.2)
    rw [app_set_comm ε _ fun z hz => h z (List.mem_cons_of_mem _ hz), List.set_comm _ _ (h y (List.mem_cons_self ..))]
theorem app_comm : ∀ (δ ε : List (Nat × Blk)) (hp : List Blk), (∀ x ∈ δ, ∀ y ∈ ε, x.1 ≠ y.1) → app δ (app ε hp) = app ε (app δ hp)
  | [], ε, hp, _ => rfl
  | x :: δ, ε, hp, h => by
    show app δ ((app ε hp).set x.1 x.2) = app ε (app δ (hp.set x.1 x.2))
    rw [app_set_comm ε hp fun y hy he => h x (List.mem_cons_self ..) y hy he.symm]
    exact app_comm δ ε _ fun z hz => h z (List.mem_cons_of_mem _ hz)
theorem addW_high {base : Nat} : ∀ (δ : List (Nat × Blk)) (w : List Nat), (∀ x ∈ δ, base ≤ x.1) → addW base δ w = w
  | [], w, _ => rfl
  | x :: δ, w, h => by
    have := h x (List.mem_cons_self ..)
    simp only [addW]
    rw [if_neg (by omega)]
    exact addW_high δ w fun y hy => h y (List.mem_cons_of_mem _ hy)
theorem calm_some {o : AOper} {n0 : Nat} {out : Out} (h : calm o sl (n0 + o.rank) out = true) : out.grow = [] ∧ ∀ x ∈ out.δ, x.1 = n0 + o.rank ∨ ∃ r ∈ o.own, x.1 = slotId n0 sl r ∧ (r ≤ 999999 ∨ x.1 < n0) := by
  unfold calm at h
  rw [Nat.add_sub_cancel] at h
  split at h
  · refine ⟨by assumption, fun x hx => ?_⟩
    have := List.all_eq_true.1 h x hx
    simp only [Bool.or_eq_true, beq_iff_eq, List.any_eq_true] at this
    rcases this with h | ⟨r, hr, h⟩
    · exact .inl h
    · unfold fits at h
      simp only [Bool.and_eq_true, Bool.or_eq_true] at h
      exact .inr ⟨r, hr, Nat.eq_of_beq_eq_true h.1, h.2.imp Nat.le_of_ble_eq_true Nat.le_of_ble_eq_true⟩
  · cases h
theorem slotId_low {n0 r : Nat} (h : r ≤ 999999) : slotId n0 sl r = n0 + r := by
  unfold slotId
  have : Nat.ble 1000000 r = false := by cases e : Nat.ble 1000000 r with | false => rfl | true => exact absurd (Nat.le_of_ble_eq_true e) (by omega)
  rw [this]

/-- how a step came about -/
theorem doS_of {n0 : Nat} {o : AOper} {s : St} (ho : core ex cl s.sl (hideL n0 s.sl o.hide s.hp) (n0 + o.rank) o.op = some out) (hw : o.wrt = true ∨ calm o s.sl (n0 + o.rank) out = true) :
    doS ex cl n0 o s = some ⟨andP s.p out.p, setD s.sl o.dst out.d, app out.δ s.hp ++ out.grow, s.base, addW s.base out.δ s.wr⟩ := by
  unfold doS someS
  rw [forceN_eq, hideK_eq]
  simp only [ho]
  unfold finS
  split
  · rename_i h1 h2
    rw [h1, h2]
    simp [app, addW]
  · have : (o.wrt || calm o s.sl (n0 + o.rank) out) = true := by simpa using hw
    rw [this]
    simp
theorem stp_of {n0 : Nat} {o : AOper} {s : St} (hy : yes s.sl o.guard = some true) (ho : core ex cl s.sl (hideL n0 s.sl o.hide s.hp) (n0 + o.rank) o.op = some out) (hw : o.wrt = true ∨ calm o s.sl (n0 + o.rank) out = true) :
    stp ex cl n0 o s = some ⟨andP s.p out.p, setD s.sl o.dst out.d, app out.δ s.hp ++ out.grow, s.base, addW s.base out.δ s.wr⟩ := by
  unfold stp
  split
  · exact doS_of ho hw
  · rename_i g hg
    rw [← hg, hy]
    exact doS_of ho hw
theorem stp_no {n0 : Nat} {o : AOper} {s : St} (hy : yes s.sl o.guard = some false) : stp ex cl n0 o s = some ⟨s.p, setD s.sl o.dst undefD, s.hp, s.base, s.wr⟩ := by
  unfold stp
  split
  · rename_i hg
    rw [hg] at hy
    cases hy
  · rename_i g hg
    rw [← hg, hy]
    simp [ifS]

theorem andP_comm {p : Prop} {q r : Option Prop} : andP (andP p q) r = andP (andP p r) q := by
  cases q <;> cases r <;> simp only [andP]
  exact propext ⟨fun ⟨⟨a, b⟩, c⟩ => ⟨⟨a, c⟩, b⟩, fun ⟨⟨a, b⟩, c⟩ => ⟨⟨a, c⟩, b⟩⟩

/-- what makes two steps change places -/
theorem indep_spec {x y : AOper} (h : indep x y = true) : (∀ t, x.dst = some t → t ∉ looks y ∧ y.dst ≠ some t) ∧ (∀ t, y.dst = some t → t ∉ looks x) ∧
    (pureA x.op = true ∨ pureA y.op = true ∨ (x.wrt = false ∧ y.wrt = false ∧ (∀ r ∈ x.rank :: x.own, r ∈ y.hide) ∧ (∀ r ∈ y.rank :: y.own, r ∈ x.hide) ∧ (∀ r ∈ x.rank :: x.own, r ∉ y.rank :: y.own) ∧ (x.rank ≤ 999999 ∧ y.rank ≤ 999999) ∧ ((∀ r ∈ x.own, r ≤ 999999) ∨ (∀ r ∈ y.own, r ≤ 999999)))) := by
  unfold indep at h
  simp only [Bool.and_eq_true, Bool.or_eq_true] at h
  obtain ⟨⟨h1, h2⟩, h3⟩ := h
  refine ⟨fun t ht => ?_, fun t ht => ?_, ?_⟩
  · rw [ht] at h1
    simp only [Bool.and_eq_true, Bool.not_eq_true'] at h1
    refine ⟨fun hm => ?_, fun e => ?_⟩
    · have : (looks y).contains t = true := by simpa using hm
      rw [this] at h1; cases h1.1
    · rw [e] at h1; simp at h1
  · rw [ht] at h2
    simp only [Bool.not_eq_true'] at h2
    intro hm
    have : (looks x).contains t = true := by simpa using hm
    rw [this] at h2; cases h2
  · rcases h3 with (h3 | h3) | h3
    · exact .inl h3
    · exact .inr (.inl h3)
    · simp only [Bool.and_eq_true, Bool.not_eq_true', List.all_eq_true] at h3
      obtain ⟨⟨⟨⟨⟨h3, h4⟩, h5⟩, h6⟩, h7⟩, h8⟩ := h3
      refine .inr (.inr ⟨h3, h4, fun r hr => by simpa using (h5 r hr).1, fun r hr => by simpa using h6 r hr, fun r hr hm => ?_, ⟨Nat.le_of_ble_eq_true h7.1, Nat.le_of_ble_eq_true h7.2⟩, h8.imp (fun h r hr => Nat.le_of_ble_eq_true (h r hr)) (fun h r hr => Nat.le_of_ble_eq_true (h r hr))⟩)
      have := (h5 r hr).2
      rw [List.contains_iff_mem.2 hm] at this
      cases this

theorem swap {n0 : Nat} {x y : AOper} {s s1 s2 : St} (hb : s.base ≤ n0) (hi : indep x y = true) (h1 : stp ex cl n0 x s = some s1) (h2 : stp ex cl n0 y s1 = some s2) :
    ∃ s1', stp ex cl n0 y s = some s1' ∧ stp ex cl n0 x s1' = some s2 := by
  obtain ⟨i1, i2, i3⟩ := indep_spec hi
  have lx : ∀ u, y.dst = some u → (u ∉ uses x.op ∧ u ∉ (match x.guard with | some (some t, _) => [t] | _ => [])) ∧ u ∉ slotsL x.hide ∧ u ∉ slotsL x.own := fun u hu => by
    have := i2 u hu
    unfold looks at this
    simp only [List.mem_append, not_or] at this
    exact this
  have ly : ∀ u, x.dst = some u → (u ∉ uses y.op ∧ u ∉ (match y.guard with | some (some t, _) => [t] | _ => [])) ∧ u ∉ slotsL y.hide ∧ u ∉ slotsL y.own := fun u hu => by
    have := (i1 u hu).1
    unfold looks at this
    simp only [List.mem_append, not_or] at this
    exact this
  have hyx : ∀ (d : D) (sl : List D), yes (setD sl y.dst d) x.guard = yes sl x.guard := fun d sl => yes_setD fun u hu => (lx u hu).1.2
  have hyy : ∀ (d : D) (sl : List D), yes (setD sl x.dst d) y.guard = yes sl y.guard := fun d sl => yes_setD fun u hu => (ly u hu).1.2
  have hsl : ∀ (d e : D) (sl : List D), setD (setD sl x.dst d) y.dst e = setD (setD sl y.dst e) x.dst d := fun d e sl => setD_comm fun t ht => (i1 t ht).2
  have hhx : ∀ (d : D) (sl : List D) (hp : List Blk), hideL n0 (setD sl y.dst d) x.hide hp = hideL n0 sl x.hide hp := fun d sl hp => hideL_setD fun u hu => (lx u hu).2.1
  have hhy : ∀ (d : D) (sl : List D) (hp : List Blk), hideL n0 (setD sl x.dst d) y.hide hp = hideL n0 sl y.hide hp := fun d sl hp => hideL_setD fun u hu => (ly u hu).2.1
  have hcx : ∀ (d : D) (sl : List D) (nid : Nat) (out : Out), calm x (setD sl y.dst d) nid out = calm x sl nid out := fun d sl nid out => calm_setD fun u hu => (lx u hu).2.2
  have hcy : ∀ (d : D) (sl : List D) (nid : Nat) (out : Out), calm y (setD sl x.dst d) nid out = calm y sl nid out := fun d sl nid out => calm_setD fun u hu => (ly u hu).2.2
  rcases stp_cases h1 with ⟨gx, ox, cx, wx, rfl⟩ | ⟨gx, rfl⟩ <;> rcases stp_cases h2 with ⟨gy, oy, cy, wy, rfl⟩ | ⟨gy, rfl⟩ <;> dsimp only at gy
  · -- both are carried out
    rw [hyy] at gy
    dsimp only at cy wy
    rw [core_setD fun u hu => (ly u hu).1.1, hhy] at cy
    rw [hcy] at wy
    rcases i3 with hp | hp | ⟨w1, w2, m1, m2, hne, hrk, hown⟩
    · obtain ⟨e1, e2⟩ := pure_out hp cx
      simp only [e1, e2, app, List.foldl_nil, List.append_nil, addW] at cy ⊢
      refine ⟨_, stp_of gy cy wy, ?_⟩
      rw [stp_of (out := ox) (by rw [hyx]; exact gx) ?_ (by rw [hcx]; exact wx)]
      · simp only [e1, e2, app, List.foldl_nil, List.append_nil, addW, hsl, andP_comm]
      · dsimp only
        rw [core_setD fun u hu => (lx u hu).1.1, core_pure (hp' := hideL n0 s.sl x.hide s.hp) (nid' := n0 + x.rank) hp]
        exact cx
    · have cy' := cy
      rw [core_pure (hp' := hideL n0 s.sl y.hide s.hp) (nid' := n0 + y.rank) hp] at cy
      obtain ⟨e1, e2⟩ := pure_out hp cy
      refine ⟨_, stp_of gy cy wy, ?_⟩
      rw [stp_of (out := ox) (by rw [hyx]; exact gx) ?_ (by rw [hcx]; exact wx)]
      · simp only [e1, e2, app, List.foldl_nil, List.append_nil, addW, hsl, andP_comm]
      · dsimp only
        rw [core_setD fun u hu => (lx u hu).1.1, hhx]
        simp only [e1, e2, app, List.foldl_nil, List.append_nil]
        exact cx
    · have wx' := wx
      have wy' := wy
      rw [w1] at wx'
      rw [w2] at wy'
      have kx := calm_some (wx'.resolve_left (by simp))
      have ky := calm_some (wy'.resolve_left (by simp))
      have gxs : ∀ z ∈ ox.δ, ∃ r ∈ y.hide, z.1 = slotId n0 s.sl r := fun z hz => by
        rcases kx.2 z hz with e | ⟨r, hr, e, -⟩
        · exact ⟨x.rank, m1 _ (List.mem_cons_self ..), by rw [slotId_low hrk.1]; exact e⟩
        · exact ⟨r, m1 _ (List.mem_cons_of_mem _ hr), e⟩
      have gys : ∀ z ∈ oy.δ, ∃ r ∈ x.hide, z.1 = slotId n0 s.sl r := fun z hz => by
        rcases ky.2 z hz with e | ⟨r, hr, e, -⟩
        · exact ⟨y.rank, m2 _ (List.mem_cons_self ..), by rw [slotId_low hrk.2]; exact e⟩
        · exact ⟨r, m2 _ (List.mem_cons_of_mem _ hr), e⟩
      have lowx : ∀ z ∈ ox.δ, (∃ r ∈ x.rank :: x.own, r ≤ 999999 ∧ z.1 = n0 + r) ∨ (z.1 < n0 ∧ ∃ r ∈ x.own, ¬ r ≤ 999999) := fun z hz => by
        rcases kx.2 z hz with e | ⟨r, hr, e, g⟩
        · exact .inl ⟨x.rank, List.mem_cons_self .., hrk.1, e⟩
        · by_cases q : r ≤ 999999
          · exact .inl ⟨r, List.mem_cons_of_mem _ hr, q, by rw [slotId_low q] at e; exact e⟩
          · exact .inr ⟨g.resolve_left q, r, hr, q⟩
      have lowy : ∀ z ∈ oy.δ, (∃ r ∈ y.rank :: y.own, r ≤ 999999 ∧ z.1 = n0 + r) ∨ (z.1 < n0 ∧ ∃ r ∈ y.own, ¬ r ≤ 999999) := fun z hz => by
        rcases ky.2 z hz with e | ⟨r, hr, e, g⟩
        · exact .inl ⟨y.rank, List.mem_cons_self .., hrk.2, e⟩
        · by_cases q : r ≤ 999999
          · exact .inl ⟨r, List.mem_cons_of_mem _ hr, q, by rw [slotId_low q] at e; exact e⟩
          · exact .inr ⟨g.resolve_left q, r, hr, q⟩
      have hdis : ∀ z ∈ ox.δ, ∀ z' ∈ oy.δ, z.1 ≠ z'.1 := fun z hz z' hz' e => by
        rcases lowx z hz with ⟨r, hr, q, e1⟩ | ⟨q, r, hr, q1⟩ <;> rcases lowy z' hz' with ⟨r', hr', q', e1'⟩ | ⟨q', r', hr', q1'⟩
        · have : r = r' := by omega
          exact hne r hr (this ▸ hr')
        · omega
        · omega
        · rcases hown with h | h
          · exact q1 (h r hr)
          · exact q1' (h r' hr')
      have hadd : addW s.base oy.δ (addW s.base ox.δ s.wr) = addW s.base ox.δ (addW s.base oy.δ s.wr) := by
        rcases hown with h | h
        · have e : ∀ w, addW s.base ox.δ w = w := fun w => addW_high _ _ fun z hz => by
            rcases lowx z hz with ⟨r, hr, q, e1⟩ | ⟨q, r, hr, q1⟩
            · omega
            · exact absurd (h r hr) q1
          rw [e, e]
        · have e : ∀ w, addW s.base oy.δ w = w := fun w => addW_high _ _ fun z hz => by
            rcases lowy z hz with ⟨r, hr, q, e1⟩ | ⟨q, r, hr, q1⟩
            · omega
            · exact absurd (h r hr) q1
          rw [e, e]
      rw [kx.1, List.append_nil, hide_app _ _ gxs] at cy
      refine ⟨_, stp_of gy cy wy, ?_⟩
      rw [stp_of (out := ox) (by rw [hyx]; exact gx) ?_ (by rw [hcx]; exact wx)]
      · simp only [kx.1, ky.1, List.append_nil, hsl, andP_comm, app_comm _ _ _ hdis, hadd]
      · dsimp only
        rw [core_setD fun u hu => (lx u hu).1.1, hhx, ky.1, List.append_nil, hide_app _ _ gys]
        exact cx
  · rw [hyy] at gy
    refine ⟨_, stp_no gy, ?_⟩
    rw [stp_of (out := ox) (by rw [hyx]; exact gx) ?_ (by rw [hcx]; exact wx)]
    · simp only [hsl]
    · dsimp only
      rw [core_setD fun u hu => (lx u hu).1.1, hhx]
      exact cx
  · rw [hyy] at gy
    dsimp only at cy wy
    rw [core_setD fun u hu => (ly u hu).1.1, hhy] at cy
    rw [hcy] at wy
    refine ⟨_, stp_of gy cy wy, ?_⟩
    rw [stp_no (by rw [hyx]; exact gx)]
    simp only [hsl]
  · rw [hyy] at gy
    refine ⟨_, stp_no gy, ?_⟩
    rw [stp_no (by rw [hyx]; exact gx)]
    simp only [hsl]
theorem stp_base {n0 : Nat} {o : AOper} {s s' : St} (h : stp ex cl n0 o s = some s') : s'.base = s.base := by
  rcases stp_cases h with ⟨_, out, _, _, rfl⟩ | ⟨_, rfl⟩ <;> rfl
/-- a step that may come now, may come first -/
theorem front {n0 : Nat} {y : AOper} {l2 : List AOper} {sF : St} : ∀ (l1 : List AOper) (s : St), s.base ≤ n0 → (∀ x ∈ l1, indep x y = true) → stps ex cl n0 (l1 ++ y :: l2) s = some sF → ∃ s1, stp ex cl n0 y s = some s1 ∧ stps ex cl n0 (l1 ++ l2) s1 = some sF
  | [], s, _, _, h => by
    rw [List.nil_append, stps_cons] at h
    split at h
    · rename_i s1 h1; exact ⟨s1, h1, h⟩
    · cases h
  | x :: l1, s, hb, hi, h => by
    rw [List.cons_append, stps_cons] at h
    split at h
    · rename_i sx hx
      obtain ⟨s2, g1, g2⟩ := front l1 sx (by rw [stp_base hx]; exact hb) (fun z hz => hi z (List.mem_cons_of_mem _ hz)) h
      obtain ⟨s1, q1, q2⟩ := swap hb (hi x (List.mem_cons_self ..)) hx g1
      refine ⟨s1, q1, ?_⟩
      rw [List.cons_append, stps_cons]
      simp only [q2]
      exact g2
    · cases h
end
end Go.Ev
end
section
namespace Go.Ev
theorem fold_bit {D : List Nat} {i : Nat} : ∀ (l : List Edge) (s0 : Nat), (l.foldl (fun s e => if Region.binds .any e then s ||| 2 ^ e.on ||| D.getD e.on 0 else s) s0).testBit i = true →
    s0.testBit i = true ∨ ∃ e ∈ l, Region.binds .any e = true ∧ (e.on = i ∨ (D.getD e.on 0).testBit i = true)
  | [], s0, h => .inl h
  | e :: l, s0, h => by
    simp only [List.foldl_cons] at h
    rcases fold_bit l _ h with h | ⟨e', h1, h2⟩
    · split at h
      · rename_i hb
        simp only [Nat.testBit_or, Bool.or_eq_true] at h
        rcases h with (h | h) | h
        · exact .inl h
        · refine .inr ⟨e, List.mem_cons_self .., hb, .inl ?_⟩
          rw [Nat.testBit_two_pow] at h
          simpa using h
        · exact .inr ⟨e, List.mem_cons_self .., hb, .inr h⟩
      · exact .inl h
    · exact .inr ⟨e', List.mem_cons_of_mem _ h1, h2⟩
theorem befores_get : ∀ (l : List Oper) (done : List Nat) (j m : Nat), (befores l done)[j]? = some m →
    ∃ o, l[j]? = some o ∧ m = o.after.toList.foldl (fun s e => if Region.binds .any e then s ||| 2 ^ e.on ||| (done ++ (befores l done).take j).getD e.on 0 else s) 0
  | [], done, j, m, h => by simp [befores] at h
  | o :: l, done, j, m, h => by
    simp only [befores] at h ⊢
    cases j with
    | zero =>
      simp at h
      exact ⟨o, by simp, by simp [← h]⟩
    | succ j =>
      simp only [List.getElem?_cons_succ] at h
      obtain ⟨o', h1, h2⟩ := befores_get l _ j m h
      refine ⟨o', by simpa using h1, ?_⟩
      rw [h2]
      simp only [List.take_succ_cons, List.append_assoc, List.singleton_append]
/-- what comes before a listed one is listed -/
theorem bit_listed {ops : Array Oper} {listed : Array Bool} (hlt : ∀ (j : Nat) (o : Oper), ops[j]? = some o → ∀ e ∈ o.after, Region.binds .any e = true → e.on < j)
    (hcl : ∀ (k : Nat) (o : Oper), listed.getD k false = true → ops[k]? = some o → ∀ e ∈ o.after, Region.binds .any e = true → listed.getD e.on false = true) :
    ∀ (j i : Nat) (o : Oper), ops[j]? = some o → (∀ e ∈ o.after, Region.binds .any e = true → listed.getD e.on false = true) → ((befores ops.toList []).getD j 0).testBit i = true → listed.getD i false = true := by
  intro j
  induction j using Nat.strongRecOn with
  | _ j ih =>
    intro i o ho he hb
    rw [List.getD_eq_getElem?_getD] at hb
    cases hm : (befores ops.toList [])[j]? with
    | none => rw [hm] at hb; simp at hb
    | some m =>
      rw [hm] at hb
      obtain ⟨o', h1, h2⟩ := befores_get _ _ _ _ hm
      have : o' = o := by
        rw [Array.getElem?_toList] at h1
        rw [ho] at h1
        exact (Option.some.inj h1).symm
      subst this
      simp only [Option.getD_some] at hb
      rw [h2] at hb
      rcases fold_bit _ _ hb with h | ⟨e, h3, h4, h5⟩
      · simp at h
      · have hmem : e ∈ o'.after := by simpa using h3
        have hl := he e hmem h4
        rcases h5 with rfl | h5
        · exact hl
        · have hej := hlt j o' ho e hmem h4
          have hok : ∃ oe, ops[e.on]? = some oe := by
            have hj := (Array.getElem?_eq_some_iff.1 ho).1
            exact ⟨_, Array.getElem?_eq_getElem (by omega)⟩
          obtain ⟨oe, hoe⟩ := hok
          refine ih e.on hej i oe hoe (hcl e.on oe hl hoe) ?_
          rw [List.nil_append, List.getD_eq_getElem?_getD, List.getElem?_take, if_pos hej] at h5
          rw [List.getD_eq_getElem?_getD]
          exact h5

section
variable {P : Program}
theorem bareD_of {ops : Array Oper} : ∀ (l : List Oper) (r n : Nat) (aos : List AOper), bareD P ops l r = some (aos, n) →
    r ≤ n ∧ aos.length = l.length ∧ (∀ (j : Nat) (o : Oper) (ao : AOper), l[j]? = some o → aos[j]? = some ao → Of P ops o ao) ∧
    (∀ (j : Nat) (ao : AOper), aos[j]? = some ao → pureA ao.op = false → r ≤ ao.rank ∧ ao.rank < n) ∧
    (∀ (j k : Nat) (x y : AOper), aos[j]? = some x → aos[k]? = some y → pureA x.op = false → pureA y.op = false → j < k → x.rank < y.rank)
  | [], r, n, aos, h => by
    simp only [bareD] at h
    obtain ⟨rfl, rfl⟩ := some_pair h
    exact ⟨Nat.le_refl _, rfl, fun j o ao h => (by simp at h), fun j ao h => (by simp at h), fun j k x y h => (by simp at h)⟩
  | o :: l, r, n, aos, h => by
    simp only [bareD] at h
    split at h
    · rename_i c hc
      split at h
      · rename_i t m ht
        obtain ⟨rfl, rfl⟩ := some_pair h
        obtain ⟨g1, g2, g3, g4, g5⟩ := bareD_of l _ _ _ ht
        refine ⟨by split at g1 <;> omega, by simp [g2], fun j o' ao hj ha => ?_, fun j ao ha hp => ?_, fun j k x y hx hy px py hjk => ?_⟩
        · cases j with
          | zero => simp at hj ha; subst hj ha; exact ⟨.inl hc, rfl, rfl⟩
          | succ j => exact g3 j o' ao (by simpa using hj) (by simpa using ha)
        · cases j with
          | zero =>
            simp at ha; subst ha
            dsimp only at hp ⊢
            rw [hp] at g1
            simp at g1
            omega
          | succ j =>
            obtain ⟨q1, q2⟩ := g4 j ao (by simpa using ha) hp
            refine ⟨?_, q2⟩
            split at q1 <;> omega
        · cases k with
          | zero => omega
          | succ k =>
            cases j with
            | zero =>
              simp at hx; subst hx
              dsimp only at px ⊢
              obtain ⟨q1, q2⟩ := g4 k y (by simpa using hy) py
              rw [px] at q1
              simp at q1
              omega
            | succ j => exact g5 j k x y (by simpa using hx) (by simpa using hy) px py (by omega)
      · cases h
    · cases h
/-- the same operation, or the light one -/
def Lt (x y : AOp) : Prop := x = y ∨ (x = .emptyS ∧ ∃ k z, y = .bslice k 0 z [])
theorem light_op (y : AOp) : Lt (light y) y := by
  exact .inl rfl
theorem dress_op (bs : List Nat) (aos : List AOper) (i : Nat) (x : AOper) : Lt (dress bs aos i x).op x.op ∧ (dress bs aos i x).dst = x.dst ∧ (dress bs aos i x).guard = x.guard ∧ (dress bs aos i x).rank = x.rank := by
  unfold dress
  split
  · exact ⟨.inl rfl, rfl, rfl, rfl⟩
  · refine ⟨?_, rfl, rfl, rfl⟩
    dsimp only
    split
    · exact .inl rfl
    · exact light_op _
theorem Lt.alloc {x y : AOp} (h : Lt x y) (ha : allocs x = true) : x = y := by
  rcases h with h | ⟨rfl, _⟩
  · exact h
  · cases ha
/-- what a drawn region's operations have -/
structure Good (P : Program) (ops : Array Oper) (A : List AOper) (n : Nat) : Prop where
  len : A.length = ops.size
  of : ∀ (j : Nat) (o : Oper) (x : AOper), ops[j]? = some o → A[j]? = some x → Of P ops o x
  rank : ∀ (j : Nat) (x : AOper), A[j]? = some x → allocs x.op = true → x.rank < n
  apart : ∀ (j k : Nat) (x y : AOper), A[j]? = some x → A[k]? = some y → allocs x.op = true → allocs y.op = true → j ≠ k → x.rank ≠ y.rank
  lt : ∀ (j : Nat) (o : Oper), ops[j]? = some o → ∀ e ∈ o.after, Region.binds .any e = true → e.on < j
  ind : ∀ (i j : Nat) (x y : AOper), A[i]? = some x → A[j]? = some y → i < j → ((befores ops.toList []).getD j 0).testBit i = true ∨ indep x y = true
theorem allocs_pure {x : AOp} (h : allocs x = true) : pureA x = false := by cases x <;> simp_all [allocs, pureA]
theorem compD_good {ops : Array Oper} {A : List AOper} {n : Nat} (h : compD P ops = some (A, n)) : Good P ops A n := by
  unfold compD at h
  split at h
  · rename_i aos m hb
    dsimp only at h
    split at h
    · rename_i hc
      obtain ⟨rfl, rfl⟩ := some_pair h
      obtain ⟨g1, g2, g3, g4, g5⟩ := bareD_of _ _ _ _ hb
      have get : ∀ (j : Nat) (x : AOper), (aos.zipIdx.map fun (y, i) => dress (befores ops.toList []) aos i y)[j]? = some x → ∃ y, aos[j]? = some y ∧ Lt x.op y.op ∧ x.dst = y.dst ∧ x.guard = y.guard ∧ x.rank = y.rank := fun j x hx => by
        rw [List.getElem?_map, List.getElem?_zipIdx] at hx
        cases hy : aos[j]? with
        | none => rw [hy] at hx; simp at hx
        | some y =>
          rw [hy] at hx
          simp at hx
          subst hx
          exact ⟨y, rfl, dress_op _ _ _ _⟩
      unfold checkD at hc
      simp only [Bool.and_eq_true] at hc
      obtain ⟨hc1, hc2⟩ := hc
      refine ⟨by simp [g2], fun j o x ho hx => ?_, fun j x hx ha => ?_, fun j k x y hx hy ax ay hne => ?_, fun j o ho e he hbd => ?_, fun i j x y hx hy hij => ?_⟩
      · obtain ⟨y, h1, h2, h3, h4, h5⟩ := get j x hx
        have := g3 j o y (by simpa using ho) h1
        refine ⟨?_, h3.trans this.dst, h4.trans this.guard⟩
        rcases this.op with hc | ⟨he, k, z, hc⟩
        · rcases h2 with h2 | ⟨h2, k, z, h6⟩
          · exact .inl (h2 ▸ hc)
          · exact .inr ⟨h2, k, z, h6 ▸ hc⟩
        · rcases h2 with h2 | ⟨h2, k', z', h6⟩
          · exact .inr ⟨h2.trans he, k, z, hc⟩
          · rw [he] at h6; cases h6
      · obtain ⟨y, h1, h2, h3, h4, h5⟩ := get j x hx
        rw [h5]
        exact (g4 j y h1 (allocs_pure (h2.alloc ha ▸ ha))).2
      · obtain ⟨x', p1, p2, p3, p4, p5⟩ := get j x hx
        obtain ⟨y', q1, q2, q3, q4, q5⟩ := get k y hy
        rw [p5, q5]
        rcases Nat.lt_or_gt_of_ne hne with hl | hl
        · have := g5 j k x' y' p1 q1 (allocs_pure (p2.alloc ax ▸ ax)) (allocs_pure (q2.alloc ay ▸ ay)) hl; omega
        · have := g5 k j y' x' q1 p1 (allocs_pure (q2.alloc ay ▸ ay)) (allocs_pure (p2.alloc ax ▸ ax)) hl; omega
      · have hm : (o, j) ∈ ops.toList.zipIdx := by
          refine List.mem_of_getElem? (i := j) ?_
          rw [List.getElem?_zipIdx]
          simp [ho]
        have := List.all_eq_true.1 hc1 (o, j) hm
        have := List.all_eq_true.1 this e (by simpa using he)
        simpa [hbd] using this
      · have hmem : ∀ (j : Nat) (x : AOper), (aos.zipIdx.map fun (y, i) => dress (befores ops.toList []) aos i y)[j]? = some x → (x, j) ∈ (aos.zipIdx.map fun (y, i) => dress (befores ops.toList []) aos i y).zipIdx := fun j x hx => by
          refine List.mem_of_getElem? (i := j) ?_
          rw [List.getElem?_zipIdx, hx]
          simp
        have := List.all_eq_true.1 hc2 (y, j) (hmem j y hy)
        have := List.all_eq_true.1 this (x, i) (hmem i x hx)
        simp only [Bool.or_eq_true, Bool.not_eq_true', decide_eq_false_iff_not] at this
        rcases this with (h | h) | h
        · exact absurd hij h
        · exact .inl h
        · exact .inr h
    · cases h
  · cases h
end
end Go.Ev
end
section
namespace Go.Ev
section
variable {K : Cust} {P : Program} {w0 : World} {ρ0 : List Own} {hp0 : List Blk} {ex : Bool} {cl : FuncId → List D → List Blk → Nat → Option Out}

/-- those that have not come up yet -/
def left (A : List AOper) (listed : Array Bool) : List (AOper × Nat) := A.zipIdx.filter fun x => listed.getD x.2 true == false

theorem left_split {A : List AOper} {listed : Array Bool} {i : Nat} {y : AOper} (hy : A[i]? = some y) (hl : listed.getD i true = false) :
    left A listed = ((A.zipIdx.take i).filter fun x => listed.getD x.2 true == false) ++ (y, i) :: ((A.zipIdx.drop (i + 1)).filter fun x => listed.getD x.2 true == false) ∧
    left A (listed.setIfInBounds i true) = ((A.zipIdx.take i).filter fun x => listed.getD x.2 true == false) ++ ((A.zipIdx.drop (i + 1)).filter fun x => listed.getD x.2 true == false) := by
  have hil := (List.getElem?_eq_some_iff.1 hy).1
  have hz : A.zipIdx = A.zipIdx.take i ++ (y, i) :: A.zipIdx.drop (i + 1) := by
    have hlen : i < A.zipIdx.length := by simp; exact hil
    have e : A.zipIdx[i] = (y, i) := by
      have := List.getElem?_eq_getElem hlen
      rw [List.getElem?_zipIdx, hy] at this
      simpa using this.symm
    rw [← e, List.getElem_cons_drop hlen, List.take_append_drop]
  have hne1 : ∀ x ∈ A.zipIdx.take i, i ≠ x.2 := fun x hx => by
    obtain ⟨j, hj⟩ := List.mem_iff_getElem?.1 hx
    rw [List.getElem?_take] at hj
    split at hj
    · rw [List.getElem?_zipIdx] at hj
      cases ha : A[j]? with
      | none => rw [ha] at hj; cases hj
      | some z => rw [ha] at hj; simp at hj; subst hj; dsimp only; omega
    · cases hj
  have hne2 : ∀ x ∈ A.zipIdx.drop (i + 1), i ≠ x.2 := fun x hx => by
    obtain ⟨j, hj⟩ := List.mem_iff_getElem?.1 hx
    rw [List.getElem?_drop, List.getElem?_zipIdx] at hj
    cases ha : A[i + 1 + j]? with
    | none => rw [ha] at hj; cases hj
    | some z => rw [ha] at hj; simp at hj; subst hj; dsimp only; omega
  have same : ∀ l : List (AOper × Nat), (∀ x ∈ l, i ≠ x.2) → (l.filter fun x => (listed.setIfInBounds i true).getD x.2 true == false) = l.filter fun x => listed.getD x.2 true == false := fun l hl => by
    apply List.filter_congr
    intro x hx
    rw [getD_set_ne true (hl x hx)]
  have hself : (listed.setIfInBounds i true).getD i true = true := by
    rw [Array.getD_eq_getD_getElem?]
    rcases Nat.lt_or_ge i listed.size with h' | h'
    · simp [h']
    · rw [Array.getElem?_eq_none (by simpa using h')]; rfl
  constructor
  · unfold left
    conv => lhs; rw [hz]
    rw [List.filter_append, List.filter_cons, if_pos (by simp only [hl]; rfl)]
  · unfold left
    conv => lhs; rw [hz]
    rw [List.filter_append, List.filter_cons, if_neg (by rw [hself]; simp), same _ hne1, same _ hne2]

theorem take_idx {A : List AOper} {i : Nat} {x : AOper × Nat} (hx : x ∈ A.zipIdx.take i) : x.2 < i := by
  obtain ⟨j, hj⟩ := List.mem_iff_getElem?.1 hx
  rw [List.getElem?_take] at hj
  split at hj
  · rw [List.getElem?_zipIdx] at hj
    cases ha : A[j]? with
    | none => rw [ha] at hj; cases hj
    | some z => rw [ha] at hj; simp at hj; subst hj; dsimp only; omega
  · cases hj
/-- whoever is first of those that are left may come up -/
theorem first_ready {ops : Array Oper} {A : List AOper} {n : Nat} {listed : Array Bool} {y : AOper} {i : Nat} {l : List (AOper × Nat)} (hG : Good P ops A n) (hsz : listed.size = ops.size) (h : left A listed = (y, i) :: l) : i ∈ Region.ready .any ops listed := by
  have hm : (y, i) ∈ left A listed := by rw [h]; exact List.mem_cons_self ..
  have hf := List.mem_filter.1 hm
  have hl : listed.getD i true = false := by simpa using hf.2
  have hil : i < ops.size := by
    rcases Nat.lt_or_ge i ops.size with h' | h'
    · exact h'
    · rw [Array.getD_eq_getD_getElem?, Array.getElem?_eq_none (by omega)] at hl; cases hl
  refine mem_ready.2 ⟨hl, ops[i], Array.getElem?_eq_getElem hil, fun e he hb => ?_⟩
  have hlt := hG.lt i _ (Array.getElem?_eq_getElem hil) e he hb
  rcases Bool.eq_false_or_eq_true (listed.getD e.on false) with h' | h'
  · exact h'
  · exfalso
    have hel : e.on < listed.size := by omega
    have hu : listed.getD e.on true = false := by
      rw [Array.getD_eq_getD_getElem?, Array.getElem?_eq_getElem hel] at h' ⊢
      exact h'
    have hea : e.on < A.length := by rw [hG.len]; omega
    have := (left_split (List.getElem?_eq_getElem hea) hu).1
    rw [h] at this
    cases hq : ((A.zipIdx.take e.on).filter fun x => listed.getD x.2 true == false) with
    | nil =>
      rw [hq] at this
      simp at this
      omega
    | cons z t =>
      rw [hq] at this
      simp at this
      have hz : z ∈ A.zipIdx.take e.on := (List.mem_filter.1 (by rw [hq]; exact List.mem_cons_self ..)).1
      have := take_idx hz
      rename_i h2
      rw [← h2.1] at this
      dsimp only at this
      omega
theorem any_ok {ops : Array Oper} {A : List AOper} {n n0 : Nat} {sF : St} {Q : Exit → Act → World → Prop} (hcl : ClOK K P cl) (hG : Good P ops A n) (hn0 : hp0.length ≤ n0) (hp : sF.p)
    (hQ : ∀ a' w' ρ', Inv K w0 ρ0 hp0 w' ρ' a' sF → Q .normal a' w') : ∀ (fuel : Nat) (listed : Array Bool) (w : World) (ρ : List Own) (a : Act) (s : St),
    listed.size = ops.size → (left A listed).length ≤ fuel →
    (∀ (k : Nat) (o : Oper), listed.getD k false = true → ops[k]? = some o → ∀ e ∈ o.after, Region.binds .any e = true → listed.getD e.on false = true) →
    Inv K w0 ρ0 hp0 w ρ a s → (∀ x ∈ left A listed, allocs x.1.op = true → ρ[n0 + x.1.rank]? = some Own.fresh) → s.base ≤ n0 → stps ex cl n0 ((left A listed).map (·.1)) s = some sF →
    wpAny P .any ops Q fuel listed a w := by
  intro fuel
  induction fuel with
  | zero =>
    intro listed w ρ a s hsz hfl _ hI _ _ hst
    have h0 : left A listed = [] := List.eq_nil_of_length_eq_zero (by omega)
    rw [h0] at hst
    rw [List.map_nil, stps_nil] at hst
    obtain rfl := Option.some.inj hst
    refine ⟨?_, hQ _ _ _ hI⟩
    -- nobody is left
    apply List.eq_nil_iff_forall_not_mem.2
    intro i hi
    obtain ⟨h1, o, ho, _⟩ := mem_ready.1 hi
    have hil : i < A.length := by rw [hG.len]; exact (Array.getElem?_eq_some_iff.1 ho).1
    have := (left_split (List.getElem?_eq_getElem hil) h1).1
    rw [h0] at this
    simp at this
  | succ fuel ih =>
    intro listed w ρ a s hsz hfl hcl2 hI hfr hb hst
    refine ⟨fun hr => ?_, fun i hi => ?_⟩
    · cases hle : left A listed with
      | nil =>
        rw [hle] at hst
        rw [List.map_nil, stps_nil] at hst
        obtain rfl := Option.some.inj hst
        exact hQ _ _ _ hI
      | cons z l =>
        have := first_ready hG hsz (y := z.1) (i := z.2) hle
        rw [hr] at this
        cases this
    · obtain ⟨h1, o, ho, hed⟩ := mem_ready.1 hi
      have hil : i < A.length := by rw [hG.len]; exact (Array.getElem?_eq_some_iff.1 ho).1
      obtain ⟨y, hy⟩ : ∃ y, A[i]? = some y := ⟨_, List.getElem?_eq_getElem hil⟩
      obtain ⟨e1, e2⟩ := left_split hy h1
      rw [e1, List.map_append, List.map_cons] at hst
      have hind : ∀ x ∈ ((A.zipIdx.take i).filter fun x => listed.getD x.2 true == false).map (·.1), indep x y = true := fun x hx => by
        obtain ⟨⟨xa, xi⟩, hx2, rfl⟩ := List.mem_map.1 hx
        have hf := List.mem_filter.1 hx2
        obtain ⟨j, hj⟩ := List.mem_iff_getElem?.1 hf.1
        rw [List.getElem?_take] at hj
        split at hj
        · rename_i hji
          rw [List.getElem?_zipIdx] at hj
          cases hz : A[j]? with
          | none => rw [hz] at hj; cases hj
          | some z =>
            rw [hz] at hj
            simp at hj
            obtain ⟨rfl, rfl⟩ := hj
            rcases hG.ind j i z y hz hy hji with hbit | hind
            · exfalso
              have := bit_listed hG.lt hcl2 i j o ho hed hbit
              have h2 := hf.2
              simp only [beq_iff_eq] at h2
              rw [Array.getD_eq_getD_getElem?] at this h2
              cases hlj : listed[j]? with
              | none => rw [hlj] at h2; cases h2
              | some b => rw [hlj] at this h2; simp at this h2; rw [this] at h2; cases h2
            · exact hind
        · cases hj
      obtain ⟨s1, g1, g2⟩ := front _ s hb hind hst
      · refine stp_ok ho (hG.of i o y ho hy) hcl hI hn0 (fun ha => ?_) g1 (stps_p _ _ _ g2 hp) fun a' w' ρ' hI' hf => ?_
        · refine hfr (y, i) ?_ ha
          rw [e1]
          exact List.mem_append_right _ (List.mem_cons_self ..)
        · refine ih _ w' ρ' a' s1 (by simpa using hsz) ?_ (fun k ok hk hok e he hbd => ?_) hI' (fun x hx ha => ?_) (by rw [stp_base g1]; exact hb) ?_
          · rw [e2]
            rw [e1] at hfl
            simp at hfl ⊢
            omega
          · by_cases hki : i = k
            · subst hki
              rw [ho] at hok
              cases hok
              exact getD_set_true (hed e he hbd)
            · rw [getD_set_ne false hki] at hk
              exact getD_set_true (hcl2 k ok hk hok e he hbd)
          · have hx' : x ∈ left A listed := by
              rw [e2] at hx
              rw [e1]
              rcases List.mem_append.1 hx with h | h
              · exact List.mem_append_left _ h
              · exact List.mem_append_right _ (List.mem_cons_of_mem _ h)
            refine hf _ (hfr x hx' ha) fun hay => ?_
            -- another one
            obtain ⟨xa, xi⟩ := x
            have hxa : A[xi]? = some xa ∧ xi ≠ i := by
              rw [e2] at hx
              rcases List.mem_append.1 hx with h | h
              · have := (List.mem_filter.1 h).1
                obtain ⟨j, hj⟩ := List.mem_iff_getElem?.1 this
                rw [List.getElem?_take] at hj
                split at hj
                · rw [List.getElem?_zipIdx] at hj
                  cases hz : A[j]? with
                  | none => rw [hz] at hj; cases hj
                  | some z => rw [hz] at hj; simp at hj; obtain ⟨rfl, rfl⟩ := hj; exact ⟨hz, by omega⟩
                · cases hj
              · have := (List.mem_filter.1 h).1
                obtain ⟨j, hj⟩ := List.mem_iff_getElem?.1 this
                rw [List.getElem?_drop, List.getElem?_zipIdx] at hj
                cases hz : A[i + 1 + j]? with
                | none => rw [hz] at hj; cases hj
                | some z => rw [hz] at hj; simp at hj; obtain ⟨rfl, rfl⟩ := hj; exact ⟨hz, by omega⟩
            have := hG.apart xi i xa y hxa.1 hy ha hay hxa.2
            dsimp only
            omega
          · rw [e2, List.map_append]
            exact g2

theorem Inv.heap {w w' : World} {ρ : List Own} {a : Act} {s : St} (h : Inv K w0 ρ0 hp0 w ρ a s) (hw : w'.heap = w.heap) (he : Env w w' := by exact ⟨rfl, rfl, rfl⟩) : Inv K w0 ρ0 hp0 w' ρ a s := by
  have := h.step (w' := w') (ρ' := ρ) (t := none) (p := s.p) (n0 := 0) (sl0 := []) (hid := []) (d := undefD) (v := undef) (δ := []) (g := []) (by simp only [undefD, Rep]; exact ⟨[], rfl, by simp [RepL]⟩) (Eff.no (nid := hp0.length) hw he) (Nat.le_refl _)
  simpa [app, addW, setD, Act.put] using this
/-- drawn regions are carried out soundly -/
theorem drawn_ok (hm : P.follows .mixedOrders = true) : Drawn P := by
  intro K cl id ops A n hcl hc ex w0 ρ0 hp0 w ρ a s s' hI h hp Q hQ
  have hG := compD_good hc
  unfold reg at h
  simp only [growS_eq, forceN_eq, lenG_eq] at h
  have hl := hI.rlen
  have hb := hI.base
  have hbl := hI.blen
  refine wp_region_any hm ?_
  have hleft : left A (Array.replicate ops.size false) = A.zipIdx := by
    unfold left
    rw [List.filter_eq_self]
    intro x hx
    obtain ⟨j, hj⟩ := List.mem_iff_getElem?.1 hx
    rw [List.getElem?_zipIdx] at hj
    cases ha : A[j]? with
    | none => rw [ha] at hj; cases hj
    | some z =>
      rw [ha] at hj
      simp at hj
      subst hj
      have := (List.getElem?_eq_some_iff.1 ha).1
      rw [hG.len] at this
      simp [Array.getD_eq_getD_getElem?, this]
  refine any_ok (ex := ex) (cl := cl) (n0 := s.hp.length) hcl hG hI.blen hp hQ ops.size _ { w with drawn := w.drawn + 1 } (ρ ++ List.replicate n Own.fresh) a ⟨s.p, s.sl, s.hp ++ deads n, s.base, s.wr⟩ (by simp) (by rw [hleft]; simp [hG.len]) (fun k o hk => ?_) ((hI.grow n).heap rfl) (fun x hx ha => ?_) (by dsimp only; omega) ?_
  · simp [Array.getD_eq_getD_getElem?, Array.getElem?_replicate] at hk
    split at hk <;> simp at hk
  · rw [hleft] at hx
    obtain ⟨j, hj⟩ := List.mem_iff_getElem?.1 hx
    rw [List.getElem?_zipIdx] at hj
    cases hz : A[j]? with
    | none => rw [hz] at hj; cases hj
    | some z =>
      rw [hz] at hj
      simp at hj
      subst hj
      have := hG.rank j z hz ha
      rw [List.getElem?_append_right (by omega), List.getElem?_replicate, if_pos (by dsimp only; omega)]
  · rw [hleft]
    have : A.zipIdx.map (·.1) = A := by
      apply List.ext_getElem?
      intro j
      rw [List.getElem?_map, List.getElem?_zipIdx]
      cases A[j]? <;> simp
    rw [this]
    exact h
end
end Go.Ev
end
section
namespace Go.Ev
open Go.RowKit
/-- no values of a kind of one's own -/
def noCust : Cust := ⟨fun _ _ _ _ => False, fun _ _ _ _ _ _ h => h.elim, fun _ _ _ _ h => h.elim, fun _ => False⟩
def trueOut : Option Out → Bool
  | some ⟨_, .val (.bool true), _, _⟩ => true
  | _ => false
/-- a call without arguments that the evaluator finds to be true -/
theorem true_any {P : Program} {F : FuncId → Option AFun} {raw : Raw} {n f : Nat} (hm : P.follows .mixedOrders = true) (hF : ∀ f fn, F f = some fn → compF P f = some fn) (hT : ClOK noCust P raw.tab)
    (h : trueOut (callF F raw n f [] [.dead] 0) = true) (w : World) : Calls P f #[] w fun e w' => e = .returned (.bool true) ∧ Below w.heap.size w w' := by
  cases hc : callF F raw n f [] [.dead] 0 with
  | none => rw [hc] at h; cases h
  | some out =>
    rw [hc] at h
    obtain ⟨h1, h2⟩ := callF_ok (K := noCust) (raw := raw) (drawn_ok hm) hF hT n f [] [.dead] 0 out hc (callF_true n _ _ _ _ _ hc)
    have hk : OK noCust w [.fresh] [.dead] := by
      refine ⟨rfl, fun i b n hi => ?_, fun i j b n m hi => ?_, fun i x hx => ?_, fun _ h => h.elim, fun _ _ _ _ h => h⟩
      · cases i <;> simp at hi
      · cases i <;> simp at hi
      · cases i with
        | zero => simp at hx; subst hx; trivial
        | succ i => simp at hx
    refine (h2 w [.fresh] [] hk (by simp [RepL]) rfl).mono fun e w' he => ?_
    obtain ⟨v, rfl, ρ', hv, hE⟩ := he
    have hd : out.d = .val (.bool true) := by
      unfold trueOut at h
      split at h
      · rename_i heq; cases heq; rfl
      · cases h
    rw [hd] at hv
    simp only [Rep] at hv
    subst hv
    refine ⟨rfl, hE.env.1, hE.env.2.1, hE.env.2.2, hE.size, fun b hb => hE.keep b hb fun i n hi => ?_⟩
    cases i <;> simp at hi
end Go.Ev
end
