import Derived.Test.YtmekepomgofiaaaEvV
set_option linter.all false
namespace Go.Ev
section
variable {ex : Bool} {cl : FuncId → List D → List Blk → Nat → Option Out} {sl : List D} {hp hp' : List Blk} {nid nid' t : Nat} {d : D} {out : Out}

theorem evO_set {x : Operand} (h : t ∉ tmpO x) : evO (sl.set t d) x = evO sl x := by
  cases x with
  | tmp u =>
    simp only [tmpO, List.mem_singleton] at h
    simp only [evO, evF, getK_eq, List.getD_eq_getElem?_getD, List.getElem?_set, if_neg h]
  | _ => rfl
theorem evL_set : ∀ {l : List Operand}, t ∉ tmpL l → evL (sl.set t d) l = evL sl l
  | [], _ => rfl
  | x :: l, h => by
    simp only [tmpL, List.flatMap_cons, List.mem_append, not_or] at h
    simp only [evL, evO_set h.1]
    rw [evL_set (l := l) h.2]
theorem partsD_set : ∀ {l : List (Nat × Nat × Operand)}, (t ∉ l.flatMap fun p => tmpO p.2.2) → partsD (sl.set t d) l = partsD sl l
  | [], _ => rfl
  | (o, n, x) :: l, h => by
    simp only [List.flatMap_cons, List.mem_append, not_or] at h
    simp only [partsD, evO_set h.1]
    rw [partsD_set (l := l) h.2]
theorem partsS_set {k : Nat} : ∀ {l : List (Nat × Operand)}, (t ∉ l.flatMap fun p => tmpO p.2) → partsS (sl.set t d) k l = partsS sl k l
  | [], _ => rfl
  | (o, x) :: l, h => by
    simp only [List.flatMap_cons, List.mem_append, not_or] at h
    simp only [partsS, evO_set h.1]
    rw [partsS_set (l := l) h.2]
theorem opt_set {x : Option Operand} (h : t ∉ tmpL x.toList) : x.map (evO (sl.set t d)) = x.map (evO sl) := by
  cases x with
  | none => rfl
  | some x =>
    simp only [Option.toList, tmpL, List.flatMap_cons, List.flatMap_nil, List.append_nil] at h
    simp only [Option.map_some, evO_set h]
theorem core_set {ao : AOp} (h : t ∉ uses ao) : core ex cl (sl.set t d) hp nid ao = core ex cl sl hp nid ao := by
  cases ao <;> simp only [uses, List.mem_append, not_or] at h <;> simp only [core, coreF]
  case mov x => simp only [c_mov, evO_set h]
  case pick c a b => simp only [c_pick, evO_set h.1.1, evO_set h.1.2, evO_set h.2]
  case zero => rfl
  case box n x => simp only [c_box, evO_set h]
  case build z l => simp only [c_build, partsD_set h]
  case bslice k n z l => simp only [c_bslice, partsS_set h]
  case load n x => simp only [c_load, c_loadS, evO_set h]
  case store n x y => simp only [c_store, c_storeS, evO_set h.1, evO_set h.2]
  case nilCheck x => simp only [c_nilCheck, evO_set h]
  case bin kb op x y => simp only [c_bin, evO_set h.1, evO_set h.2]
  case eqNil kd op x y => simp only [c_eqNil, evO_set h.1, evO_set h.2]
  case eqAgg op ks x y => simp only [c_eqAgg, evO_set h.1, evO_set h.2]
  case un op x => simp only [c_un, evO_set h]
  case convInt k x => simp only [c_convInt, evO_set h]
  case convStr x => simp only [c_convStr, evO_set h]
  case mkFn f a b => simp only [c_mkFn, evL_set h.1, evL_set h.2]
  case mkSlice k b z x y => simp only [c_mkSlice, c_mkSliceS, evO_set h.1, evO_set h.2]
  case slice k x lo hi mx => simp only [c_slice, evO_set h.1.1.1, opt_set h.1.1.2, opt_set h.1.2, opt_set h.2]
  case faddr n x => simp only [c_faddr, evO_set h]
  case field n o x => simp only [c_field, evO_set h]
  case iaddr k x y => simp only [c_iaddr, c_iaddrS, evO_set h.1, evO_set h.2]
  case extract x i => simp only [c_extract, evO_set h]
  case call f l => simp only [c_call, evL_set h]
  case callv x l => simp only [c_callv, evO_set h.1, evL_set h.2]
  case len b x => simp only [c_len, c_lenS, evO_set h]
  case append k x y => simp only [c_append, c_appendS, c_appE, evO_set h.1, evO_set h.2]
  case copy k x y => simp only [c_copy, evO_set h.1, evO_set h.2]
  case clear k z x => simp only [c_clear, evO_set h]
  case minmax m l => rfl
  case aidx n len k x i => simp only [c_aidx, evO_set h.1, evO_set h.2]
  case sidx x i => simp only [c_sidx, evO_set h.1, evO_set h.2]
  case sslice x lo hi => simp only [c_sslice, evO_set h.1.1, opt_set h.1.2, opt_set h.2]
  case s2b x => simp only [c_s2b, c_s2bS, evO_set h]
  case b2s x => simp only [c_b2s, c_b2sS, evO_set h]
  case appS x y => simp only [c_appS, evO_set h.1, evO_set h.2]
  case copS x y => simp only [c_copS, evO_set h.1, evO_set h.2]
  case mkMap => rfl
  case mlook kd z ok' x y => simp only [c_mlook, evO_set h.1, evO_set h.2]
  case mlookS nf z ok' x y => simp only [c_mlookS, evO_set h.1, evO_set h.2]
  case mput kd x y z => simp only [c_mput, evO_set h.1.1, evO_set h.1.2, evO_set h.2]
  case mputS nf x y z => simp only [c_mputS, evO_set h.1.1, evO_set h.1.2, evO_set h.2]
  case mlen x => simp only [c_mlen, evO_set h]
  case ixb x y => simp only [c_ixb, evO_set h.1, evO_set h.2]
  case mkI t x => simp only [c_mkI, evO_set h]
  case eqPtr op x y => simp only [c_eqPtr, evO_set h.1, evO_set h.2]
theorem core_setD {ao : AOp} {t : Option Nat} (h : ∀ u, t = some u → u ∉ uses ao) : core ex cl (setD sl t d) hp nid ao = core ex cl sl hp nid ao := by
  cases t with
  | none => rfl
  | some t => exact core_set (h t rfl)
theorem core_pure {ao : AOp} (h : pureA ao = true) : core ex cl sl hp nid ao = core ex cl sl hp' nid' ao := by
  cases ao <;> first | rfl | (simp [pureA] at h)
theorem pure_out {ao : AOp} (h : pureA ao = true) (ho : core ex cl sl hp nid ao = some out) : out.δ = [] ∧ out.grow = [] := by
  cases ao <;> simp only [pureA, Bool.false_eq_true] at h <;> simp only [core, coreF] at ho
  case mov x => unfold c_mov ok at ho; cases ho; exact ⟨rfl, rfl⟩
  case emptyS => unfold ok at ho; cases ho; exact ⟨rfl, rfl⟩
  case pick c a b =>
    unfold c_pick ok at ho
    split at ho
    · split at ho <;> cases ho <;> exact ⟨rfl, rfl⟩
    · cases ho
  case build z l =>
    unfold c_build ok at ho
    split at ho
    · split at ho
      · cases ho; exact ⟨rfl, rfl⟩
      · cases ho
    · cases ho
  case bin kb op x y =>
    unfold c_bin at ho
    split at ho
    · split at ho
      · split at ho
        · rw [forceX_eq] at ho; cases ho; exact ⟨rfl, rfl⟩
        · cases ho
      · cases ho
    · cases ho
  case un op x =>
    unfold c_un ok at ho
    split at ho
    · split at ho
      · cases ho; exact ⟨rfl, rfl⟩
      · cases ho
    · cases ho
  case convInt k x =>
    unfold c_convInt ok at ho
    split at ho
    · cases ho; exact ⟨rfl, rfl⟩
    · cases ho
  case convStr x =>
    unfold c_convStr ok at ho
    split at ho
    · cases ho; exact ⟨rfl, rfl⟩
    · cases ho
  case mkFn f a b => unfold c_mkFn ok at ho; cases ho; exact ⟨rfl, rfl⟩
  case field n o x =>
    unfold c_field ok at ho
    split at ho
    · split at ho
      · cases ho; exact ⟨rfl, rfl⟩
      · cases ho
    · cases ho
  case extract x i =>
    unfold c_extract ok at ho
    split at ho
    · split at ho
      · cases ho; exact ⟨rfl, rfl⟩
      · cases ho
    · cases ho

  case aidx n len k x i =>
    unfold c_aidx ok at ho
    repeat' split at ho
    all_goals first | contradiction | (cases ho; exact ⟨rfl, rfl⟩) | cases ho
  case sidx x i =>
    unfold c_sidx ok at ho
    repeat' split at ho
    all_goals first | contradiction | (cases ho; exact ⟨rfl, rfl⟩) | cases ho
  case sslice x lo hi =>
    unfold c_sslice ok at ho
    repeat' split at ho
    all_goals first | contradiction | (cases ho; exact ⟨rfl, rfl⟩) | cases ho
  case ixb x y =>
    unfold c_ixb ok at ho
    repeat' split at ho
    all_goals first | contradiction | (cases ho; exact ⟨rfl, rfl⟩) | cases ho
  case mkI t x => unfold c_mkI ok at ho; cases ho; exact ⟨rfl, rfl⟩

theorem setD_comm {a b : Option Nat} {x y : D} (h : ∀ t, a = some t → b ≠ some t) : setD (setD sl a x) b y = setD (setD sl b y) a x := by
  cases a with
  | none => rfl
  | some a =>
    cases b with
    | none => rfl
    | some b =>
      have : a ≠ b := fun e => h a rfl (by rw [e])
      simp only [setD]
      exact List.set_comm x y this
theorem yes_setD {g : Option (Option Nat × Bool)} {t : Option Nat} (h : ∀ u, t = some u → u ∉ (match g with | some (some t, _) => [t] | _ => [])) : yes (setD sl t d) g = yes sl g := by
  cases t with
  | none => rfl
  | some t =>
    have h := h t rfl
    unfold yes
    split
    · rfl
    · rfl
    · rename_i u want
      simp only [List.mem_singleton] at h
      simp only [setD, getG_eq, List.getElem?_set, if_neg h]

theorem hide_set {n0 r : Nat} {x : Blk} : ∀ {l : List Nat} {hp : List Blk}, r ∈ l → hideL n0 l (hp.set (n0 + r) x) = hideL n0 l hp
  | q :: l, hp, h => by
    simp only [hideL]
    by_cases e : r ∈ l
    · rw [hide_set e]
    · have : r = q := by rcases List.mem_cons.1 h with h | h; exact h; exact absurd h e
      subst this
      clear h
      apply List.ext_getElem?
      intro i
      rw [List.getElem?_set, List.getElem?_set]
      have hl : (hideL n0 l (hp.set (n0 + r) x)).length = (hideL n0 l hp).length := by rw [(hideL_get n0 l _ 0).1, (hideL_get n0 l _ 0).1]; simp
      by_cases hi : n0 + r = i
      · rw [if_pos hi, if_pos hi, hl]
      · rw [if_neg hi, if_neg hi]
        clear hl
        induction l with
        | nil => simp only [hideL, List.getElem?_set, if_neg hi]
        | cons q l ih =>
          simp only [List.mem_cons, not_or] at e
          simp only [hideL, List.getElem?_set]
          have hl : (hideL n0 l (hp.set (n0 + r) x)).length = (hideL n0 l hp).length := by rw [(hideL_get n0 l _ 0).1, (hideL_get n0 l _ 0).1]; simp
          rw [hl, ih e.2]
theorem hide_app {n0 : Nat} {l R : List Nat} (hR : ∀ r ∈ R, r ∈ l) : ∀ (δ : List (Nat × Blk)) (hp : List Blk), (∀ x ∈ δ, ∃ r ∈ R, x.1 = n0 + r) → hideL n0 l (app δ hp) = hideL n0 l hp
  | [], hp, _ => rfl
  | x :: δ, hp, h => by
    obtain ⟨r, hr, e⟩ := h x (List.mem_cons_self ..)
    show hideL n0 l (app δ (hp.set x.1 x.2)) = _
    rw [hide_app hR δ _ fun y hy => h y (List.mem_cons_of_mem _ hy), e, hide_set (hR r hr)]
theorem app_set_comm {n : Nat} {x : Blk} : ∀ (ε : List (Nat × Blk)) (hp : List Blk), (∀ y ∈ ε, y.1 ≠ n) → (app ε hp).set n x = app ε (hp.set n x)
  | [], hp, _ => rfl
  | y :: ε, hp, h => by
    show (app ε (hp.set y.1 y.2)).set n x = app ε ((hp.set n x).set y.1 y.2)
    rw [app_set_comm ε _ fun z hz => h z (List.mem_cons_of_mem _ hz), List.set_comm _ _ (h y (List.mem_cons_self ..))]
theorem app_comm {n0 : Nat} {R S : List Nat} (hne : ∀ r ∈ R, r ∉ S) : ∀ (δ ε : List (Nat × Blk)) (hp : List Blk), (∀ x ∈ δ, ∃ r ∈ R, x.1 = n0 + r) → (∀ x ∈ ε, ∃ r ∈ S, x.1 = n0 + r) → app δ (app ε hp) = app ε (app δ hp)
  | [], ε, hp, _, _ => rfl
  | x :: δ, ε, hp, h1, h2 => by
    obtain ⟨r, hr, e⟩ := h1 x (List.mem_cons_self ..)
    show app δ ((app ε hp).set x.1 x.2) = app ε (app δ (hp.set x.1 x.2))
    rw [app_set_comm ε hp fun y hy he => by
      obtain ⟨q, hq, e2⟩ := h2 y hy
      have : q = r := by omega
      exact hne r hr (this ▸ hq)]
    exact app_comm hne δ ε _ (fun y hy => h1 y (List.mem_cons_of_mem _ hy)) h2
theorem addW_high {base : Nat} : ∀ (δ : List (Nat × Blk)) (w : List Nat), (∀ x ∈ δ, base ≤ x.1) → addW base δ w = w
  | [], w, _ => rfl
  | x :: δ, w, h => by
    have := h x (List.mem_cons_self ..)
    simp only [addW]
    rw [if_neg (by omega)]
    exact addW_high δ w fun y hy => h y (List.mem_cons_of_mem _ hy)
theorem calm_some {o : AOper} {n0 : Nat} {out : Out} (h : calm o (n0 + o.rank) out = true) : out.grow = [] ∧ ∀ x ∈ out.δ, ∃ r ∈ o.rank :: o.own, x.1 = n0 + r := by
  unfold calm at h
  split at h
  · refine ⟨by assumption, fun x hx => ?_⟩
    have := List.all_eq_true.1 h x hx
    simp only [Bool.or_eq_true, beq_iff_eq, List.any_eq_true] at this
    rcases this with h | ⟨r, hr, h⟩
    · exact ⟨_, List.mem_cons_self .., h⟩
    · exact ⟨r, List.mem_cons_of_mem _ hr, by omega⟩
  · cases h

/-- how a step came about -/
theorem doS_of {n0 : Nat} {o : AOper} {s : St} (ho : core ex cl s.sl (hideL n0 o.hide s.hp) (n0 + o.rank) o.op = some out) (hw : o.wrt = true ∨ calm o (n0 + o.rank) out = true) :
    doS ex cl n0 o s = some ⟨andP s.p out.p, setD s.sl o.dst out.d, app out.δ s.hp ++ out.grow, s.base, addW s.base out.δ s.wr⟩ := by
  unfold doS someS
  rw [forceN_eq, hideK_eq]
  simp only [ho]
  unfold finS
  split
  · rename_i h1 h2
    rw [h1, h2]
    simp [app, addW]
  · have : (o.wrt || calm o (n0 + o.rank) out) = true := by simpa using hw
    rw [this]
    simp
theorem stp_of {n0 : Nat} {o : AOper} {s : St} (hy : yes s.sl o.guard = some true) (ho : core ex cl s.sl (hideL n0 o.hide s.hp) (n0 + o.rank) o.op = some out) (hw : o.wrt = true ∨ calm o (n0 + o.rank) out = true) :
    stp ex cl n0 o s = some ⟨andP s.p out.p, setD s.sl o.dst out.d, app out.δ s.hp ++ out.grow, s.base, addW s.base out.δ s.wr⟩ := by
  unfold stp
  split
  · exact doS_of ho hw
  · rename_i g hg
    rw [← hg, hy]
    exact doS_of ho hw
theorem stp_no {n0 : Nat} {o : AOper} {s : St} (hy : yes s.sl o.guard = some false) : stp ex cl n0 o s = some ⟨s.p, setD s.sl o.dst undefD, s.hp, s.base, s.wr⟩ := by
  unfold stp
  split
  · rename_i hg
    rw [hg] at hy
    cases hy
  · rename_i g hg
    rw [← hg, hy]
    simp [ifS]

theorem andP_comm {p : Prop} {q r : Option Prop} : andP (andP p q) r = andP (andP p r) q := by
  cases q <;> cases r <;> simp only [andP]
  exact propext ⟨fun ⟨⟨a, b⟩, c⟩ => ⟨⟨a, c⟩, b⟩, fun ⟨⟨a, b⟩, c⟩ => ⟨⟨a, c⟩, b⟩⟩

/-- what makes two steps change places -/
theorem indep_spec {x y : AOper} (h : indep x y = true) : (∀ t, x.dst = some t → t ∉ looks y ∧ y.dst ≠ some t) ∧ (∀ t, y.dst = some t → t ∉ looks x) ∧
    (pureA x.op = true ∨ pureA y.op = true ∨ (x.wrt = false ∧ y.wrt = false ∧ (∀ r ∈ x.rank :: x.own, r ∈ y.hide) ∧ (∀ r ∈ y.rank :: y.own, r ∈ x.hide) ∧ (∀ r ∈ x.rank :: x.own, r ∉ y.rank :: y.own))) := by
  unfold indep at h
  simp only [Bool.and_eq_true, Bool.or_eq_true] at h
  obtain ⟨⟨h1, h2⟩, h3⟩ := h
  refine ⟨fun t ht => ?_, fun t ht => ?_, ?_⟩
  · rw [ht] at h1
    simp only [Bool.and_eq_true, Bool.not_eq_true'] at h1
    refine ⟨fun hm => ?_, fun e => ?_⟩
    · have : (looks y).contains t = true := by simpa using hm
      rw [this] at h1; cases h1.1
    · rw [e] at h1; simp at h1
  · rw [ht] at h2
    simp only [Bool.not_eq_true'] at h2
    intro hm
    have : (looks x).contains t = true := by simpa using hm
    rw [this] at h2; cases h2
  · rcases h3 with (h3 | h3) | h3
    · exact .inl h3
    · exact .inr (.inl h3)
    · simp only [Bool.and_eq_true, Bool.not_eq_true', List.all_eq_true] at h3
      obtain ⟨⟨⟨h3, h4⟩, h5⟩, h6⟩ := h3
      refine .inr (.inr ⟨h3, h4, fun r hr => by simpa using (h5 r hr).1, fun r hr => by simpa using h6 r hr, fun r hr hm => ?_⟩)
      have := (h5 r hr).2
      rw [List.contains_iff_mem.2 hm] at this
      cases this

theorem swap {n0 : Nat} {x y : AOper} {s s1 s2 : St} (hb : s.base ≤ n0) (hi : indep x y = true) (h1 : stp ex cl n0 x s = some s1) (h2 : stp ex cl n0 y s1 = some s2) :
    ∃ s1', stp ex cl n0 y s = some s1' ∧ stp ex cl n0 x s1' = some s2 := by
  obtain ⟨i1, i2, i3⟩ := indep_spec hi
  have lx : ∀ u, y.dst = some u → u ∉ uses x.op ∧ u ∉ (match x.guard with | some (some t, _) => [t] | _ => []) := fun u hu => by
    have := i2 u hu
    unfold looks at this
    simp only [List.mem_append, not_or] at this
    exact this
  have ly : ∀ u, x.dst = some u → u ∉ uses y.op ∧ u ∉ (match y.guard with | some (some t, _) => [t] | _ => []) := fun u hu => by
    have := (i1 u hu).1
    unfold looks at this
    simp only [List.mem_append, not_or] at this
    exact this
  have hyx : ∀ (d : D) (sl : List D), yes (setD sl y.dst d) x.guard = yes sl x.guard := fun d sl => yes_setD fun u hu => (lx u hu).2
  have hyy : ∀ (d : D) (sl : List D), yes (setD sl x.dst d) y.guard = yes sl y.guard := fun d sl => yes_setD fun u hu => (ly u hu).2
  have hsl : ∀ (d e : D) (sl : List D), setD (setD sl x.dst d) y.dst e = setD (setD sl y.dst e) x.dst d := fun d e sl => setD_comm fun t ht => (i1 t ht).2
  rcases stp_cases h1 with ⟨gx, ox, cx, wx, rfl⟩ | ⟨gx, rfl⟩ <;> rcases stp_cases h2 with ⟨gy, oy, cy, wy, rfl⟩ | ⟨gy, rfl⟩ <;> dsimp only at gy
  · -- both are carried out
    rw [hyy] at gy
    dsimp only at cy
    rw [core_setD fun u hu => (ly u hu).1] at cy
    rcases i3 with hp | hp | ⟨w1, w2, m1, m2, hne⟩
    · obtain ⟨e1, e2⟩ := pure_out hp cx
      simp only [e1, e2, app, List.foldl_nil, List.append_nil, addW] at cy ⊢
      refine ⟨_, stp_of gy cy wy, ?_⟩
      rw [stp_of (out := ox) (by rw [hyx]; exact gx) ?_ wx]
      · simp only [e1, e2, app, List.foldl_nil, List.append_nil, addW, hsl, andP_comm]
      · dsimp only
        rw [core_setD fun u hu => (lx u hu).1, core_pure (hp' := hideL n0 x.hide s.hp) (nid' := n0 + x.rank) hp]
        exact cx
    · have cy' := cy
      rw [core_pure (hp' := hideL n0 y.hide s.hp) (nid' := n0 + y.rank) hp] at cy
      obtain ⟨e1, e2⟩ := pure_out hp cy
      refine ⟨_, stp_of gy cy wy, ?_⟩
      rw [stp_of (out := ox) (by rw [hyx]; exact gx) ?_ wx]
      · simp only [e1, e2, app, List.foldl_nil, List.append_nil, addW, hsl, andP_comm]
      · dsimp only
        rw [core_setD fun u hu => (lx u hu).1]
        simp only [e1, e2, app, List.foldl_nil, List.append_nil]
        exact cx
    · rw [w1] at wx
      rw [w2] at wy
      have kx := calm_some (wx.resolve_left (by simp))
      have ky := calm_some (wy.resolve_left (by simp))
      rw [kx.1, List.append_nil, hide_app m1 _ _ kx.2] at cy
      refine ⟨_, stp_of gy cy (by rw [w2]; exact wy), ?_⟩
      rw [stp_of (out := ox) (by rw [hyx]; exact gx) ?_ (by rw [w1]; exact wx)]
      · simp only [kx.1, ky.1, List.append_nil, hsl, andP_comm, app_comm hne _ _ _ kx.2 ky.2,
          addW_high (base := s.base) ox.δ _ (fun z hz => by obtain ⟨r, _, e⟩ := kx.2 z hz; omega), addW_high (base := s.base) oy.δ _ (fun z hz => by obtain ⟨r, _, e⟩ := ky.2 z hz; omega)]
      · dsimp only
        rw [core_setD fun u hu => (lx u hu).1, ky.1, List.append_nil, hide_app m2 _ _ ky.2]
        exact cx
  · rw [hyy] at gy
    refine ⟨_, stp_no gy, ?_⟩
    rw [stp_of (out := ox) (by rw [hyx]; exact gx) ?_ wx]
    · simp only [hsl]
    · dsimp only
      rw [core_setD fun u hu => (lx u hu).1]
      exact cx
  · rw [hyy] at gy
    dsimp only at cy
    rw [core_setD fun u hu => (ly u hu).1] at cy
    refine ⟨_, stp_of gy cy wy, ?_⟩
    rw [stp_no (by rw [hyx]; exact gx)]
    simp only [hsl]
  · rw [hyy] at gy
    refine ⟨_, stp_no gy, ?_⟩
    rw [stp_no (by rw [hyx]; exact gx)]
    simp only [hsl]
theorem stp_base {n0 : Nat} {o : AOper} {s s' : St} (h : stp ex cl n0 o s = some s') : s'.base = s.base := by
  rcases stp_cases h with ⟨_, out, _, _, rfl⟩ | ⟨_, rfl⟩ <;> rfl
/-- a step that may come now, may come first -/
theorem front {n0 : Nat} {y : AOper} {l2 : List AOper} {sF : St} : ∀ (l1 : List AOper) (s : St), s.base ≤ n0 → (∀ x ∈ l1, indep x y = true) → stps ex cl n0 (l1 ++ y :: l2) s = some sF → ∃ s1, stp ex cl n0 y s = some s1 ∧ stps ex cl n0 (l1 ++ l2) s1 = some sF
  | [], s, _, _, h => by
    rw [List.nil_append, stps_cons] at h
    split at h
    · rename_i s1 h1; exact ⟨s1, h1, h⟩
    · cases h
  | x :: l1, s, hb, hi, h => by
    rw [List.cons_append, stps_cons] at h
    split at h
    · rename_i sx hx
      obtain ⟨s2, g1, g2⟩ := front l1 sx (by rw [stp_base hx]; exact hb) (fun z hz => hi z (List.mem_cons_of_mem _ hz)) h
      obtain ⟨s1, q1, q2⟩ := swap hb (hi x (List.mem_cons_self ..)) hx g1
      refine ⟨s1, q1, ?_⟩
      rw [List.cons_append, stps_cons]
      simp only [q2]
      exact g2
    · cases h
end
end Go.Ev
