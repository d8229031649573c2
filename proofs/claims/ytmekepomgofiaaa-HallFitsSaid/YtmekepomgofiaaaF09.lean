import Derived.Test.YtmekepomgofiaaaF08
import Derived.Below
set_option linter.all false
section
namespace Go.Ev
theorem fold_bit {D : List Nat} {i : Nat} : ∀ (l : List Edge) (s0 : Nat), (l.foldl (fun s e => if Region.binds .any e then s ||| 2 ^ e.on ||| D.getD e.on 0 else s) s0).testBit i = true →
    s0.testBit i = true ∨ ∃ e ∈ l, Region.binds .any e = true ∧ (e.on = i ∨ (D.getD e.on 0).testBit i = true)
  | [], s0, h => .inl h
  | e :: l, s0, h => by
    simp only [List.foldl_cons] at h
    rcases fold_bit l _ h with h | ⟨e', h1, h2⟩
    · split at h
      · rename_i hb
        simp only [Nat.testBit_or, Bool.or_eq_true] at h
        rcases h with (h | h) | h
        · exact .inl h
        · refine .inr ⟨e, List.mem_cons_self .., hb, .inl ?_⟩
          rw [Nat.testBit_two_pow] at h
          simpa using h
        · exact .inr ⟨e, List.mem_cons_self .., hb, .inr h⟩
      · exact .inl h
    · exact .inr ⟨e', List.mem_cons_of_mem _ h1, h2⟩
theorem befores_get : ∀ (l : List Oper) (done : List Nat) (j m : Nat), (befores l done)[j]? = some m →
    ∃ o, l[j]? = some o ∧ m = o.after.toList.foldl (fun s e => if Region.binds .any e then s ||| 2 ^ e.on ||| (done ++ (befores l done).take j).getD e.on 0 else s) 0
  | [], done, j, m, h => by simp [befores] at h
  | o :: l, done, j, m, h => by
    simp only [befores] at h ⊢
    cases j with
    | zero =>
      simp at h
      exact ⟨o, by simp, by simp [← h]⟩
    | succ j =>
      simp only [List.getElem?_cons_succ] at h
      obtain ⟨o', h1, h2⟩ := befores_get l _ j m h
      refine ⟨o', by simpa using h1, ?_⟩
      rw [h2]
      simp only [List.take_succ_cons, List.append_assoc, List.singleton_append]
/-- what comes before a listed one is listed -/
theorem bit_listed {ops : Array Oper} {listed : Array Bool} (hlt : ∀ (j : Nat) (o : Oper), ops[j]? = some o → ∀ e ∈ o.after, Region.binds .any e = true → e.on < j)
    (hcl : ∀ (k : Nat) (o : Oper), listed.getD k false = true → ops[k]? = some o → ∀ e ∈ o.after, Region.binds .any e = true → listed.getD e.on false = true) :
    ∀ (j i : Nat) (o : Oper), ops[j]? = some o → (∀ e ∈ o.after, Region.binds .any e = true → listed.getD e.on false = true) → ((befores ops.toList []).getD j 0).testBit i = true → listed.getD i false = true := by
  intro j
  induction j using Nat.strongRecOn with
  | _ j ih =>
    intro i o ho he hb
    rw [List.getD_eq_getElem?_getD] at hb
    cases hm : (befores ops.toList [])[j]? with
    | none => rw [hm] at hb; simp at hb
    | some m =>
      rw [hm] at hb
      obtain ⟨o', h1, h2⟩ := befores_get _ _ _ _ hm
      have : o' = o := by
        rw [Array.getElem?_toList] at h1
        rw [ho] at h1
        exact (Option.some.inj h1).symm
      subst this
      simp only [Option.getD_some] at hb
      rw [h2] at hb
      rcases fold_bit _ _ hb with h | ⟨e, h3, h4, h5⟩
      · simp at h
      · have hmem : e ∈ o'.after := by simpa using h3
        have hl := he e hmem h4
        rcases h5 with rfl | h5
        · exact hl
        · have hej := hlt j o' ho e hmem h4
          have hok : ∃ oe, ops[e.on]? = some oe := by
            have hj := (Array.getElem?_eq_some_iff.1 ho).1
            exact ⟨_, Array.getElem?_eq_getElem (by omega)⟩
          obtain ⟨oe, hoe⟩ := hok
          refine ih e.on hej i oe hoe (hcl e.on oe hl hoe) ?_
          rw [List.nil_append, List.getD_eq_getElem?_getD, List.getElem?_take, if_pos hej] at h5
          rw [List.getD_eq_getElem?_getD]
          exact h5

section
variable {P : Program}
theorem bareD_of {ops : Array Oper} : ∀ (l : List Oper) (r n : Nat) (aos : List AOper), bareD P ops l r = some (aos, n) →
    r ≤ n ∧ aos.length = l.length ∧ (∀ (j : Nat) (o : Oper) (ao : AOper), l[j]? = some o → aos[j]? = some ao → Of P ops o ao) ∧
    (∀ (j : Nat) (ao : AOper), aos[j]? = some ao → pureA ao.op = false → r ≤ ao.rank ∧ ao.rank < n) ∧
    (∀ (j k : Nat) (x y : AOper), aos[j]? = some x → aos[k]? = some y → pureA x.op = false → pureA y.op = false → j < k → x.rank < y.rank)
  | [], r, n, aos, h => by
    simp only [bareD] at h
    obtain ⟨rfl, rfl⟩ := some_pair h
    exact ⟨Nat.le_refl _, rfl, fun j o ao h => (by simp at h), fun j ao h => (by simp at h), fun j k x y h => (by simp at h)⟩
  | o :: l, r, n, aos, h => by
    simp only [bareD] at h
    split at h
    · rename_i c hc
      split at h
      · rename_i t m ht
        obtain ⟨rfl, rfl⟩ := some_pair h
        obtain ⟨g1, g2, g3, g4, g5⟩ := bareD_of l _ _ _ ht
        refine ⟨by split at g1 <;> omega, by simp [g2], fun j o' ao hj ha => ?_, fun j ao ha hp => ?_, fun j k x y hx hy px py hjk => ?_⟩
        · cases j with
          | zero => simp at hj ha; subst hj ha; exact ⟨.inl hc, rfl, rfl⟩
          | succ j => exact g3 j o' ao (by simpa using hj) (by simpa using ha)
        · cases j with
          | zero =>
            simp at ha; subst ha
            dsimp only at hp ⊢
            rw [hp] at g1
            simp at g1
            omega
          | succ j =>
            obtain ⟨q1, q2⟩ := g4 j ao (by simpa using ha) hp
            refine ⟨?_, q2⟩
            split at q1 <;> omega
        · cases k with
          | zero => omega
          | succ k =>
            cases j with
            | zero =>
              simp at hx; subst hx
              dsimp only at px ⊢
              obtain ⟨q1, q2⟩ := g4 k y (by simpa using hy) py
              rw [px] at q1
              simp at q1
              omega
            | succ j => exact g5 j k x y (by simpa using hx) (by simpa using hy) px py (by omega)
      · cases h
    · cases h
/-- the same operation, or the light one -/
def Lt (x y : AOp) : Prop := x = y ∨ (x = .emptyS ∧ ∃ k z, y = .bslice k 0 z [])
theorem light_op (y : AOp) : Lt (light y) y := by
  unfold light
  split
  · exact .inr ⟨rfl, _, _, rfl⟩
  · exact .inl rfl
theorem dress_op (bs : List Nat) (aos : List AOper) (i : Nat) (x : AOper) : Lt (dress bs aos i x).op x.op ∧ (dress bs aos i x).dst = x.dst ∧ (dress bs aos i x).guard = x.guard ∧ (dress bs aos i x).rank = x.rank := by
  unfold dress
  split
  · exact ⟨.inl rfl, rfl, rfl, rfl⟩
  · refine ⟨?_, rfl, rfl, rfl⟩
    dsimp only
    split
    · exact .inl rfl
    · exact light_op _
theorem Lt.alloc {x y : AOp} (h : Lt x y) (ha : allocs x = true) : x = y := by
  rcases h with h | ⟨rfl, _⟩
  · exact h
  · cases ha
/-- what a drawn region's operations have -/
structure Good (P : Program) (ops : Array Oper) (A : List AOper) (n : Nat) : Prop where
  len : A.length = ops.size
  of : ∀ (j : Nat) (o : Oper) (x : AOper), ops[j]? = some o → A[j]? = some x → Of P ops o x
  rank : ∀ (j : Nat) (x : AOper), A[j]? = some x → allocs x.op = true → x.rank < n
  apart : ∀ (j k : Nat) (x y : AOper), A[j]? = some x → A[k]? = some y → allocs x.op = true → allocs y.op = true → j ≠ k → x.rank ≠ y.rank
  lt : ∀ (j : Nat) (o : Oper), ops[j]? = some o → ∀ e ∈ o.after, Region.binds .any e = true → e.on < j
  ind : ∀ (i j : Nat) (x y : AOper), A[i]? = some x → A[j]? = some y → i < j → ((befores ops.toList []).getD j 0).testBit i = true ∨ indep x y = true
theorem allocs_pure {x : AOp} (h : allocs x = true) : pureA x = false := by cases x <;> simp_all [allocs, pureA]
theorem compD_good {ops : Array Oper} {A : List AOper} {n : Nat} (h : compD P ops = some (A, n)) : Good P ops A n := by
  unfold compD at h
  split at h
  · rename_i aos m hb
    dsimp only at h
    split at h
    · rename_i hc
      obtain ⟨rfl, rfl⟩ := some_pair h
      obtain ⟨g1, g2, g3, g4, g5⟩ := bareD_of _ _ _ _ hb
      have get : ∀ (j : Nat) (x : AOper), (aos.zipIdx.map fun (y, i) => dress (befores ops.toList []) aos i y)[j]? = some x → ∃ y, aos[j]? = some y ∧ Lt x.op y.op ∧ x.dst = y.dst ∧ x.guard = y.guard ∧ x.rank = y.rank := fun j x hx => by
        rw [List.getElem?_map, List.getElem?_zipIdx] at hx
        cases hy : aos[j]? with
        | none => rw [hy] at hx; simp at hx
        | some y =>
          rw [hy] at hx
          simp at hx
          subst hx
          exact ⟨y, rfl, dress_op _ _ _ _⟩
      unfold checkD at hc
      simp only [Bool.and_eq_true] at hc
      obtain ⟨hc1, hc2⟩ := hc
      refine ⟨by simp [g2], fun j o x ho hx => ?_, fun j x hx ha => ?_, fun j k x y hx hy ax ay hne => ?_, fun j o ho e he hbd => ?_, fun i j x y hx hy hij => ?_⟩
      · obtain ⟨y, h1, h2, h3, h4, h5⟩ := get j x hx
        have := g3 j o y (by simpa using ho) h1
        refine ⟨?_, h3.trans this.dst, h4.trans this.guard⟩
        rcases this.op with hc | ⟨he, k, z, hc⟩
        · rcases h2 with h2 | ⟨h2, k, z, h6⟩
          · exact .inl (h2 ▸ hc)
          · exact .inr ⟨h2, k, z, h6 ▸ hc⟩
        · rcases h2 with h2 | ⟨h2, k', z', h6⟩
          · exact .inr ⟨h2.trans he, k, z, hc⟩
          · rw [he] at h6; cases h6
      · obtain ⟨y, h1, h2, h3, h4, h5⟩ := get j x hx
        rw [h5]
        exact (g4 j y h1 (allocs_pure (h2.alloc ha ▸ ha))).2
      · obtain ⟨x', p1, p2, p3, p4, p5⟩ := get j x hx
        obtain ⟨y', q1, q2, q3, q4, q5⟩ := get k y hy
        rw [p5, q5]
        rcases Nat.lt_or_gt_of_ne hne with hl | hl
        · have := g5 j k x' y' p1 q1 (allocs_pure (p2.alloc ax ▸ ax)) (allocs_pure (q2.alloc ay ▸ ay)) hl; omega
        · have := g5 k j y' x' q1 p1 (allocs_pure (q2.alloc ay ▸ ay)) (allocs_pure (p2.alloc ax ▸ ax)) hl; omega
      · have hm : (o, j) ∈ ops.toList.zipIdx := by
          refine List.mem_of_getElem? (i := j) ?_
          rw [List.getElem?_zipIdx]
          simp [ho]
        have := List.all_eq_true.1 hc1 (o, j) hm
        have := List.all_eq_true.1 this e (by simpa using he)
        simpa [hbd] using this
      · have hmem : ∀ (j : Nat) (x : AOper), (aos.zipIdx.map fun (y, i) => dress (befores ops.toList []) aos i y)[j]? = some x → (x, j) ∈ (aos.zipIdx.map fun (y, i) => dress (befores ops.toList []) aos i y).zipIdx := fun j x hx => by
          refine List.mem_of_getElem? (i := j) ?_
          rw [List.getElem?_zipIdx, hx]
          simp
        have := List.all_eq_true.1 hc2 (y, j) (hmem j y hy)
        have := List.all_eq_true.1 this (x, i) (hmem i x hx)
        simp only [Bool.or_eq_true, Bool.not_eq_true', decide_eq_false_iff_not] at this
        rcases this with (h | h) | h
        · exact absurd hij h
        · exact .inl h
        · exact .inr h
    · cases h
  · cases h
end
end Go.Ev
end
section
namespace Go.Ev
section
variable {K : Cust} {P : Program} {w0 : World} {ρ0 : List Own} {hp0 : List Blk} {ex : Bool} {cl : FuncId → List D → List Blk → Nat → Option Out}

/-- those that have not come up yet -/
def left (A : List AOper) (listed : Array Bool) : List (AOper × Nat) := A.zipIdx.filter fun x => listed.getD x.2 true == false

theorem left_split {A : List AOper} {listed : Array Bool} {i : Nat} {y : AOper} (hy : A[i]? = some y) (hl : listed.getD i true = false) :
    left A listed = ((A.zipIdx.take i).filter fun x => listed.getD x.2 true == false) ++ (y, i) :: ((A.zipIdx.drop (i + 1)).filter fun x => listed.getD x.2 true == false) ∧
    left A (listed.setIfInBounds i true) = ((A.zipIdx.take i).filter fun x => listed.getD x.2 true == false) ++ ((A.zipIdx.drop (i + 1)).filter fun x => listed.getD x.2 true == false) := by
  have hil := (List.getElem?_eq_some_iff.1 hy).1
  have hz : A.zipIdx = A.zipIdx.take i ++ (y, i) :: A.zipIdx.drop (i + 1) := by
    have hlen : i < A.zipIdx.length := by simp; exact hil
    have e : A.zipIdx[i] = (y, i) := by
      have := List.getElem?_eq_getElem hlen
      rw [List.getElem?_zipIdx, hy] at this
      simpa using this.symm
    rw [← e, List.getElem_cons_drop hlen, List.take_append_drop]
  have hne1 : ∀ x ∈ A.zipIdx.take i, i ≠ x.2 := fun x hx => by
    obtain ⟨j, hj⟩ := List.mem_iff_getElem?.1 hx
    rw [List.getElem?_take] at hj
    split at hj
    · rw [List.getElem?_zipIdx] at hj
      cases ha : A[j]? with
      | none => rw [ha] at hj; cases hj
      | some z => rw [ha] at hj; simp at hj; subst hj; dsimp only; omega
    · cases hj
  have hne2 : ∀ x ∈ A.zipIdx.drop (i + 1), i ≠ x.2 := fun x hx => by
    obtain ⟨j, hj⟩ := List.mem_iff_getElem?.1 hx
    rw [List.getElem?_drop, List.getElem?_zipIdx] at hj
    cases ha : A[i + 1 + j]? with
    | none => rw [ha] at hj; cases hj
    | some z => rw [ha] at hj; simp at hj; subst hj; dsimp only; omega
  have same : ∀ l : List (AOper × Nat), (∀ x ∈ l, i ≠ x.2) → (l.filter fun x => (listed.setIfInBounds i true).getD x.2 true == false) = l.filter fun x => listed.getD x.2 true == false := fun l hl => by
    apply List.filter_congr
    intro x hx
    rw [getD_set_ne true (hl x hx)]
  have hself : (listed.setIfInBounds i true).getD i true = true := by
    rw [Array.getD_eq_getD_getElem?]
    rcases Nat.lt_or_ge i listed.size with h' | h'
    · simp [h']
    · rw [Array.getElem?_eq_none (by simpa using h')]; rfl
  constructor
  · unfold left
    conv => lhs; rw [hz]
    rw [List.filter_append, List.filter_cons, if_pos (by simp only [hl]; rfl)]
  · unfold left
    conv => lhs; rw [hz]
    rw [List.filter_append, List.filter_cons, if_neg (by rw [hself]; simp), same _ hne1, same _ hne2]

theorem take_idx {A : List AOper} {i : Nat} {x : AOper × Nat} (hx : x ∈ A.zipIdx.take i) : x.2 < i := by
  obtain ⟨j, hj⟩ := List.mem_iff_getElem?.1 hx
  rw [List.getElem?_take] at hj
  split at hj
  · rw [List.getElem?_zipIdx] at hj
    cases ha : A[j]? with
    | none => rw [ha] at hj; cases hj
    | some z => rw [ha] at hj; simp at hj; subst hj; dsimp only; omega
  · cases hj
/-- whoever is first of those that are left may come up -/
theorem first_ready {ops : Array Oper} {A : List AOper} {n : Nat} {listed : Array Bool} {y : AOper} {i : Nat} {l : List (AOper × Nat)} (hG : Good P ops A n) (hsz : listed.size = ops.size) (h : left A listed = (y, i) :: l) : i ∈ Region.ready .any ops listed := by
  have hm : (y, i) ∈ left A listed := by rw [h]; exact List.mem_cons_self ..
  have hf := List.mem_filter.1 hm
  have hl : listed.getD i true = false := by simpa using hf.2
  have hil : i < ops.size := by
    rcases Nat.lt_or_ge i ops.size with h' | h'
    · exact h'
    · rw [Array.getD_eq_getD_getElem?, Array.getElem?_eq_none (by omega)] at hl; cases hl
  refine mem_ready.2 ⟨hl, ops[i], Array.getElem?_eq_getElem hil, fun e he hb => ?_⟩
  have hlt := hG.lt i _ (Array.getElem?_eq_getElem hil) e he hb
  rcases Bool.eq_false_or_eq_true (listed.getD e.on false) with h' | h'
  · exact h'
  · exfalso
    have hel : e.on < listed.size := by omega
    have hu : listed.getD e.on true = false := by
      rw [Array.getD_eq_getD_getElem?, Array.getElem?_eq_getElem hel] at h' ⊢
      exact h'
    have hea : e.on < A.length := by rw [hG.len]; omega
    have := (left_split (List.getElem?_eq_getElem hea) hu).1
    rw [h] at this
    cases hq : ((A.zipIdx.take e.on).filter fun x => listed.getD x.2 true == false) with
    | nil =>
      rw [hq] at this
      simp at this
      omega
    | cons z t =>
      rw [hq] at this
      simp at this
      have hz : z ∈ A.zipIdx.take e.on := (List.mem_filter.1 (by rw [hq]; exact List.mem_cons_self ..)).1
      have := take_idx hz
      rename_i h2
      rw [← h2.1] at this
      dsimp only at this
      omega
theorem any_ok {ops : Array Oper} {A : List AOper} {n n0 : Nat} {sF : St} {Q : Exit → Act → World → Prop} (hcl : ClOK K P cl) (hG : Good P ops A n) (hn0 : hp0.length ≤ n0) (hp : sF.p)
    (hQ : ∀ a' w' ρ', Inv K w0 ρ0 hp0 w' ρ' a' sF → Q .normal a' w') : ∀ (fuel : Nat) (listed : Array Bool) (w : World) (ρ : List Own) (a : Act) (s : St),
    listed.size = ops.size → (left A listed).length ≤ fuel →
    (∀ (k : Nat) (o : Oper), listed.getD k false = true → ops[k]? = some o → ∀ e ∈ o.after, Region.binds .any e = true → listed.getD e.on false = true) →
    Inv K w0 ρ0 hp0 w ρ a s → (∀ x ∈ left A listed, allocs x.1.op = true → ρ[n0 + x.1.rank]? = some Own.fresh) → s.base ≤ n0 → stps ex cl n0 ((left A listed).map (·.1)) s = some sF →
    wpAny P .any ops Q fuel listed a w := by
  intro fuel
  induction fuel with
  | zero =>
    intro listed w ρ a s hsz hfl _ hI _ _ hst
    have h0 : left A listed = [] := List.eq_nil_of_length_eq_zero (by omega)
    rw [h0] at hst
    rw [List.map_nil, stps_nil] at hst
    obtain rfl := Option.some.inj hst
    refine ⟨?_, hQ _ _ _ hI⟩
    -- nobody is left
    apply List.eq_nil_iff_forall_not_mem.2
    intro i hi
    obtain ⟨h1, o, ho, _⟩ := mem_ready.1 hi
    have hil : i < A.length := by rw [hG.len]; exact (Array.getElem?_eq_some_iff.1 ho).1
    have := (left_split (List.getElem?_eq_getElem hil) h1).1
    rw [h0] at this
    simp at this
  | succ fuel ih =>
    intro listed w ρ a s hsz hfl hcl2 hI hfr hb hst
    refine ⟨fun hr => ?_, fun i hi => ?_⟩
    · cases hle : left A listed with
      | nil =>
        rw [hle] at hst
        rw [List.map_nil, stps_nil] at hst
        obtain rfl := Option.some.inj hst
        exact hQ _ _ _ hI
      | cons z l =>
        have := first_ready hG hsz (y := z.1) (i := z.2) hle
        rw [hr] at this
        cases this
    · obtain ⟨h1, o, ho, hed⟩ := mem_ready.1 hi
      have hil : i < A.length := by rw [hG.len]; exact (Array.getElem?_eq_some_iff.1 ho).1
      obtain ⟨y, hy⟩ : ∃ y, A[i]? = some y := ⟨_, List.getElem?_eq_getElem hil⟩
      obtain ⟨e1, e2⟩ := left_split hy h1
      rw [e1, List.map_append, List.map_cons] at hst
      have hind : ∀ x ∈ ((A.zipIdx.take i).filter fun x => listed.getD x.2 true == false).map (·.1), indep x y = true := fun x hx => by
        obtain ⟨⟨xa, xi⟩, hx2, rfl⟩ := List.mem_map.1 hx
        have hf := List.mem_filter.1 hx2
        obtain ⟨j, hj⟩ := List.mem_iff_getElem?.1 hf.1
        rw [List.getElem?_take] at hj
        split at hj
        · rename_i hji
          rw [List.getElem?_zipIdx] at hj
          cases hz : A[j]? with
          | none => rw [hz] at hj; cases hj
          | some z =>
            rw [hz] at hj
            simp at hj
            obtain ⟨rfl, rfl⟩ := hj
            rcases hG.ind j i z y hz hy hji with hbit | hind
            · exfalso
              have := bit_listed hG.lt hcl2 i j o ho hed hbit
              have h2 := hf.2
              simp only [beq_iff_eq] at h2
              rw [Array.getD_eq_getD_getElem?] at this h2
              cases hlj : listed[j]? with
              | none => rw [hlj] at h2; cases h2
              | some b => rw [hlj] at this h2; simp at this h2; rw [this] at h2; cases h2
            · exact hind
        · cases hj
      obtain ⟨s1, g1, g2⟩ := front _ s hb hind hst
      · refine stp_ok ho (hG.of i o y ho hy) hcl hI hn0 (fun ha => ?_) g1 (stps_p _ _ _ g2 hp) fun a' w' ρ' hI' hf => ?_
        · refine hfr (y, i) ?_ ha
          rw [e1]
          exact List.mem_append_right _ (List.mem_cons_self ..)
        · refine ih _ w' ρ' a' s1 (by simpa using hsz) ?_ (fun k ok hk hok e he hbd => ?_) hI' (fun x hx ha => ?_) (by rw [stp_base g1]; exact hb) ?_
          · rw [e2]
            rw [e1] at hfl
            simp at hfl ⊢
            omega
          · by_cases hki : i = k
            · subst hki
              rw [ho] at hok
              cases hok
              exact getD_set_true (hed e he hbd)
            · rw [getD_set_ne false hki] at hk
              exact getD_set_true (hcl2 k ok hk hok e he hbd)
          · have hx' : x ∈ left A listed := by
              rw [e2] at hx
              rw [e1]
              rcases List.mem_append.1 hx with h | h
              · exact List.mem_append_left _ h
              · exact List.mem_append_right _ (List.mem_cons_of_mem _ h)
            refine hf _ (hfr x hx' ha) fun hay => ?_
            -- another one
            obtain ⟨xa, xi⟩ := x
            have hxa : A[xi]? = some xa ∧ xi ≠ i := by
              rw [e2] at hx
              rcases List.mem_append.1 hx with h | h
              · have := (List.mem_filter.1 h).1
                obtain ⟨j, hj⟩ := List.mem_iff_getElem?.1 this
                rw [List.getElem?_take] at hj
                split at hj
                · rw [List.getElem?_zipIdx] at hj
                  cases hz : A[j]? with
                  | none => rw [hz] at hj; cases hj
                  | some z => rw [hz] at hj; simp at hj; obtain ⟨rfl, rfl⟩ := hj; exact ⟨hz, by omega⟩
                · cases hj
              · have := (List.mem_filter.1 h).1
                obtain ⟨j, hj⟩ := List.mem_iff_getElem?.1 this
                rw [List.getElem?_drop, List.getElem?_zipIdx] at hj
                cases hz : A[i + 1 + j]? with
                | none => rw [hz] at hj; cases hj
                | some z => rw [hz] at hj; simp at hj; obtain ⟨rfl, rfl⟩ := hj; exact ⟨hz, by omega⟩
            have := hG.apart xi i xa y hxa.1 hy ha hay hxa.2
            dsimp only
            omega
          · rw [e2, List.map_append]
            exact g2

theorem Inv.heap {w w' : World} {ρ : List Own} {a : Act} {s : St} (h : Inv K w0 ρ0 hp0 w ρ a s) (hw : w'.heap = w.heap) (he : Env w w' := by exact ⟨rfl, rfl, rfl⟩) : Inv K w0 ρ0 hp0 w' ρ a s := by
  have := h.step (w' := w') (ρ' := ρ) (t := none) (p := s.p) (n0 := 0) (hid := []) (d := undefD) (v := undef) (δ := []) (g := []) (by simp only [undefD, Rep]; exact ⟨[], rfl, by simp [RepL]⟩) (Eff.no (nid := hp0.length) hw he) (Nat.le_refl _)
  simpa [app, addW, setD, Act.put] using this
/-- drawn regions are carried out soundly -/
theorem drawn_ok (hm : P.follows .mixedOrders = true) : Drawn P := by
  intro K cl id ops A n hcl hc ex w0 ρ0 hp0 w ρ a s s' hI h hp Q hQ
  have hG := compD_good hc
  unfold reg at h
  simp only [growS_eq, forceN_eq, lenG_eq] at h
  have hl := hI.rlen
  have hb := hI.base
  have hbl := hI.blen
  refine wp_region_any hm ?_
  have hleft : left A (Array.replicate ops.size false) = A.zipIdx := by
    unfold left
    rw [List.filter_eq_self]
    intro x hx
    obtain ⟨j, hj⟩ := List.mem_iff_getElem?.1 hx
    rw [List.getElem?_zipIdx] at hj
    cases ha : A[j]? with
    | none => rw [ha] at hj; cases hj
    | some z =>
      rw [ha] at hj
      simp at hj
      subst hj
      have := (List.getElem?_eq_some_iff.1 ha).1
      rw [hG.len] at this
      simp [Array.getD_eq_getD_getElem?, this]
  refine any_ok (ex := ex) (cl := cl) (n0 := s.hp.length) hcl hG hI.blen hp hQ ops.size _ { w with drawn := w.drawn + 1 } (ρ ++ List.replicate n Own.fresh) a ⟨s.p, s.sl, s.hp ++ deads n, s.base, s.wr⟩ (by simp) (by rw [hleft]; simp [hG.len]) (fun k o hk => ?_) ((hI.grow n).heap rfl) (fun x hx ha => ?_) (by dsimp only; omega) ?_
  · simp [Array.getD_eq_getD_getElem?, Array.getElem?_replicate] at hk
    split at hk <;> simp at hk
  · rw [hleft] at hx
    obtain ⟨j, hj⟩ := List.mem_iff_getElem?.1 hx
    rw [List.getElem?_zipIdx] at hj
    cases hz : A[j]? with
    | none => rw [hz] at hj; cases hj
    | some z =>
      rw [hz] at hj
      simp at hj
      subst hj
      have := hG.rank j z hz ha
      rw [List.getElem?_append_right (by omega), List.getElem?_replicate, if_pos (by dsimp only; omega)]
  · rw [hleft]
    have : A.zipIdx.map (·.1) = A := by
      apply List.ext_getElem?
      intro j
      rw [List.getElem?_map, List.getElem?_zipIdx]
      cases A[j]? <;> simp
    rw [this]
    exact h
end
end Go.Ev
end
section
namespace Go.Ev
open Go.RowKit
/-- no values of a kind of one's own -/
def noCust : Cust := ⟨fun _ _ _ _ => False, fun _ _ _ _ _ _ h => h.elim, fun _ _ _ _ h => h.elim, fun _ => False⟩
def trueOut : Option Out → Bool
  | some ⟨_, .val (.bool true), _, _⟩ => true
  | _ => false
/-- a call without arguments that the evaluator finds to be true -/
theorem true_any {P : Program} {F : FuncId → Option AFun} {raw : Raw} {n f : Nat} (hm : P.follows .mixedOrders = true) (hF : ∀ f fn, F f = some fn → compF P f = some fn) (hT : ClOK noCust P raw.tab)
    (h : trueOut (callF F raw n f [] [.dead] 0) = true) (w : World) : Calls P f #[] w fun e w' => e = .returned (.bool true) ∧ Below w.heap.size w w' := by
  cases hc : callF F raw n f [] [.dead] 0 with
  | none => rw [hc] at h; cases h
  | some out =>
    rw [hc] at h
    obtain ⟨h1, h2⟩ := callF_ok (K := noCust) (raw := raw) (drawn_ok hm) hF hT n f [] [.dead] 0 out hc (callF_true n _ _ _ _ _ hc)
    have hk : OK noCust w [.fresh] [.dead] := by
      refine ⟨rfl, fun i b n hi => ?_, fun i j b n m hi => ?_, fun i x hx => ?_, fun _ h => h.elim, fun _ _ _ _ h => h⟩
      · cases i <;> simp at hi
      · cases i <;> simp at hi
      · cases i with
        | zero => simp at hx; subst hx; trivial
        | succ i => simp at hx
    refine (h2 w [.fresh] [] hk (by simp [RepL]) rfl).mono fun e w' he => ?_
    obtain ⟨v, rfl, ρ', hv, hE⟩ := he
    have hd : out.d = .val (.bool true) := by
      unfold trueOut at h
      split at h
      · rename_i heq; cases heq; rfl
      · cases h
    rw [hd] at hv
    simp only [Rep] at hv
    subst hv
    refine ⟨rfl, hE.env.1, hE.env.2.1, hE.env.2.2, hE.size, fun b hb => hE.keep b hb fun i n hi => ?_⟩
    cases i <;> simp at hi
end Go.Ev
end
