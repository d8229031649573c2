import Derived.Test.YtmekepomgofiaaaEvW
set_option linter.all false
namespace Go.Ev
theorem fold_bit {D : List Nat} {i : Nat} : ∀ (l : List Edge) (s0 : Nat), (l.foldl (fun s e => if Region.binds .any e then s ||| 2 ^ e.on ||| D.getD e.on 0 else s) s0).testBit i = true →
    s0.testBit i = true ∨ ∃ e ∈ l, Region.binds .any e = true ∧ (e.on = i ∨ (D.getD e.on 0).testBit i = true)
  | [], s0, h => .inl h
  | e :: l, s0, h => by
    simp only [List.foldl_cons] at h
    rcases fold_bit l _ h with h | ⟨e', h1, h2⟩
    · split at h
      · rename_i hb
        simp only [Nat.testBit_or, Bool.or_eq_true] at h
        rcases h with (h | h) | h
        · exact .inl h
        · refine .inr ⟨e, List.mem_cons_self .., hb, .inl ?_⟩
          rw [Nat.testBit_two_pow] at h
          simpa using h
        · exact .inr ⟨e, List.mem_cons_self .., hb, .inr h⟩
      · exact .inl h
    · exact .inr ⟨e', List.mem_cons_of_mem _ h1, h2⟩
theorem befores_get : ∀ (l : List Oper) (done : List Nat) (j m : Nat), (befores l done)[j]? = some m →
    ∃ o, l[j]? = some o ∧ m = o.after.toList.foldl (fun s e => if Region.binds .any e then s ||| 2 ^ e.on ||| (done ++ (befores l done).take j).getD e.on 0 else s) 0
  | [], done, j, m, h => by simp [befores] at h
  | o :: l, done, j, m, h => by
    simp only [befores] at h ⊢
    cases j with
    | zero =>
      simp at h
      exact ⟨o, by simp, by simp [← h]⟩
    | succ j =>
      simp only [List.getElem?_cons_succ] at h
      obtain ⟨o', h1, h2⟩ := befores_get l _ j m h
      refine ⟨o', by simpa using h1, ?_⟩
      rw [h2]
      simp only [List.take_succ_cons, List.append_assoc, List.singleton_append]
/-- what comes before a listed one is listed -/
theorem bit_listed {ops : Array Oper} {listed : Array Bool} (hlt : ∀ (j : Nat) (o : Oper), ops[j]? = some o → ∀ e ∈ o.after, Region.binds .any e = true → e.on < j)
    (hcl : ∀ (k : Nat) (o : Oper), listed.getD k false = true → ops[k]? = some o → ∀ e ∈ o.after, Region.binds .any e = true → listed.getD e.on false = true) :
    ∀ (j i : Nat) (o : Oper), ops[j]? = some o → (∀ e ∈ o.after, Region.binds .any e = true → listed.getD e.on false = true) → ((befores ops.toList []).getD j 0).testBit i = true → listed.getD i false = true := by
  intro j
  induction j using Nat.strongRecOn with
  | _ j ih =>
    intro i o ho he hb
    rw [List.getD_eq_getElem?_getD] at hb
    cases hm : (befores ops.toList [])[j]? with
    | none => rw [hm] at hb; simp at hb
    | some m =>
      rw [hm] at hb
      obtain ⟨o', h1, h2⟩ := befores_get _ _ _ _ hm
      have : o' = o := by
        rw [Array.getElem?_toList] at h1
        rw [ho] at h1
        exact (Option.some.inj h1).symm
      subst this
      simp only [Option.getD_some] at hb
      rw [h2] at hb
      rcases fold_bit _ _ hb with h | ⟨e, h3, h4, h5⟩
      · simp at h
      · have hmem : e ∈ o'.after := by simpa using h3
        have hl := he e hmem h4
        rcases h5 with rfl | h5
        · exact hl
        · have hej := hlt j o' ho e hmem h4
          have hok : ∃ oe, ops[e.on]? = some oe := by
            have hj := (Array.getElem?_eq_some_iff.1 ho).1
            exact ⟨_, Array.getElem?_eq_getElem (by omega)⟩
          obtain ⟨oe, hoe⟩ := hok
          refine ih e.on hej i oe hoe (hcl e.on oe hl hoe) ?_
          rw [List.nil_append, List.getD_eq_getElem?_getD, List.getElem?_take, if_pos hej] at h5
          rw [List.getD_eq_getElem?_getD]
          exact h5

section
variable {P : Program}
theorem bareD_of {ops : Array Oper} : ∀ (l : List Oper) (r n : Nat) (aos : List AOper), bareD P ops l r = some (aos, n) →
    r ≤ n ∧ aos.length = l.length ∧ (∀ (j : Nat) (o : Oper) (ao : AOper), l[j]? = some o → aos[j]? = some ao → Of P ops o ao) ∧
    (∀ (j : Nat) (ao : AOper), aos[j]? = some ao → pureA ao.op = false → r ≤ ao.rank ∧ ao.rank < n) ∧
    (∀ (j k : Nat) (x y : AOper), aos[j]? = some x → aos[k]? = some y → pureA x.op = false → pureA y.op = false → j < k → x.rank < y.rank)
  | [], r, n, aos, h => by
    simp only [bareD] at h
    obtain ⟨rfl, rfl⟩ := some_pair h
    exact ⟨Nat.le_refl _, rfl, fun j o ao h => (by simp at h), fun j ao h => (by simp at h), fun j k x y h => (by simp at h)⟩
  | o :: l, r, n, aos, h => by
    simp only [bareD] at h
    split at h
    · rename_i c hc
      split at h
      · rename_i t m ht
        obtain ⟨rfl, rfl⟩ := some_pair h
        obtain ⟨g1, g2, g3, g4, g5⟩ := bareD_of l _ _ _ ht
        refine ⟨by split at g1 <;> omega, by simp [g2], fun j o' ao hj ha => ?_, fun j ao ha hp => ?_, fun j k x y hx hy px py hjk => ?_⟩
        · cases j with
          | zero => simp at hj ha; subst hj ha; exact ⟨.inl hc, rfl, rfl⟩
          | succ j => exact g3 j o' ao (by simpa using hj) (by simpa using ha)
        · cases j with
          | zero =>
            simp at ha; subst ha
            dsimp only at hp ⊢
            rw [hp] at g1
            simp at g1
            omega
          | succ j =>
            obtain ⟨q1, q2⟩ := g4 j ao (by simpa using ha) hp
            refine ⟨?_, q2⟩
            split at q1 <;> omega
        · cases k with
          | zero => omega
          | succ k =>
            cases j with
            | zero =>
              simp at hx; subst hx
              dsimp only at px ⊢
              obtain ⟨q1, q2⟩ := g4 k y (by simpa using hy) py
              rw [px] at q1
              simp at q1
              omega
            | succ j => exact g5 j k x y (by simpa using hx) (by simpa using hy) px py (by omega)
      · cases h
    · cases h
/-- the same operation, or the light one -/
def Lt (x y : AOp) : Prop := x = y ∨ (x = .emptyS ∧ ∃ k z, y = .bslice k 0 z [])
theorem light_op (y : AOp) : Lt (light y) y := by
  unfold light
  split
  · exact .inr ⟨rfl, _, _, rfl⟩
  · exact .inl rfl
theorem dress_op (bs : List Nat) (aos : List AOper) (i : Nat) (x : AOper) : Lt (dress bs aos i x).op x.op ∧ (dress bs aos i x).dst = x.dst ∧ (dress bs aos i x).guard = x.guard ∧ (dress bs aos i x).rank = x.rank := by
  unfold dress
  split
  · exact ⟨.inl rfl, rfl, rfl, rfl⟩
  · refine ⟨?_, rfl, rfl, rfl⟩
    dsimp only
    split
    · exact .inl rfl
    · exact light_op _
theorem Lt.alloc {x y : AOp} (h : Lt x y) (ha : allocs x = true) : x = y := by
  rcases h with h | ⟨rfl, _⟩
  · exact h
  · cases ha
/-- what a drawn region's operations have -/
structure Good (P : Program) (ops : Array Oper) (A : List AOper) (n : Nat) : Prop where
  len : A.length = ops.size
  of : ∀ (j : Nat) (o : Oper) (x : AOper), ops[j]? = some o → A[j]? = some x → Of P ops o x
  rank : ∀ (j : Nat) (x : AOper), A[j]? = some x → allocs x.op = true → x.rank < n
  apart : ∀ (j k : Nat) (x y : AOper), A[j]? = some x → A[k]? = some y → allocs x.op = true → allocs y.op = true → j ≠ k → x.rank ≠ y.rank
  lt : ∀ (j : Nat) (o : Oper), ops[j]? = some o → ∀ e ∈ o.after, Region.binds .any e = true → e.on < j
  ind : ∀ (i j : Nat) (x y : AOper), A[i]? = some x → A[j]? = some y → i < j → ((befores ops.toList []).getD j 0).testBit i = true ∨ indep x y = true
theorem allocs_pure {x : AOp} (h : allocs x = true) : pureA x = false := by cases x <;> simp_all [allocs, pureA]
theorem compD_good {ops : Array Oper} {A : List AOper} {n : Nat} (h : compD P ops = some (A, n)) : Good P ops A n := by
  unfold compD at h
  split at h
  · rename_i aos m hb
    dsimp only at h
    split at h
    · rename_i hc
      obtain ⟨rfl, rfl⟩ := some_pair h
      obtain ⟨g1, g2, g3, g4, g5⟩ := bareD_of _ _ _ _ hb
      have get : ∀ (j : Nat) (x : AOper), (aos.zipIdx.map fun (y, i) => dress (befores ops.toList []) aos i y)[j]? = some x → ∃ y, aos[j]? = some y ∧ Lt x.op y.op ∧ x.dst = y.dst ∧ x.guard = y.guard ∧ x.rank = y.rank := fun j x hx => by
        rw [List.getElem?_map, List.getElem?_zipIdx] at hx
        cases hy : aos[j]? with
        | none => rw [hy] at hx; simp at hx
        | some y =>
          rw [hy] at hx
          simp at hx
          subst hx
          exact ⟨y, rfl, dress_op _ _ _ _⟩
      unfold checkD at hc
      simp only [Bool.and_eq_true] at hc
      obtain ⟨hc1, hc2⟩ := hc
      refine ⟨by simp [g2], fun j o x ho hx => ?_, fun j x hx ha => ?_, fun j k x y hx hy ax ay hne => ?_, fun j o ho e he hbd => ?_, fun i j x y hx hy hij => ?_⟩
      · obtain ⟨y, h1, h2, h3, h4, h5⟩ := get j x hx
        have := g3 j o y (by simpa using ho) h1
        refine ⟨?_, h3.trans this.dst, h4.trans this.guard⟩
        rcases this.op with hc | ⟨he, k, z, hc⟩
        · rcases h2 with h2 | ⟨h2, k, z, h6⟩
          · exact .inl (h2 ▸ hc)
          · exact .inr ⟨h2, k, z, h6 ▸ hc⟩
        · rcases h2 with h2 | ⟨h2, k', z', h6⟩
          · exact .inr ⟨h2.trans he, k, z, hc⟩
          · rw [he] at h6; cases h6
      · obtain ⟨y, h1, h2, h3, h4, h5⟩ := get j x hx
        rw [h5]
        exact (g4 j y h1 (allocs_pure (h2.alloc ha ▸ ha))).2
      · obtain ⟨x', p1, p2, p3, p4, p5⟩ := get j x hx
        obtain ⟨y', q1, q2, q3, q4, q5⟩ := get k y hy
        rw [p5, q5]
        rcases Nat.lt_or_gt_of_ne hne with hl | hl
        · have := g5 j k x' y' p1 q1 (allocs_pure (p2.alloc ax ▸ ax)) (allocs_pure (q2.alloc ay ▸ ay)) hl; omega
        · have := g5 k j y' x' q1 p1 (allocs_pure (q2.alloc ay ▸ ay)) (allocs_pure (p2.alloc ax ▸ ax)) hl; omega
      · have hm : (o, j) ∈ ops.toList.zipIdx := by
          refine List.mem_of_getElem? (i := j) ?_
          rw [List.getElem?_zipIdx]
          simp [ho]
        have := List.all_eq_true.1 hc1 (o, j) hm
        have := List.all_eq_true.1 this e (by simpa using he)
        simpa [hbd] using this
      · have hmem : ∀ (j : Nat) (x : AOper), (aos.zipIdx.map fun (y, i) => dress (befores ops.toList []) aos i y)[j]? = some x → (x, j) ∈ (aos.zipIdx.map fun (y, i) => dress (befores ops.toList []) aos i y).zipIdx := fun j x hx => by
          refine List.mem_of_getElem? (i := j) ?_
          rw [List.getElem?_zipIdx, hx]
          simp
        have := List.all_eq_true.1 hc2 (y, j) (hmem j y hy)
        have := List.all_eq_true.1 this (x, i) (hmem i x hx)
        simp only [Bool.or_eq_true, Bool.not_eq_true', decide_eq_false_iff_not] at this
        rcases this with (h | h) | h
        · exact absurd hij h
        · exact .inl h
        · exact .inr h
    · cases h
  · cases h
end
end Go.Ev
