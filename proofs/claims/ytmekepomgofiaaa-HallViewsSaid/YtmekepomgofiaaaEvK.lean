import Derived.Test.YtmekepomgofiaaaEvJ
set_option linter.all false
namespace Go.Ev
section
variable {K : Cust} {P : Program} {o : Oper} {a : Act} {w w' : World} {ρ : List Own} {hp : List Blk} {sl : List D} {nid : Nat} {out : Out}

theorem boundN_run {x : Option Operand} {dflt l y : Nat} {code : BoundsCode} (hs : Slots K (mask K w ρ) ρ sl a.tmps) (h : boundN (x.map (evO sl)) dflt = some l) (hy : l ≤ y) :
    (∃ v, x = some v ∧ (Instr.sliceBound (a.eval v) y code).run P w = .ok l w) ∨ (x = none ∧ l = dflt) := by
  cases x with
  | none => exact .inr ⟨rfl, by simpa [boundN] using h.symm⟩
  | some v =>
    refine .inl ⟨v, rfl, ?_⟩
    have hv := evO_rep hs v
    simp only [boundN, Option.map_some] at h
    split at h
    · rename_i n hn
      split at h
      · rename_i h0
        obtain rfl := Option.some.inj h
        unfold intOf at hn
        split at hn
        · rename_i k m hm
          obtain rfl := Option.some.inj hn
          rw [hm] at hv
          simp only [Rep] at hv
          have : m ≤ (y : Int) := by omega
          simp [Instr.sliceBound, hv, asIntOf, h0, this]
        · cases hn
      · cases h
    · cases h
theorem slice_run {t e : TypeId} {x : Operand} {lo hi : Option Operand} {k b q len c l h : Nat} (ho : o.op = .slice t x lo hi none) (he : elemT P t = some e) (hsz : sizT P e = some k) (hs : Slots K (mask K w ρ) ρ sl a.tmps)
    (hx : a.eval x = .slice (some ⟨b, q, none⟩) len c) (h1 : boundN (lo.map (evO sl)) 0 = some l) (h2 : boundN (hi.map (evO sl)) len = some h) (hlh : l ≤ h) (hh : h ≤ len) (hlc : len ≤ c) :
    (execOp a.eval o).run P w = .ok (.value (.slice (if c = l then some ⟨b, q, none⟩ else some ⟨b, q + l * k, none⟩) (h - l) (c - l))) w := by
  have hu := elemT_some he
  have r2 := boundN_run (P := P) (y := c) (code := .sliceAcap) hs h2 (by omega)
  have r1 := boundN_run (P := P) (y := h) (code := .sliceB) hs h1 hlh
  simp only [execOp, ho, Instr.sliceAt, run_under hu, Sem.run_bind, Result.andThen_ok, Instr.slice, hx, Instr.sliceBounds, Option.map_none, Sem.run_pure, if_true, Option.isSome_none, Bool.false_eq_true, if_false]
  rcases r2 with ⟨v2, rfl, r2⟩ | ⟨rfl, rfl⟩ <;> rcases r1 with ⟨v1, rfl, r1⟩ | ⟨rfl, rfl⟩ <;> simp only [Option.map_some, Option.map_none, Sem.run_bind, Result.andThen_ok, Sem.run_pure, run_size hsz, *] <;> simp [addr_add]
theorem slice3_run {t e : TypeId} {x m : Operand} {lo hi : Option Operand} {k b q len c h : Nat} {km : IntKind} {mn : Int} (ho : o.op = .slice t x lo hi (some m)) (he : elemT P t = some e) (hsz : sizT P e = some k) (hs : Slots K (mask K w ρ) ρ sl a.tmps)
    (hx : a.eval x = .slice (some ⟨b, q, none⟩) len c) (h1 : boundN (lo.map (evO sl)) 0 = some 0) (h2 : boundN (hi.map (evO sl)) len = some h) (hm : a.eval m = .int km mn) (hhm : (h : Int) ≤ mn) (hmc : mn ≤ c) (hsome : hi.isSome = true) :
    (execOp a.eval o).run P w = .ok (.value (.slice (some ⟨b, q, none⟩) h mn.toNat)) w := by
  have hu := elemT_some he
  have r2 := boundN_run (P := P) (y := mn.toNat) (code := .slice3B) hs h2 (by omega)
  have r1 := boundN_run (P := P) (y := h) (code := .slice3C) hs h1 (Nat.zero_le _)
  have h0 : 0 ≤ mn := by omega
  have rm : ∀ code, (Instr.sliceBound (a.eval m) c code).run P w = .ok mn.toNat w := fun code => by simp [Instr.sliceBound, hm, asIntOf, h0, hmc]
  simp only [execOp, ho, Instr.sliceAt, run_under hu, Sem.run_bind, Result.andThen_ok, Instr.slice, hx, Instr.sliceBounds, Option.map_some, rm, Sem.run_pure, if_true, Option.isSome_some]
  rcases r2 with ⟨v2, rfl, r2⟩ | ⟨rfl, _⟩
  · rcases r1 with ⟨v1, rfl, r1⟩ | ⟨rfl, _⟩ <;> simp only [Option.map_some, Option.map_none, Sem.run_bind, Result.andThen_ok, Sem.run_pure, run_size hsz, *] <;> simp [addr_add]
  · simp at hsome
theorem s_slice {t e : TypeId} {x : Operand} {lo hi mx : Option Operand} {k : Nat} (ho : o.op = .slice t x lo hi mx) (he : elemT P t = some e) (hsz : sizT P e = some k) (hk0 : 0 < k) (hk : OK K w ρ hp) (hs : Slots K (mask K w ρ) ρ sl a.tmps)
    (h : c_slice sl hp nid k x lo hi mx = some out) : Does P o a w (Res K w ρ hp nid out) := by
  have hx := evO_rep hs x
  unfold c_slice at h
  split at h
  · rename_i id off len k' cap hd
    rw [hd] at hx
    split at h
    · rename_i l hh hl1 hh1 hm1
      have hmx : mx = none := by simpa using hm1
      subst hmx
      split at h
      · rename_i cs hcs
        obtain ⟨b, n, ho1, hb⟩ := cellsAt_own hk hcs
        simp only [Rep, ho1] at hx
        obtain ⟨c, hx, hlc, hcn, hcap⟩ := hx
        split at h
        · rename_i hc
          obtain ⟨rfl, c1, c2, c3⟩ := hc
          have run := slice_run ho he hsz hs hx hl1 hh1 c1 c3 hlc
          split at h
          · rename_i hlt
            obtain rfl := (Option.some.inj h).symm
            rw [if_neg (by omega)] at run
            refine quiet run ?_
            simp only [Rep, ho1]
            refine ⟨c - l, rfl, by omega, ?_, ?_⟩
            · rw [Nat.sub_mul]
              have : l * k' ≤ c * k' := Nat.mul_le_mul_right _ (by omega)
              omega
            · cases cap with
              | none =>
                simp only [Option.map_none] at hcap ⊢
                rw [Nat.sub_mul]
                have : l * k' ≤ c * k' := Nat.mul_le_mul_right _ (by omega)
                omega
              | some c0 => simp only [Option.map_some] at hcap ⊢; omega
          · rename_i hge
            obtain rfl : l = hh := by omega
            split at h
            · rename_i hl0
              subst hl0
              obtain rfl := (Option.some.inj h).symm
              have e : (if c = 0 then some (⟨b, off, none⟩ : Addr) else some ⟨b, off + 0 * k', none⟩) = some ⟨b, off, none⟩ := by simp
              rw [e] at run
              refine quiet run ?_
              simp only [Rep, ho1]
              exact ⟨c, by simp, by omega, hcn, hcap⟩
            · obtain rfl := (Option.some.inj h).symm
              refine quiet run ?_
              simp only [Rep]
              refine ⟨b, if c = l then off else off + l * k', c - l, ?_, by simp⟩
              split <;> simp
        · cases h
      · cases h
    · rename_i hh kk mn hl1 hh1 hm1
      split at h
      · rename_i cs hcs
        obtain ⟨b, n, ho1, hb⟩ := cellsAt_own hk hcs
        simp only [Rep, ho1] at hx
        obtain ⟨c, hx, hlc, hcn, hcap⟩ := hx
        split at h
        · rename_i hc
          obtain ⟨rfl, c1, c2, c3, c4⟩ := hc
          obtain rfl := (Option.some.inj h).symm
          cases mx with
          | none => simp at hm1
          | some m =>
            simp only [Option.map_some, Option.some.injEq] at hm1
            have hm := evO_rep hs m
            rw [hm1] at hm
            simp only [Rep] at hm
            refine quiet (slice3_run ho he hsz hs hx hl1 hh1 hm c1 (by omega) c4) ?_
            simp only [Rep, ho1]
            refine ⟨mn.toNat, rfl, by omega, ?_, by simp⟩
            have : mn.toNat * k' ≤ c * k' := Nat.mul_le_mul_right _ (by omega)
            omega
        · cases h
      · cases h
    · cases h
  · rename_i k' len f hd
    rw [hd] at hx
    simp only [Rep] at hx
    split at h
    · rename_i l hh hl1 hh1 hm1
      have hmx : mx = none := by simpa using hm1
      subst hmx
      split at h
      · rename_i hc
        obtain ⟨rfl, c1, c2⟩ := hc
        split at h
        · rename_i hlt
          obtain rfl := (Option.some.inj h).symm
          rcases hx with ⟨_, h0⟩ | ⟨b, q, c, hx, hlc, hcells⟩
          · omega
          · have run := slice_run ho he hsz hs hx hl1 hh1 c1 c2 hlc
            rw [if_neg (by omega)] at run
            refine quiet run ?_
            simp only [Rep]
            refine .inr ⟨b, q + l * k', c - l, rfl, by omega, fun i hi => ?_⟩
            have := hcells (i + l) (by omega)
            rw [show q + l * k' + i * k' = q + (i + l) * k' by rw [Nat.add_mul]; omega]
            exact this
        · cases h
      · cases h
    · rename_i kk hl1 hh1 hm1
      split at h
      · rename_i hc
        obtain ⟨rfl, c1, c4⟩ := hc
        obtain rfl := (Option.some.inj h).symm
        rcases hx with ⟨_, h0⟩ | ⟨b, q, c, hx, hlc, hcells⟩
        · omega
        · cases mx with
          | none => simp at hm1
          | some m =>
            simp only [Option.map_some, Option.some.injEq] at hm1
            have hm := evO_rep hs m
            rw [hm1] at hm
            simp only [Rep] at hm
            refine quiet (slice3_run ho he hsz hs hx hl1 hh1 hm (by simp) (by omega) c4) ?_
            simp only [Rep]
            exact ⟨b, q, _, rfl, by simp⟩
      · cases h
    · cases h
  · cases h

/-- an own block goes over into another one -/
theorem Eff.shift {id b n b' n' : Nat} {x : Blk} (hi : ρ[id]? = some (Own.live b n)) (hv : hp[id]? ≠ some .dead) (hn : ρ[nid]? = some .fresh) (hk0 : OK K w ρ hp)
    (hsz : w.heap.size ≤ w'.heap.size) (hkeep : ∀ c : Nat, c < w.heap.size → c ≠ b → w'.heap[c]? = w.heap[c]?) (hb : b' = b ∨ b' = w.heap.size) (hb2 : b' < w'.heap.size)
    (hx : Sub (mask K w ρ) (mask K w' ((ρ.set id .dead).set nid (.live b' n'))) → OwnLe ρ ((ρ.set id .dead).set nid (.live b' n')) → RepB K w' (mask K w' ((ρ.set id .dead).set nid (.live b' n'))) ((ρ.set id .dead).set nid (.live b' n')) (.live b' n') x) (he : Env w w' := by exact ⟨rfl, rfl, rfl⟩) :
    Eff K w ρ hp nid w' ((ρ.set id .dead).set nid (.live b' n')) [(nid, x), (id, .dead)] [] := by
  have hil : id < ρ.length := (List.getElem?_eq_some_iff.1 hi).1
  have hnl : nid < ρ.length := (List.getElem?_eq_some_iff.1 hn).1
  have hne : id ≠ nid := fun e => by rw [e, hn] at hi; cases hi
  have hlt := hk0.lt id b n hi
  have get : ∀ j : Nat, ((ρ.set id .dead).set nid (.live b' n'))[j]? = if nid = j then some (.live b' n') else if id = j then some .dead else ρ[j]? := fun j => by
    rw [List.getElem?_set, List.getElem?_set]
    split
    · simp [hnl]
    · split
      · simp [hil]
      · rfl
  have hown : ∀ j : Nat, own ((ρ.set id .dead).set nid (.live b' n')) j = if nid = j then .live b' n' else if id = j then .dead else own ρ j := fun j => by
    unfold own
    rw [List.getD_eq_getElem?_getD, get]
    split
    · rfl
    · split
      · rfl
      · rw [List.getD_eq_getElem?_getD]
  have hnew : ∀ c, isLive K ((ρ.set id .dead).set nid (.live b' n')) c → isLive K ρ c ∨ w.heap.size ≤ c := by
    rintro c (hh | ⟨j, m, hj⟩)
    · exact .inl (.inl hh)
    rw [get] at hj
    split at hj
    · simp at hj
      rcases hb with rfl | rfl
      · exact .inl (.inr ⟨id, n, hj.1 ▸ hi⟩)
      · exact .inr (by omega)
    · split at hj
      · simp at hj
      · exact .inl (.inr ⟨j, m, hj⟩)
  have hle : OwnLe ρ ((ρ.set id .dead).set nid (.live b' n')) := fun j => by
    rw [hown]
    split
    · rename_i e
      subst e
      have : own ρ nid = .fresh := by unfold own; rw [List.getD_eq_getElem?_getD, hn]; rfl
      rw [this]; trivial
    · split
      · rename_i e
        subst e
        rw [own_some hi]
        exact .inr rfl
      · exact OwnLe.refl ρ j
  have hsub : Sub (mask K w ρ) (mask K w' ((ρ.set id .dead).set nid (.live b' n'))) := by
    intro c cs ty fr hc
    rw [mask_some] at hc ⊢
    have hcl := lt_of_cells hc.2
    refine ⟨fun hl => ?_, ?_⟩
    · rcases hnew c hl with hl | hl
      · exact hc.1 hl
      · omega
    · rw [hkeep c hcl (fun e => hc.1 (e ▸ .inr ⟨id, n, hi⟩))]; exact hc.2
  refine ⟨hsz, fun c hc hvis => hkeep c hc (fun e => hv (hvis id n (e ▸ hi))), hnew, by simp, hle, fun hp2 _ hk => ?_, fun i h1 h2 => ?_, fun i h1 h2 => by rw [get, if_neg (Ne.symm h2), if_neg (fun e => by rw [← e, hi] at h1; cases h1)]; exact h1, he⟩
  rotate_left
  · have n1 : nid ≠ i := fun e => h2 (e ▸ hn)
    have n2 : id ≠ i := fun e => hv (e ▸ h1)
    refine ⟨fun y hy => ?_, by rw [get, if_neg n1, if_neg n2]⟩
    simp only [List.mem_cons, List.not_mem_nil, or_false] at hy
    rcases hy with rfl | rfl
    · exact n1
    · exact n2
  rw [List.append_nil]
  refine ⟨by simp [app, hk.len], fun i c m h => ?_, fun i j c m m' h1 h2 => ?_, fun i y hy => ?_, fun c hc => Nat.lt_of_lt_of_le (hk.hid c hc) hsz, fun i c m h hh => ?_⟩
  rotate_right
  · rw [get] at h
    split at h
    · simp at h
      have := hk.hid c hh
      rcases hb with rfl | rfl
      · exact hk.apart id _ n hi (h.1 ▸ hh)
      · omega
    · split at h
      · simp at h
      · exact hk.apart i c m h hh
  · rw [get] at h
    split at h
    · simp at h; omega
    · split at h
      · simp at h
      · have := hk.lt i c m h; omega
  · rw [get] at h1 h2
    split at h1 <;> split at h2
    · omega
    · simp at h1
      split at h2
      · simp at h2
      · rename_i e1 e2 e3
        rcases hb with rfl | rfl
        · obtain ⟨rfl, _⟩ := h1
          exact absurd (hk.inj _ _ _ _ _ hi h2) e3
        · have := hk.lt _ _ _ h2; omega
    · simp at h2
      split at h1
      · simp at h1
      · rename_i e1 e2 e3
        rcases hb with rfl | rfl
        · obtain ⟨rfl, _⟩ := h2
          exact absurd (hk.inj _ _ _ _ _ hi h1) e3
        · have := hk.lt _ _ _ h1; omega
    · split at h1
      · simp at h1
      · split at h2
        · simp at h2
        · exact hk.inj i j c m m' h1 h2
  · simp only [app, List.foldl_cons, List.foldl_nil, List.getElem?_set] at hy
    rw [hown]
    split at hy
    · rename_i e
      subst e
      have : y = .dead := by
        split at hy
        · exact (Option.some.inj hy).symm
        · cases hy
      subst this
      split <;> trivial
    · rename_i e
      split at hy
      · rename_i e2
        rw [if_pos e2]
        have : y = x := by
          split at hy
          · exact (Option.some.inj hy).symm
          · cases hy
        rw [this]
        exact hx hsub hle
      · rename_i e2
        rw [if_neg e2, if_neg e]
        refine (hk.blk i y hy).mono hsub hle fun c m hc => hkeep c (hk.lt i c m (own_live hc)) ?_
        rintro rfl
        exact e (hk.inj _ _ _ _ _ hi (own_live hc))
end
end Go.Ev
