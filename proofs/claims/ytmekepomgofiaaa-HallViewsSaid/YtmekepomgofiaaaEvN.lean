import Derived.Test.YtmekepomgofiaaaEvMd
set_option linter.all false
namespace Go.Ev
section
variable {K : Cust} {P : Program} {o : Oper} {a : Act} {w w' : World} {ρ : List Own} {hp : List Blk} {sl : List D} {nid : Nat} {out : Out} {ex : Bool} {cl : FuncId → List D → List Blk → Nat → Option Out}

theorem nilD_noMethod {d : D} {v : Value} (hk : OK K w ρ hp) (h : Rep K (mask K w ρ) ρ d v) (hn : nilD hp d = some false) : ∀ n f c, v ≠ .func (.method n) f c := by
  have h2 := nilD_false hk h hn
  intro n f c e
  subst e
  cases d <;> simp only [nilD, getG_eq] at hn <;> simp only [Rep] at h
  case val x => split at hn <;> cases hn
  case fn f' x y => obtain ⟨x, y, h, _⟩ := h; cases h
  case row => split at hn <;> first | cases hn; done | (rcases h with ⟨h, _⟩ | ⟨b, o, c, h, _⟩ <;> cases h)
  case ref => obtain ⟨b, o, h, _⟩ := h; cases h
  case emp => obtain ⟨b, o2, c, h, _⟩ := h; cases h
  case ptr id off =>
    split at h
    · cases h
    · rename_i hod0
      split at hn
      · cases hn
      · cases hn
      · rename_i h3 h4
        cases hh : hp[id]? with
        | none => exact h4 hh
        | some x =>
          obtain ⟨b, n, ho⟩ := hp_live hk hh (fun e => h3 (e ▸ hh))
          rw [ho] at hod0; cases hod0
    · exact h
  case sl id off len k cap =>
    split at h
    · obtain ⟨c, h, _⟩ := h; cases h
    · rename_i hod0
      split at hn
      · cases hn
      · cases hn
      · rename_i h3 h4
        cases hh : hp[id]? with
        | none => exact h4 hh
        | some x =>
          obtain ⟨b, n, ho⟩ := hp_live hk hh (fun e => h3 (e ▸ hh))
          rw [ho] at hod0; cases hod0
    · exact h
  case map id =>
    split at h
    · cases h
    · rename_i hod0
      split at hn
      · cases hn
      · cases hn
      · rename_i h3 h4
        cases hh : hp[id]? with
        | none => exact h4 hh
        | some x =>
          obtain ⟨b, n, ho⟩ := hp_live hk hh (fun e => h3 (e ▸ hh))
          rw [ho] at hod0; cases hod0
    · exact h
  all_goals cases hn

theorem core_ok {ao : AOp} (hc : comp P o = some ao) (hcl : ClOK K P cl) (hk : OK K w ρ hp) (hs : Slots K (mask K w ρ) ρ sl a.tmps) (hn : allocs ao = true → ρ[nid]? = some .fresh)
    (h : core ex cl sl hp nid ao = some out) (hcond : ∀ p, out.p = some p → p) : Does P o a w (Res K w ρ hp nid out) := by
  unfold comp at hc
  split at hc
  · rename_i x ho; cases hc; exact s_mov (nid := nid) (.inl ho) hs h
  · rename_i x ho; cases hc; exact s_mov (nid := nid) (.inr ho) hs h
  · rename_i c x y ho; cases hc; exact s_pick (nid := nid) ho hs h
  · rename_i t ho
    split at hc
    · rename_i z hz; cases hc; exact s_zero (nid := nid) (sl := sl) ho hz hk (hn rfl) h
    · cases hc
  · rename_i t x ho
    split at hc
    · cases hc; exact s_box (nid := nid) ho hk hs (hn rfl) h
    · cases hc
  · rename_i t parts ho
    split at hc
    · rename_i n e hu
      split at hc
      · rename_i z k hz hsz
        cases hc
        exact s_buildA (nid := nid) ho hu hz hsz hs h
      · cases hc
    · split at hc
      · rename_i z fs hz hfs
        split at hc
        · rename_i l hl hall
          cases hc
          refine s_build (nid := nid) ho hz hfs (fun f hf => ?_) hl hs h
          have := List.all_eq_true.1 hall f hf
          exact Option.isSome_iff_exists.1 this
        · cases hc
      · cases hc
  · rename_i t len parts ho
    split at hc
    · rename_i e he
      split at hc
      · rename_i k z hsz hz
        split at hc
        · rename_i hcc
          cases hc
          simp only [Bool.and_eq_true, decide_eq_true_eq, beq_iff_eq] at hcc
          exact s_bslice (nid := nid) ho he hsz hz hcc.1.1 hcc.1.2 hcc.2 hk (hn rfl) hs h
        · cases hc
      · cases hc
    · cases hc
  · rename_i t x ho
    split at hc
    · rename_i n ht
      cases hc
      cases ex
      · exact s_load (nid := nid) ho ht hk hs h
      · exact s_loadS (nid := nid) ho ht hk hs h hcond
    · cases hc
  · rename_i t x y ho
    split at hc
    · rename_i n ht
      cases hc
      cases ex
      · exact s_store (nid := nid) ho ht hk hs h
      · exact s_storeS (nid := nid) ho ht hk hs h hcond
    · cases hc
  · rename_i x ho
    cases hc
    refine s_nilCheck (nid := nid) ho hk hs h ?_
    have hx := evO_rep hs x
    have h2 : c_nilCheck sl hp nid x = some out := h
    unfold c_nilCheck at h2
    split at h2
    · rename_i hnil; exact nilD_noMethod hk hx hnil
    · cases h2
  · rename_i op t x y t2 ho
    split at hc
    · rename_i hu; cases hc; exact s_bin (nid := nid) ho hs h hcond (fun _ => hu)
    · cases hc; exact s_bin (nid := nid) ho hs h hcond (fun h => by cases h)
    · cases hc; exact s_bin (nid := nid) ho hs h hcond (fun h => by cases h)
    · rename_i e hu; cases hc; exact s_eqNil (nid := nid) ho hk hs h hu rfl
    · rename_i e hu
      split at hc
      · rename_i m hsz; cases hc; exact s_eqPtr (nid := nid) ho hk hs h hu hsz
      · cases hc; exact s_eqNil (nid := nid) ho hk hs h hu rfl
    · rename_i e f g hu; cases hc; exact s_eqNil (nid := nid) ho hk hs h hu rfl
    · rename_i e f hu; cases hc; exact s_eqNil (nid := nid) ho hk hs h hu rfl
    · rename_i fs hu
      split at hc
      · rename_i ks hks
        split at hc
        · rename_i hcc
          cases hc
          simp only [Bool.and_eq_true, Bool.not_eq_true'] at hcc
          exact s_eqAgg (nid := nid) ho hu hks hcc.1 hcc.2 hs h
        · cases hc
      · cases hc
    · rename_i n e hu
      split at hc
      · rename_i k i hk' hi
        split at hc
        · rename_i hcc
          cases hc
          simp only [Bool.and_eq_true, Bool.not_eq_true', beq_iff_eq] at hcc
          exact s_eqArr (nid := nid) ho hu hk' hi hcc.1.1 hcc.2 hs h
        · cases hc
      · cases hc
    · cases hc
  · rename_i op t x ho; cases hc; exact s_un (nid := nid) ho hs h
  · rename_i s d x ho
    split at hc
    · rename_i j k h1 h2; cases hc; exact s_convInt (nid := nid) ho h1 h2 hs h
    · rename_i h1 h2; cases hc; exact s_convStr (nid := nid) ho h1 h2 hs h
    · rename_i e h1 h2
      split at hc
      · rename_i h3
        cases hc
        cases ex
        · exact s_s2b (nid := nid) ho h1 h2 h3 hk hs h
        · exact s_s2bS (nid := nid) ho h1 h2 h3 hk (hn rfl) hs h
      · cases hc
    · rename_i e h1 h2
      split at hc
      · rename_i h3
        cases hc
        cases ex
        · exact s_b2s (nid := nid) ho h1 h2 h3 hk hs h
        · exact s_b2sS (nid := nid) ho h1 h2 h3 hk hs h hcond
      · cases hc
    · cases hc
  · rename_i t ho; cases hc; exact s_mkMap (nid := nid) (sl := sl) ho hk (hn rfl) h
  · rename_i t x ho
    split at hc
    · cases hc
    · rename_i d hne hu
      cases hc
      exact s_mkI (nid := nid) ho hu (fun ms e => hne ms e) hs h
    · cases hc
  · rename_i t x i ho
    split at hc
    · rename_i n e hu
      split at hc
      · rename_i s k hsh hsz; cases hc; exact s_aidx (nid := nid) ho hu hsh hsz hs h
      · cases hc
    · rename_i hu; cases hc; exact s_sidx (nid := nid) ho hu hs h
    · cases hc
  · rename_i t m k ok' ho
    split at hc
    · rename_i kt et hu
      split at hc
      · rename_i kd z hkd hz; cases hc; exact s_mlook (nid := nid) ho hu hkd hz hk hs h
      · rename_i z hkd hz
        split at hc
        · rename_i fs hfs
          split at hc
          · rename_i ks hks; cases hc; exact s_mlookS (nid := nid) ho hu hfs hks hz hk hs h
          · cases hc
        · cases hc
      · cases hc
    · cases hc
  · rename_i t m k v ho
    split at hc
    · rename_i kt et hu
      split at hc
      · rename_i kd hkd; cases hc; exact s_mput (nid := nid) ho hu hkd hk hs h
      · split at hc
        · rename_i fs hfs
          split at hc
          · rename_i ks hks; cases hc; exact s_mputS (nid := nid) ho hu hfs hks hk hs h
          · cases hc
        · cases hc
    · cases hc
  · rename_i f x y ho; cases hc; exact s_mkFn (nid := nid) ho hs h
  · rename_i t x y ho
    split at hc
    · rename_i e he
      split at hc
      · rename_i i z hi hz
        split at hc
        · rename_i hcc
          cases hc
          simp only [Bool.and_eq_true, decide_eq_true_eq, beq_iff_eq] at hcc
          cases ex
          · exact s_mkSlice (nid := nid) ho he hi hz hcc.1 hcc.2 hk (hn rfl) hs h
          · exact s_mkSliceS (nid := nid) ho he hi hz hcc.1 hcc.2 hk (hn rfl) hs h hcond
        · cases hc
      · cases hc
    · cases hc
  · rename_i t x lo hi mx ho
    split at hc
    · rename_i e he
      split at hc
      · rename_i k hsz
        split at hc
        · rename_i hk0; cases hc; exact s_slice (nid := nid) ho he hsz hk0 hk hs h
        · cases hc
      · cases hc
    · split at hc
      · rename_i hu; cases hc; exact s_sslice (nid := nid) ho hu hs h
      · cases hc
  · rename_i s x i ho
    split at hc
    · rename_i fs hfs
      split at hc
      · rename_i f hf
        split at hc
        · rename_i n hn'
          split at hc
          · rename_i hn0; cases hc; exact s_faddr (nid := nid) ho hfs hf hn' hn0 hk hs h
          · cases hc
        · cases hc
      · cases hc
    · cases hc
  · rename_i s x i ho
    split at hc
    · rename_i fs hfs
      split at hc
      · rename_i f hf
        split at hc
        · rename_i n hn'; cases hc; exact s_field (nid := nid) ho hfs hf hn' hs h
        · cases hc
      · cases hc
    · cases hc
  · rename_i t x i ho
    split at hc
    · rename_i e he
      split at hc
      · rename_i k hsz
        split at hc
        · cases hc
          cases ex
          · exact s_iaddr (ex := false) (nid := nid) ho he hsz hk hs h hcond
          · exact s_iaddrS (nid := nid) ho he hsz hk hs h hcond
        · cases hc
      · cases hc
    · cases hc
  · rename_i x i ho; cases hc; exact s_extract (nid := nid) ho hs h
  · rename_i c ho
    split at hc
    · rename_i f hcal
      unfold compCall at hc
      split at hc
      · rename_i hix
        split at hc
        · rename_i x y hca; cases hc; exact s_ixb (nid := nid) ho hcal hca hix hs h
        · cases hc
      · cases hc; exact s_call (nid := nid) hcl ho hcal hk (hn rfl) hs h hcond
    · rename_i x _ hcal; cases hc; exact s_callv (nid := nid) hcl ho hcal hk (hn rfl) hs h hcond
    · rename_i hcal
      split at hc
      · rename_i x e hca hu
        cases hc
        obtain ⟨t, ht, hu⟩ := Option.bind_eq_some_iff.1 hu
        cases ex
        · exact s_len (nid := nid) ho hcal hca ht hu (.inr ⟨rfl, e, rfl⟩) hk hs h
        · exact s_lenS (nid := nid) ho hcal hca ht hu (.inr ⟨rfl, e, rfl⟩) hk hs h
      · rename_i x hca hu
        cases hc
        obtain ⟨t, ht, hu⟩ := Option.bind_eq_some_iff.1 hu
        cases ex
        · exact s_len (nid := nid) ho hcal hca ht hu (.inl ⟨rfl, rfl⟩) hk hs h
        · exact s_lenS (nid := nid) ho hcal hca ht hu (.inl ⟨rfl, rfl⟩) hk hs h
      · rename_i x kt et hca hu
        cases hc
        obtain ⟨t, ht, hu⟩ := Option.bind_eq_some_iff.1 hu
        exact s_mlen (nid := nid) ho hcal hca ht hu hk hs h
      · cases hc
    · rename_i hcal
      split at hc
      · rename_i x y t e2 hca ht hu
        obtain ⟨u, hu, hue⟩ := Option.bind_eq_some_iff.1 hu
        split at hc
        · rename_i e he
          split at hc
          · rename_i i z hi hz
            split at hc
            · rename_i hcc
              cases hc
              simp only [Bool.and_eq_true, decide_eq_true_eq, beq_iff_eq] at hcc
              cases ex
              · exact s_append (nid := nid) ho hcal hca ht hu he hue hi hz hcc.2 hcc.1.1 hcc.1.2 hk (hn rfl) hs h
              · exact s_appendS (nid := nid) ho hcal hca ht hu he hue hi hz hcc.2 hcc.1.1 hcc.1.2 hk (hn rfl) hs h hcond
            · cases hc
          · cases hc
        · cases hc
      · rename_i x y t hca ht hu
        obtain ⟨u, hu, hue⟩ := Option.bind_eq_some_iff.1 hu
        split at hc
        · rename_i e he
          split at hc
          · rename_i i z hi hz
            split at hc
            · rename_i hcc
              cases hc
              simp only [Bool.and_eq_true, decide_eq_true_eq, beq_iff_eq] at hcc
              exact s_appS (nid := nid) ho hcal hca ht hu he hue hi hz hcc.2 hcc.1.1 hcc.1.2 hk (hn rfl) hs h
            · cases hc
          · cases hc
        · cases hc
      · cases hc
    · rename_i hcal
      split at hc
      · rename_i x y t e2 hca ht hu
        split at hc
        · rename_i e he
          split at hc
          · rename_i k hsz
            split at hc
            · cases hc; exact s_copy (nid := nid) ho hcal hca ht he hsz hk hs h
            · cases hc
          · cases hc
        · cases hc
      · rename_i x y t hca ht hu
        split at hc
        · rename_i e he
          split at hc
          · rename_i k hsz
            split at hc
            · rename_i hk1; cases hc; exact s_copS (nid := nid) ho hcal hca ht he hsz (eq_of_beq hk1) hk hs h
            · cases hc
          · cases hc
        · cases hc
      · cases hc
    · rename_i hcal
      split at hc
      · rename_i x t hca ht
        split at hc
        · rename_i e he
          split at hc
          · rename_i k z hsz hz
            split at hc
            · rename_i hcc
              cases hc
              simp only [Bool.and_eq_true, decide_eq_true_eq, beq_iff_eq] at hcc
              exact s_clear (nid := nid) ho hcal hca ht he hsz hz hcc.1 hcc.2 hk hs h
            · cases hc
          · cases hc
        · cases hc
      · cases hc
    · cases hc; cases h
    · cases hc; cases h
    · cases hc
  · cases hc
end
end Go.Ev
