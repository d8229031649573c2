import Derived.Test.YtmekepomgofiaaaEvS
set_option linter.all false
namespace Go.Ev
section
variable {K : Cust} {P : Program} {w : World} {ρ ρ' : List Own} {a : Act} {s s' : St} {hp : List Blk} {n : Nat}

theorem Inv.init {ds : List D} {args : List Value} {q : Nat} (hk : OK K w ρ hp) (hr : RepL K (mask K w ρ) ρ ds args) :
    Inv K w ρ hp w ρ { tmps := args.toArray ++ Array.replicate (q - args.toArray.size) undef, defers := [] } ⟨True, ds ++ List.replicate (q - ds.length) undefD, hp, hp.length, []⟩ := by
  have e := repL_length hr
  refine ⟨Nat.le_refl _, fun _ _ _ => rfl, fun b h => .inl h, OwnLe.refl ρ, hk.len, rfl, Nat.le_refl _, fun _ _ _ => rfl, fun i h1 h2 => ⟨h1, by simp, rfl⟩, fun hp2 hl h => ?_, fun i h => h, ⟨by simp [e], fun i d hi => ?_⟩, rfl, hk, Env.refl w⟩
  · have : over ⟨True, ds ++ List.replicate (q - ds.length) undefD, hp, hp.length, []⟩ hp2 = hp2 := by
      unfold over wrote
      simp [app]
    rw [this]
    exact h
  · dsimp only at hi ⊢
    by_cases hl : i < ds.length
    · rw [List.getElem?_append_left hl] at hi
      obtain ⟨v, h1, h2⟩ := repL_get hr hi
      exact ⟨v, by rw [Array.getElem?_append_left (by simp; omega)]; simpa using h1, h2⟩
    · rw [List.getElem?_append_right (by omega), List.getElem?_replicate] at hi
      split at hi
      · obtain rfl := Option.some.inj hi
        refine ⟨undef, ?_, by simp only [undefD, Rep]; exact ⟨[], rfl, by simp [RepL]⟩⟩
        rw [Array.getElem?_append_right (by simp; omega), Array.getElem?_replicate, if_pos (by simp only [List.size_toArray]; omega)]
      · cases hi

theorem res_ok (hk : OK K w ρ s.hp) (hs : Slots K (mask K w ρ) ρ s.sl a.tmps) : ∀ (l : List ResultVar) (rs : List (Nat ⊕ (Nat × Option Nat))) (ds : List D), compRes P l = some rs → resD s rs = some ds →
    ∃ vs : List Value, (l.mapM (fun | .tmp t => pure (a.tmps.getD t undef) | .cell c t => do loadVar t (← asAddr (a.tmps.getD c undef)) : ResultVar → Sem Value)).run P w = .ok vs w ∧ RepL K (mask K w ρ) ρ ds vs
  | [], rs, ds, hc, hd => by
    simp only [compRes] at hc
    obtain rfl := Option.some.inj hc
    simp only [resD] at hd
    obtain rfl := Option.some.inj hd
    exact ⟨[], by simp, by simp [RepL]⟩
  | .tmp t :: l, rs, ds, hc, hd => by
    simp only [compRes] at hc
    split at hc
    · rename_i r hr
      obtain rfl := Option.some.inj hc
      simp only [resD] at hd
      split at hd
      · rename_i r2 hr2
        obtain rfl := Option.some.inj hd
        obtain ⟨vs, h1, h2⟩ := res_ok hk hs l r r2 hr hr2
        refine ⟨a.tmps.getD t undef :: vs, by rw [List.mapM_cons]; simp only [Sem.run_bind, Sem.run_pure, Result.andThen_ok, h1], ?_⟩
        have he := evO_rep hs (.tmp t)
        simp only [evO, evF, getK_eq, Act.eval] at he
        simp only [RepL]
        exact ⟨_, _, rfl, he, h2⟩
      · cases hd
    · cases hc
  | .cell c t :: l, rs, ds, hc, hd => by
    simp only [compRes] at hc
    split at hc
    · rename_i n r hn hr
      obtain rfl := Option.some.inj hc
      simp only [resD] at hd
      split at hd
      · rename_i id off hp1
        split at hd
        · rename_i cs hcs
          split at hd
          · rename_i d r2 hd1 hr2
            obtain rfl := Option.some.inj hd
            obtain ⟨vs, h1, h2⟩ := res_ok hk hs l r r2 hr hr2
            have he := evO_rep hs (.tmp c)
            simp only [evO, evF, getK_eq, Act.eval] at he
            rw [hp1] at he
            obtain ⟨b, m, ho1, hb⟩ := cellsAt_own hk hcs
            simp only [Rep, ho1] at he
            obtain ⟨v, g1, g2⟩ := load_reads (own_reads hb) hn hd1
            rw [Nat.zero_add] at g1
            have hA : (asAddr (a.tmps.getD c undef)).run P w = .ok ⟨b, off, none⟩ w := by rw [he]; rfl
            refine ⟨v :: vs, by rw [List.mapM_cons]; simp only [Sem.run_bind, Sem.run_pure, Result.andThen_ok, hA, g1, h1], ?_⟩
            simp only [RepL]
            exact ⟨_, _, rfl, g2, h2⟩
          · cases hd
        · cases hd
      · cases hd
    · cases hc
theorem results_ok {fn : Func} {rs : List (Nat ⊕ (Nat × Option Nat))} {ds : List D} (hk : OK K w ρ s.hp) (hs : Slots K (mask K w ρ) ρ s.sl a.tmps) (hc : compRes P fn.results.toList = some rs) (hd : resD s rs = some ds) :
    ∃ v, (results fn a.tmps).run P w = .ok v w ∧ Rep K (mask K w ρ) ρ (tupD ds) v := by
  obtain ⟨vs, h1, h2⟩ := res_ok hk hs _ _ _ hc hd
  have hl := repL_length h2
  have hrun : (results fn a.tmps).run P w = .ok (if h : vs.toArray.size = 1 then vs.toArray[0] else .tuple vs.toArray) w := by
    unfold results
    rw [Array.mapM_eq_mapM_toList]
    simp only [Sem.run_bind, Sem.run_map]
    exact congrArg (fun r : Result (List Value) => ((r.andThen fun a w' => .ok a.toArray w').andThen fun vs w' => (pure (if h : vs.size = 1 then vs[0] else .tuple vs) : Sem Value).run P w')) h1
  refine ⟨_, hrun, ?_⟩
  cases ds with
  | nil =>
    obtain rfl : vs = [] := by simpa using hl.symm
    simp only [tupD, Rep]
    exact ⟨[], by simp, h2⟩
  | cons d ds =>
    cases ds with
    | nil =>
      simp only [RepL] at h2
      obtain ⟨x, r, rfl, hx, rfl⟩ := h2
      simpa [tupD] using hx
    | cons e ds =>
      have : vs.toArray.size ≠ 1 := by simp at hl ⊢; omega
      rw [dif_neg this]
      simp only [tupD, Rep]
      exact ⟨vs, rfl, h2⟩
end
end Go.Ev
