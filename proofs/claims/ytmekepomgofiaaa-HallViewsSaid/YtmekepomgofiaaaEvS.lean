import Derived.Test.YtmekepomgofiaaaEvR
set_option linter.all false
namespace Go.Ev
section
variable {K : Cust} {P : Program} {w0 : World} {ρ0 : List Own} {hp0 : List Blk} {w : World} {ρ : List Own} {a : Act} {s s' : St} {F : FuncId → Option AFun} {raw : Raw}

/-- a drawn region is carried out soundly -/
def Drawn (P : Program) : Prop := ∀ (K : Cust) (cl : FuncId → List D → List Blk → Nat → Option Out) (id : Nat) (ops : Array Oper) (aos : List AOper) (n : Nat), ClOK K P cl → compD P ops = some (aos, n) →
  ∀ (ex : Bool) (w0 : World) (ρ0 : List Own) (hp0 : List Blk) (w : World) (ρ : List Own) (a : Act) (s s' : St), Inv K w0 ρ0 hp0 w ρ a s → reg ex cl aos n s = some s' → s'.p →
  ∀ Q : Exit → Act → World → Prop, (∀ a' w' ρ', Inv K w0 ρ0 hp0 w' ρ' a' s' → Q .normal a' w') → (Code.region id ops true).wp P Q a w

theorem evB {x : Operand} {t : Bool} {M : World} (hs : Slots K M ρ s.sl a.tmps) (h : evO s.sl x = .val (.bool t)) : a.eval x = .bool t := by
  have := evO_rep hs x
  rw [h] at this
  simpa [Rep] using this

theorem runC_ok (hdr : Drawn P) {n : Nat} (hcl : ∀ m, m < n → ClOK K P (callF F raw m)) : ∀ m, m ≤ n → ∀ (c : Code) (ac : ACode) (w : World) (ρ : List Own) (a : Act) (s s' : St) (e : Ex), compC P c = some ac → Inv K w0 ρ0 hp0 w ρ a s → runC F raw m ac s = some (e, s') → s'.p →
    c.wp P (PostE K w0 ρ0 hp0 s' e) a w := by
  intro m
  induction m using Nat.strongRecOn with
  | _ m0 ih =>
    intro hm c ac w ρ a s s' e hc hI h hp
    cases m0 with
    | zero => simp [runC] at h
    | succ m =>
    have ih' := ih m (by omega) (by omega)
    cases c with
    | skip =>
      simp only [compC] at hc
      obtain rfl := Option.some.inj hc
      simp only [runC, stepC] at h
      obtain ⟨rfl, rfl⟩ := some_pair h
      exact wp_skip ⟨rfl, ρ, hI⟩
    | label l =>
      simp only [compC] at hc
      obtain rfl := Option.some.inj hc
      simp only [runC, stepC] at h
      obtain ⟨rfl, rfl⟩ := some_pair h
      exact wp_label ⟨rfl, ρ, hI⟩
    | region id ops dr =>
      cases dr with
      | false =>
        simp only [compC] at hc
        split at hc
        · rename_i l k hl
          obtain rfl := Option.some.inj hc
          simp only [runC, stepC] at h
          obtain ⟨h1, rfl⟩ := someC_cases h
          exact region_ok (hcl m (by omega)) hl hI h1 hp fun a' w' ρ' hI' => ⟨rfl, ρ', hI'⟩
        · cases hc
      | true =>
        simp only [compC] at hc
        split at hc
        · rename_i l k hl
          obtain rfl := Option.some.inj hc
          simp only [runC, stepC] at h
          obtain ⟨h1, rfl⟩ := someC_cases h
          exact hdr K _ id ops l k (hcl m (by omega)) hl false w0 ρ0 hp0 w ρ a s _ hI h1 hp _ fun a' w' ρ' hI' => ⟨rfl, ρ', hI'⟩
        · cases hc
    | seq x y =>
      simp only [compC] at hc
      split at hc
      · rename_i ax ay hx hy
        obtain rfl := Option.some.inj hc
        simp only [runC, stepC] at h
        refine wp_seq ?_
        rcases thenC_cases h with ⟨s1, h1, h2⟩ | ⟨hne, h1⟩
        · refine wp_mono (ih' x ax w ρ a s s1 .normal hx hI h1 (runC_p _ _ _ _ _ h2 hp)) fun e' a' w' he => ?_
          obtain ⟨rfl, ρ', hI'⟩ := he
          exact ih' y ay w' ρ' a' s1 s' e hy hI' h2 hp
        · refine wp_mono (ih' x ax w ρ a s s' e hx hI h1 hp) fun e' a' w' he => ?_
          obtain ⟨rfl, ρ', hI'⟩ := he
          cases e with
          | normal => exact absurd rfl hne
          | _ => exact ⟨rfl, ρ', hI'⟩
      · cases hc
    | cond c x y =>
      simp only [compC] at hc
      split at hc
      · rename_i ax ay hx hy
        obtain rfl := Option.some.inj hc
        simp only [runC, stepC] at h
        obtain ⟨t, ht, h1⟩ := testC_cases h
        have hb := evB hI.slots ht
        cases t
        · exact wp_cond_false hb (ih' y ay w ρ a s s' e hy hI h1 hp)
        · exact wp_cond_true hb (ih' x ax w ρ a s s' e hx hI h1 hp)
      · cases hc
    | block i b =>
      simp only [compC] at hc
      split at hc
      · rename_i ab hb
        obtain rfl := Option.some.inj hc
        simp only [runC, stepC] at h
        refine wp_block ?_
        rcases outC_cases h with ⟨h1, rfl⟩ | ⟨j, hj, h1, rfl⟩ | ⟨h1, he⟩
        · refine wp_mono (ih' b ab w ρ a s s' (.exit i) hb hI h1 hp) fun e' a' w' he => ?_
          obtain ⟨rfl, ρ', hI'⟩ := he
          simp only [exOf, Exit.inBlock, if_true]
          exact ⟨rfl, ρ', hI'⟩
        · refine wp_mono (ih' b ab w ρ a s s' (.exit j) hb hI h1 hp) fun e' a' w' he => ?_
          obtain ⟨rfl, ρ', hI'⟩ := he
          simp only [exOf, Exit.inBlock, if_neg hj]
          exact ⟨rfl, ρ', hI'⟩
        · refine wp_mono (ih' b ab w ρ a s s' e hb hI h1 hp) fun e' a' w' he' => ?_
          obtain ⟨rfl, ρ', hI'⟩ := he'
          rcases he with rfl | rfl
          · exact ⟨rfl, ρ', hI'⟩
          · exact ⟨rfl, ρ', hI'⟩
      · cases hc
    | loop b =>
      simp only [compC] at hc
      split at hc
      · rename_i ab hb
        obtain rfl := Option.some.inj hc
        refine wp_loop_fuel (fun q a w => q ≤ m + 1 ∧ ∃ ρ s, Inv K w0 ρ0 hp0 w ρ a s ∧ runC F raw q (.loop ab) s = some (e, s')) (n := m + 1) ⟨Nat.le_refl _, ρ, s, hI, h⟩ ?_
        rintro q a1 w1 ⟨hq, ρ1, s1, hI1, h1⟩
        cases q with
        | zero => simp [runC] at h1
        | succ q =>
          simp only [runC, stepC] at h1
          rcases thenC_cases h1 with ⟨s2, h2, h3⟩ | ⟨hne, h2⟩
          · refine wp_mono (ih q (by omega) (by omega) b ab w1 ρ1 a1 s1 s2 .normal hb hI1 h2 (runC_p _ _ _ _ _ h3 hp)) fun e' a' w' he => ?_
            obtain ⟨rfl, ρ', hI'⟩ := he
            exact ⟨q, by omega, by omega, ρ', s2, hI', h3⟩
          · refine wp_mono (ih q (by omega) (by omega) b ab w1 ρ1 a1 s1 s' e hb hI1 h2 hp) fun e' a' w' he => ?_
            obtain ⟨rfl, ρ', hI'⟩ := he
            cases e with
            | normal => exact absurd rfl hne
            | _ => exact ⟨rfl, ρ', hI'⟩
      · cases hc
    | exit i =>
      simp only [compC] at hc
      obtain rfl := Option.some.inj hc
      simp only [runC, stepC] at h
      obtain ⟨rfl, rfl⟩ := some_pair h
      exact wp_exit ⟨rfl, ρ, hI⟩
    | ret =>
      simp only [compC] at hc
      obtain rfl := Option.some.inj hc
      simp only [runC, stepC] at h
      obtain ⟨rfl, rfl⟩ := some_pair h
      exact wp_ret ⟨rfl, ρ, hI⟩
    | _ => simp [compC] at hc
end
end Go.Ev
