import Derived.Test.YtmekepomgofiaaaEvQ
set_option linter.all false
namespace Go.Ev
section
variable {K : Cust} {P : Program} {w0 : World} {ρ0 : List Own} {hp0 : List Blk} {w : World} {ρ : List Own} {a : Act} {s s' : St} {F : FuncId → Option AFun} {raw : Raw}

def exOf : Ex → Exit
  | .normal => .normal
  | .exit i => .exit i
  | .ret => .ret
def PostE (K : Cust) (w0 : World) (ρ0 : List Own) (hp0 : List Blk) (s' : St) (e : Ex) (x : Exit) (a' : Act) (w' : World) : Prop := x = exOf e ∧ ∃ ρ', Inv K w0 ρ0 hp0 w' ρ' a' s'

theorem thenC_cases {r : Option (Ex × St)} {k : St → Option (Ex × St)} {e : Ex} {s' : St} (h : thenC r k = some (e, s')) : (∃ s1, r = some (.normal, s1) ∧ k s1 = some (e, s')) ∨ (e ≠ .normal ∧ r = some (e, s')) := by
  unfold thenC at h
  split at h
  · rename_i s1; exact .inl ⟨s1, rfl, h⟩
  · rename_i hne
    refine .inr ⟨fun he => ?_, h⟩
    subst he
    exact hne s' h
theorem outC_cases {i : Nat} {r : Option (Ex × St)} {e : Ex} {s' : St} (h : outC i r = some (e, s')) : (r = some (.exit i, s') ∧ e = .normal) ∨ (∃ j, j ≠ i ∧ r = some (.exit j, s') ∧ e = .exit j) ∨ (r = some (e, s') ∧ (e = .normal ∨ e = .ret)) := by
  unfold outC at h
  split at h
  · rename_i j s1
    split at h
    · rename_i hj; obtain ⟨rfl, rfl⟩ := some_pair h; subst hj; exact .inl ⟨rfl, rfl⟩
    · rename_i hj; obtain ⟨rfl, rfl⟩ := some_pair h; exact .inr (.inl ⟨j, hj, rfl, rfl⟩)
  · rename_i hne
    refine .inr (.inr ⟨h, ?_⟩)
    cases e with
    | exit j => exact absurd h (hne j s')
    | normal => exact .inl rfl
    | ret => exact .inr rfl
theorem someC_cases {r : Option St} {e : Ex} {s' : St} (h : someC r = some (e, s')) : r = some s' ∧ e = .normal := by
  unfold someC at h
  split at h
  · obtain ⟨rfl, rfl⟩ := some_pair h; exact ⟨rfl, rfl⟩
  · cases h
theorem testC_cases {d : D} {x y : Option (Ex × St)} {z : Ex × St} (h : testC d x y = some z) : ∃ t, d = .val (.bool t) ∧ (if t then x else y) = some z := by
  unfold testC at h
  split at h
  · rename_i t; cases t <;> exact ⟨_, rfl, h⟩
  · cases h
theorem runC_p : ∀ (n : Nat) (c : ACode) (s s' : St) (e : Ex), runC F raw n c s = some (e, s') → s'.p → s.p
  | 0, c, s, s', e, h, _ => by simp [runC] at h
  | n + 1, c, s, s', e, h, hp => by
    cases c <;> simp only [runC, stepC] at h
    case skip => obtain ⟨_, rfl⟩ := some_pair h; exact hp
    case region ops m =>
      obtain ⟨h1, _⟩ := someC_cases h
      unfold reg at h1
      simp only [growS_eq, forceN_eq, lenG_eq] at h1
      have := stps_p _ _ _ h1 hp
      exact this
    case seq x y =>
      rcases thenC_cases h with ⟨s1, h1, h2⟩ | ⟨_, h1⟩
      · exact runC_p n x s s1 _ h1 (runC_p n y s1 s' e h2 hp)
      · exact runC_p n x s s' e h1 hp
    case cond c x y =>
      obtain ⟨t, _, h1⟩ := testC_cases h
      cases t
      · exact runC_p n y s s' e h1 hp
      · exact runC_p n x s s' e h1 hp
    case block i b =>
      rcases outC_cases h with ⟨h1, _⟩ | ⟨j, _, h1, _⟩ | ⟨h1, _⟩
      · exact runC_p n b s _ _ h1 hp
      · exact runC_p n b s _ _ h1 hp
      · exact runC_p n b s _ _ h1 hp
    case loop b =>
      rcases thenC_cases h with ⟨s1, h1, h2⟩ | ⟨_, h1⟩
      · exact runC_p n b s s1 _ h1 (runC_p n (.loop b) s1 s' e h2 hp)
      · exact runC_p n b s s' e h1 hp
    case exit i => obtain ⟨_, rfl⟩ := some_pair h; exact hp
    case ret => obtain ⟨_, rfl⟩ := some_pair h; exact hp

theorem least {p : Nat → Prop} (h : ∃ n, p n) : ∃ n, p n ∧ ∀ m, p m → n ≤ m := by
  obtain ⟨n, hn⟩ := h
  induction n using Nat.strongRecOn with
  | _ n ih =>
    by_cases hm : ∃ m, m < n ∧ p m
    · obtain ⟨m, h1, h2⟩ := hm
      exact ih m h1 h2
    · exact ⟨n, hn, fun m h => Nat.le_of_not_lt fun hl => hm ⟨m, hl, h⟩⟩
open Classical in
/-- a loop whose rounds are counted down -/
theorem wp_loop_fuel {c : Code} {Q : Exit → Act → World → Prop} (J : Nat → Act → World → Prop) {n : Nat} (h0 : J n a w) (round : ∀ n a w, J n a w → c.wp P (Exit.then (fun a' w' => ∃ m, m < n ∧ J m a' w') Q) a w) : (Code.loop c).wp P Q a w := by
  refine wp_loop (fun a w => ∃ n, J n a w) (fun a w => if h : ∃ n, J n a w then Classical.choose (least h) else 0) ⟨n, h0⟩ fun a w hI => ?_
  have hs := Classical.choose_spec (least hI)
  refine wp_mono (round _ a w hs.1) fun e a' w' he => ?_
  cases e with
  | normal =>
    obtain ⟨m, hm, hj⟩ := he
    have hI' : ∃ n, J n a' w' := ⟨m, hj⟩
    refine ⟨hI', ?_⟩
    have hs' := Classical.choose_spec (least hI')
    rw [dif_pos hI', dif_pos hI]
    exact Nat.lt_of_le_of_lt (hs'.2 m hj) hm
  | _ => exact he
end
end Go.Ev
