import Derived.Test.YtmekepomgofiaaaEvP
set_option linter.all false
namespace Go.Ev
section
variable {K : Cust} {P : Program} {w0 : World} {ρ0 : List Own} {hp0 : List Blk} {w : World} {ρ : List Own} {a : Act} {s s' : St} {ex : Bool} {cl : FuncId → List D → List Blk → Nat → Option Out}

theorem live_fresh (n : Nat) : isLive K (ρ ++ List.replicate n Own.fresh) = isLive K ρ := by
  funext b
  apply propext
  constructor
  · rintro (hh | ⟨i, m, h⟩)
    · exact .inl hh
    rw [List.getElem?_append] at h
    split at h
    · exact .inr ⟨i, m, h⟩
    · rw [List.getElem?_replicate] at h
      split at h <;> simp at h
  · rintro (hh | ⟨i, m, h⟩)
    · exact .inl hh
    exact .inr ⟨i, m, by rw [List.getElem?_append_left (List.getElem?_eq_some_iff.1 h).1]; exact h⟩
theorem mask_fresh (n : Nat) : mask K w (ρ ++ List.replicate n Own.fresh) = mask K w ρ := by
  unfold mask
  rw [live_fresh]
theorem own_fresh (n : Nat) (i : Nat) : own (ρ ++ List.replicate n Own.fresh) i = own ρ i := by
  unfold own
  simp only [List.getD_eq_getElem?_getD, List.getElem?_append]
  split
  · rfl
  · rename_i h
    rw [List.getElem?_eq_none (show ρ.length ≤ i by omega), List.getElem?_replicate]
    split <;> rfl
theorem le_fresh (n : Nat) : OwnLe ρ (ρ ++ List.replicate n Own.fresh) := fun i => by
  rw [own_fresh]
  exact OwnLe.refl ρ i
theorem OK.grow {hp : List Blk} (n : Nat) (h : OK K w ρ hp) : OK K w (ρ ++ List.replicate n Own.fresh) (hp ++ deads n) := by
  have get : ∀ (i b m : Nat), (ρ ++ List.replicate n Own.fresh)[i]? = some (Own.live b m) → ρ[i]? = some (Own.live b m) := fun i b m hi => by
    rw [List.getElem?_append] at hi
    split at hi
    · exact hi
    · rw [List.getElem?_replicate] at hi
      split at hi <;> simp at hi
  refine ⟨by simp [h.len, deads], fun i b m hi => h.lt i b m (get _ _ _ hi), fun i j b m m' h1 h2 => h.inj i j b m m' (get _ _ _ h1) (get _ _ _ h2), fun i x hx => ?_, h.hid, fun i b m hi => h.apart i b m (get _ _ _ hi)⟩
  rw [mask_fresh, own_fresh]
  rw [List.getElem?_append] at hx
  split at hx
  · exact (h.blk i x hx).mono (Sub.refl _) (le_fresh n) (fun _ _ _ => rfl)
  · unfold deads at hx
    rw [List.getElem?_replicate] at hx
    split at hx
    · cases hx
      cases own ρ i <;> trivial
    · cases hx
theorem Inv.grow (n : Nat) (h : Inv K w0 ρ0 hp0 w ρ a s) : Inv K w0 ρ0 hp0 w (ρ ++ List.replicate n Own.fresh) a ⟨s.p, s.sl, s.hp ++ deads n, s.base, s.wr⟩ := by
  have hb := h.base
  have hl := h.blen
  refine ⟨h.size, h.keep, fun b hb => h.new b (by rw [← live_fresh (K := K) n]; exact hb), h.le.trans (le_fresh n), by simp [h.rlen, deads], h.base, by simp; omega, fun i h1 h2 => ?_, fun i h1 h2 => ?_, fun hp2 h1 h2 => ?_, fun i h1 => ?_, ?_, h.defers, h.start, h.env⟩
  · dsimp only
    rw [List.getElem?_append_left (by omega)]
    exact h.same i h1 h2
  · obtain ⟨g1, g2, g3⟩ := h.hid i h1 h2
    have hi := (List.getElem?_eq_some_iff.1 h1).1
    have := h.rlen
    refine ⟨?_, g2, ?_⟩
    · dsimp only; rw [List.getElem?_append_left (by omega)]; exact g1
    · rw [List.getElem?_append_left (by omega)]; exact g3
  · have := (h.ok hp2 h1 h2).grow n
    have e : over s hp2 ++ deads n = over ⟨s.p, s.sl, s.hp ++ deads n, s.base, s.wr⟩ hp2 := by
      unfold over wrote
      dsimp only
      rw [List.drop_append_of_le_length (by omega), ← List.append_assoc]
      congr 2
      congr 1
      apply List.map_congr_left
      intro i hi
      rcases Nat.lt_or_ge i s.hp.length with hlt | hlt
      · simp [List.getD_eq_getElem?_getD, List.getElem?_append_left hlt]
      · simp only [List.getD_eq_getElem?_getD, List.getElem?_append_right hlt, List.getElem?_eq_none hlt, deads, List.getElem?_replicate]
        split <;> rfl
    rw [← e]
    exact this
  · have := h.fr i h1
    rw [List.getElem?_append_left (List.getElem?_eq_some_iff.1 this).1]
    exact this
  · rw [mask_fresh]
    exact ⟨h.slots.1, fun i d hi => let ⟨v, h1, h2⟩ := h.slots.2 i d hi; ⟨v, h1, Rep.mono (Sub.refl _) (le_fresh n) _ _ h2⟩⟩

/-- a region in its own order -/
theorem region_ok {ops : Array Oper} {id n : Nat} {aos : List AOper} {Q : Exit → Act → World → Prop} (hcl : ClOK K P cl) (hc : compR P ops ops.toList 0 = some (aos, n)) (hI : Inv K w0 ρ0 hp0 w ρ a s) (h : reg ex cl aos n s = some s') (hp : s'.p)
    (hQ : ∀ a' w' ρ', Inv K w0 ρ0 hp0 w' ρ' a' s' → Q .normal a' w') : (Code.region id ops false).wp P Q a w := by
  unfold reg at h
  simp only [growS_eq, forceN_eq, lenG_eq] at h
  refine wp_region ?_
  have hl := hI.rlen
  have hg := hI.grow n
  have e : List.range ops.size = List.range' 0 ops.toList.length := by rw [List.range_eq_range']; simp
  rw [e]
  refine stps_ok hcl (n0 := s.hp.length) hI.blen ops.toList 0 0 n aos w _ a _ s' (by simp) hc hg (fun j _ hj => ?_) h hp hQ
  rw [List.getElem?_append_right (by omega), List.getElem?_replicate, if_pos (by omega)]
end
end Go.Ev
