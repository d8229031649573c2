import Derived.Test.YtmekepomgofiaaaEvZo
set_option linter.all false
namespace Go.Ev
/-! ### An array of rows of k cells that is filled one after another -/
noncomputable def rowsF (k i : Nat) (g : Nat → List D) (z : List D) (q : Nat) : D := if q / k < i then getK (g (q / k)) (q % k) else getK z (q % k)
theorem updF_at : ∀ (l : List D) (f : Nat → D) (off j : Nat), updF f off l j = if off ≤ j ∧ j < off + l.length then getK l (j - off) else f j
  | [], f, off, j => by
    simp only [updF, List.length_nil]
    rw [if_neg (by omega)]
  | [d], f, off, j => by
    show (match Nat.beq j off with | true => d | false => f j) = _
    cases h : Nat.beq j off with
    | true =>
      have e := Nat.eq_of_beq_eq_true h
      subst e
      simp [getK_eq]
    | false =>
      have e := Nat.ne_of_beq_eq_false h
      rw [if_neg (by simp; omega)]
  | d :: e :: ds, f, off, j => by
    show updF (fun j => match Nat.beq j off with | true => d | false => f j) (off + 1) (e :: ds) j = _
    rw [updF_at (e :: ds)]
    by_cases h1 : off + 1 ≤ j ∧ j < off + 1 + (e :: ds).length
    · rw [if_pos h1, if_pos (by simp at h1 ⊢; omega), getK_eq, getK_eq]
      have : j - off = (j - (off + 1)) + 1 := by omega
      rw [this]
      simp
    · rw [if_neg h1]
      cases h : Nat.beq j off with
      | true =>
        have e := Nat.eq_of_beq_eq_true h
        subst e
        simp [getK_eq]
      | false =>
        have e := Nat.ne_of_beq_eq_false h
        rw [if_neg (by simp at h1 ⊢; omega)]
theorem rowsF_set {k i : Nat} {g : Nat → List D} {z : List D} (hk : 0 < k) (hg : (g i).length = k) : rowsF k (i + 1) g z = updF (rowsF k i g z) (i * k) (g i) := by
  funext q
  rw [updF_at, hg]
  unfold rowsF
  have h1 := Nat.div_add_mod q k
  have h2 := Nat.mod_lt q hk
  rw [Nat.mul_comm] at h1
  by_cases h : i * k ≤ q ∧ q < i * k + k
  · have e1 : q / k = i := Nat.div_eq_of_lt_le h.1 (by rw [Nat.add_mul]; omega)
    have e2 : q % k = q - i * k := by rw [e1] at h1; omega
    rw [if_pos (by omega), if_pos h, e1, e2]
  · rw [if_neg h]
    have : q / k ≠ i := fun e => by
      rw [e] at h1
      exact h ⟨by omega, by omega⟩
    by_cases h3 : q / k < i
    · rw [if_pos h3, if_pos (by omega)]
    · rw [if_neg h3, if_neg (by omega)]
theorem rowsF_0 {k : Nat} {g : Nat → List D} {z : List D} : rowsF k 0 g z = fun q => getK z (q % k) := by
  funext q
  unfold rowsF
  rw [if_neg (Nat.not_lt_zero _)]
/-- such an array becomes a row -/
theorem frz_rows {hp : List Blk} {id n m k i0 : Nat} {cap : Option Nat} {g : Nat → List D} {z : List D} (hb : getG hp id = some (.arr m (rowsF k i0 g z))) (hm : n * k ≤ m) (hi0 : n ≤ i0) (hk : 0 < k) (hg : ∀ i, i < n → (g i).length = k ∧ ∀ d ∈ g i, freeD d) : FrzP hp (.sl id 0 n k cap) (.row k n g) :=
  frz_arr hb fun i hi j e hj => by
    obtain ⟨h1, h2⟩ := hg i hi
    have hjk : j < k := by rw [← h1]; exact (List.getElem?_eq_some_iff.1 hj).1
    have hle : (i + 1) * k ≤ n * k := Nat.mul_le_mul_right k hi
    rw [Nat.add_mul, Nat.one_mul] at hle
    refine ⟨by omega, ?_⟩
    have e0 : 0 + i * k + j = i * k + j := by omega
    rw [e0]
    have e1 : (i * k + j) / k = i := by rw [Nat.mul_comm, Nat.mul_add_div hk, Nat.div_eq_of_lt hjk]; rfl
    have e2 : (i * k + j) % k = j := by rw [Nat.mul_comm, Nat.mul_add_mod, Nat.mod_eq_of_lt hjk]
    have : rowsF k i0 g z (i * k + j) = e := by
      unfold rowsF
      rw [e1, e2, if_pos (by omega), getK_eq, List.getD_eq_getElem?_getD, hj]
      rfl
    rw [this]
    exact frz_free (h2 e (List.mem_of_getElem? hj))
theorem need_updF {N : Nat} : ∀ (l : List D) {f : Nat → D} {off j : Nat}, (∀ d ∈ l, needD N d) → needD N (f j) → needD N (updF f off l j) := fun l f off j hl hf => by
  rw [updF_at]
  split
  · rename_i h
    rw [getK_eq, List.getD_eq_getElem?_getD, List.getElem?_eq_getElem (by omega)]
    exact hl _ (List.getElem_mem _)
  · exact hf
theorem need_getK {N : Nat} {l : List D} {j : Nat} (h : ∀ d ∈ l, needD N d) : needD N (getK l j) := by
  rw [getK_eq, List.getD_eq_getElem?_getD]
  cases e : l[j]? with
  | none => simp [needD]
  | some d => exact h d (List.mem_of_getElem? e)
theorem need_rows {N k i q : Nat} {g : Nat → List D} {z : List D} (hg : ∀ a, ∀ d ∈ g a, needD N d) (hz : ∀ d ∈ z, needD N d) : needD N (rowsF k i g z q) := by
  unfold rowsF
  split
  · exact need_getK (hg _)
  · exact need_getK hz
theorem rowsF_set1 {i : Nat} {g : Nat → List D} {z : List D} (hg : (g i).length = 1) : rowsF 1 (i + 1) g z = updF (rowsF 1 i g z) i (g i) := by
  have := rowsF_set (k := 1) (i := i) (g := g) (z := z) (by decide) hg
  rw [Nat.mul_one] at this
  exact this
theorem rowsF_01 {g : Nat → List D} {d : D} : rowsF 1 0 g [d] = fun _ => d := by
  rw [rowsF_0]
  funext q
  rw [Nat.mod_one]
  rfl
end Go.Ev
