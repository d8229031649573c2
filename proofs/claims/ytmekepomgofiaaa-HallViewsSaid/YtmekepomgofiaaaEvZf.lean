import Derived.Test.YtmekepomgofiaaaEvZe
set_option linter.all false
namespace Go.Ev
/-! ### What a callee only reads: the caller's blocks are seen as if nobody's -/
def rowB (n : Nat) (b : Nat → Int) : D := .row 1 n fun i => [.val (.int .u8 (b i))]
def byteN : D → Option Int
  | .val (.int .u8 n) => if 0 ≤ n ∧ n < 256 then some n else none
  | _ => none
def intsOf : List D → Option (List Int)
  | [] => some []
  | d :: l => match byteN d, intsOf l with | some n, some r => some (n :: r) | _, _ => none
def cell1 : List D → Option Int
  | [d] => byteN d
  | _ => none
def rowInts (f : Nat → List D) : Nat → Nat → Option (List Int)
  | 0, _ => some []
  | n + 1, i => match cell1 (f i), rowInts f n (i + 1) with | some x, some r => some (x :: r) | _, _ => none
/-- the bytes of a slice -/
noncomputable def bytesOfD (hp : List Blk) : D → Option (List Int)
  | .val (.slice none 0 0) => some []
  | .sl id off len k _ => match Nat.beq k 1, cellsAt hp id with
    | true, some cs => match Nat.ble (off + len) (lenG cs) with | true => intsOf (takeG (dropG cs off) len) | false => none
    | _, _ => none
  | .row k len f => match Nat.beq k 1 with | true => rowInts f len 0 | false => none
  | _ => none
theorem byteN_some {d : D} {n : Int} (h : byteN d = some n) : d = .val (.int .u8 n) ∧ 0 ≤ n ∧ n < 256 := by
  unfold byteN at h
  split at h
  · split at h
    · cases h; exact ⟨rfl, by assumption⟩
    · cases h
  · cases h
theorem intsOf_get : ∀ {cs : List D} {ns : List Int}, intsOf cs = some ns → cs.length = ns.length ∧ ∀ i, i < ns.length → cs[i]? = some (.val (.int .u8 (ns.getD i 0))) ∧ 0 ≤ ns.getD i 0 ∧ ns.getD i 0 < 256
  | [], ns, h => by simp only [intsOf] at h; cases h; exact ⟨rfl, fun i hi => by simp at hi⟩
  | d :: cs, ns, h => by
    simp only [intsOf] at h
    split at h
    · rename_i n r hn hr
      cases h
      obtain ⟨rfl, h0, h1⟩ := byteN_some hn
      obtain ⟨g1, g2⟩ := intsOf_get hr
      refine ⟨by simp [g1], fun i hi => ?_⟩
      cases i with
      | zero => exact ⟨by simp, by simpa using h0, by simpa using h1⟩
      | succ i => simpa using g2 i (by simpa using hi)
    · cases h
theorem rowInts_get {f : Nat → List D} : ∀ {n i : Nat} {ns : List Int}, rowInts f n i = some ns → ns.length = n ∧ ∀ j, j < n → f (i + j) = [.val (.int .u8 (ns.getD j 0))] ∧ 0 ≤ ns.getD j 0 ∧ ns.getD j 0 < 256
  | 0, i, ns, h => by simp only [rowInts] at h; cases h; exact ⟨rfl, fun j hj => by omega⟩
  | n + 1, i, ns, h => by
    simp only [rowInts] at h
    split at h
    · rename_i x r hx hr
      cases h
      obtain ⟨g1, g2⟩ := rowInts_get hr
      have hx' : f i = [.val (.int .u8 x)] ∧ 0 ≤ x ∧ x < 256 := by
        unfold cell1 at hx
        split at hx
        · rename_i d hd
          obtain ⟨rfl, h01⟩ := byteN_some hx
          exact ⟨hd, h01⟩
        · cases hx
      refine ⟨by simp [g1], fun j hj => ?_⟩
      cases j with
      | zero => exact ⟨by simpa using hx'.1, by simpa using hx'.2.1, by simpa using hx'.2.2⟩
      | succ j =>
        have := g2 j (by omega)
        rw [show i + (j + 1) = i + 1 + j by omega]
        simpa using this
    · cases h
section
variable {K : Cust} {P : Program} {w w' : World} {ρ : List Own} {hp : List Blk} {nid : Nat}
theorem see_live {b : Nat} : isLive K [Own.fresh] b ↔ K.hid b := by
  constructor
  · rintro (h | ⟨i, n, hi⟩)
    · exact h
    · cases i <;> simp at hi
  · exact fun h => .inl h
theorem see_sub : Sub (mask K w ρ) (mask K w [.fresh]) := fun b cs ty fr h => by
  rw [mask_some] at *
  exact ⟨fun hl => h.1 (.inl (see_live.1 hl)), h.2⟩
theorem see_own {b : Nat} {cs : Array Value} {ty : TypeId} {fr : Nat × Nat} (h : w.heap[b]? = some (Obj.cells cs ty fr)) (hb : ¬ K.hid b) : (mask K w [.fresh]).heap[b]? = some (Obj.cells cs ty fr) :=
  mask_some.2 ⟨fun hl => hb (see_live.1 hl), h⟩
theorem OK.see (hk : OK K w ρ hp) : OK K w [.fresh] [.dead] := by
  refine ⟨rfl, fun i b n hi => ?_, fun i j b n m hi => ?_, fun i x hx => ?_, hk.hid, fun i b n hi => ?_⟩
  · cases i <;> simp at hi
  · cases i <;> simp at hi
  · cases i with
    | zero => simp at hx; subst hx; trivial
    | succ i => simp at hx
  · cases i <;> simp at hi
theorem Res.unsee {p : Option Prop} {x v : Value} (h : Res K w [.fresh] [.dead] 0 ⟨p, .val x, [], []⟩ v w') : Res K w ρ hp nid ⟨p, .val x, [], []⟩ v w' := by
  obtain ⟨ρ1, h1, h2⟩ := h
  have hkeep : ∀ b : Nat, b < w.heap.size → w'.heap[b]? = w.heap[b]? := fun b hb => h2.keep b hb fun i n hi => by cases i <;> simp at hi
  exact ⟨ρ, by simpa [Rep] using h1, Eff.foreign h2.size hkeep h2.env⟩
theorem see_bytes {d : D} {v : Value} {ns : List Int} (hk : OK K w ρ hp) (h : Rep K (mask K w ρ) ρ d v) (hb : bytesOfD hp d = some ns) :
    Rep K (mask K w [.fresh]) [.fresh] (rowB ns.length fun i => ns.getD i 0) v ∧ ∀ i, i < ns.length → 0 ≤ ns.getD i 0 ∧ ns.getD i 0 < 256 := by
  unfold bytesOfD at hb
  split at hb
  · cases hb
    simp only [Rep] at h
    subst h
    refine ⟨?_, fun i hi => by simp at hi⟩
    simp only [rowB, Rep]
    exact .inl ⟨by simp, rfl⟩
  · rename_i id off len k cap
    split at hb
    · rename_i cs hk1 hcs
      obtain rfl := Nat.eq_of_beq_eq_true hk1
      split at hb
      · rename_i hle
        have hle := Nat.le_of_ble_eq_true hle
        rw [lenG_eq] at hle
        rw [takeG_eq, dropG_eq] at hb
        obtain ⟨g1, g2⟩ := intsOf_get hb
        obtain ⟨b, n', ho1, hbl⟩ := cellsAt_own hk hcs
        simp only [Rep, ho1] at h
        obtain ⟨c, rfl, hlc, _⟩ := h
        have hr := own_reads hbl
        obtain ⟨vs, ty, q1, q2, q3⟩ := hbl
        have hnh := hk.apart id b n' (own_live ho1)
        have hlen : ns.length = len := by
          rw [← g1]
          simp
          omega
        refine ⟨?_, fun i hi => (g2 i hi).2⟩
        simp only [rowB, Rep]
        refine .inr ⟨b, off, c, by rw [hlen], by omega, fun i hi => ?_⟩
        obtain ⟨e1, _⟩ := g2 i hi
        rw [List.getElem?_take, if_pos (by omega), List.getElem?_drop] at e1
        obtain ⟨x, p1, p2⟩ := hr _ _ e1
        simp only [Rep] at p2
        subst p2
        simp only [RepC, and_true]
        refine ⟨.int .u8 (ns.getD i 0), ?_, by simp only [Rep]⟩
        unfold World.cell? at p1 ⊢
        simp only at p1 ⊢
        rw [q1] at p1
        rw [see_own q1 hnh]
        simp only at p1 ⊢
        rw [Nat.mul_one]
        rw [Nat.zero_add] at p1
        exact p1
      · cases hb
    · cases hb
  · rename_i k len f
    split at hb
    · rename_i hk1
      obtain rfl := Nat.eq_of_beq_eq_true hk1
      obtain ⟨g1, g2⟩ := rowInts_get hb
      subst g1
      refine ⟨?_, fun i hi => (g2 i hi).2⟩
      simp only [Rep] at h
      simp only [rowB, Rep]
      rcases h with ⟨h1, h2⟩ | ⟨b, o, c, h1, h2, h3⟩
      · exact .inl ⟨h1, h2⟩
      · refine .inr ⟨b, o, c, h1, h2, fun i hi => ?_⟩
        have h4 := h3 i hi
        have e := (g2 i hi).1
        rw [Nat.zero_add] at e
        rw [e] at h4
        simp only [RepC, and_true] at h4 ⊢
        obtain ⟨x, p1, p2⟩ := h4
        simp only [Rep] at p2
        exact ⟨x, see_sub.cell p1, by simp only [Rep]; exact p2⟩
    · cases hb
  · cases hb
end
end Go.Ev
