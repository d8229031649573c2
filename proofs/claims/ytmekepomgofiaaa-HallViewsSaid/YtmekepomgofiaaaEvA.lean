import Derived.Calls
import Derived.Orders
set_option linter.all false
namespace Go.Ev

/-- What a value is, as the evaluator sees it. -/
inductive D where
  | any
  | val (v : Value)
  | ptr (id off : Nat)
  | sl (id off len k : Nat) (cap : Option Nat)
  | row (k len : Nat) (f : Nat → List D)
  | ref (cs : List D) (off : Nat)
  | agg (ds : List D)
  | tup (ds : List D)
  | fn (f : FuncId) (first cap : List D)
  | iface (t : TypeId) (d : D)
  | map (id : Nat)
  | cust (tag : Nat) (q : Rat)
  | emp (z : Bool)
  deriving Inhabited

/-- What became of an own block: not yet made; block b of n cells; given up. -/
inductive Own where
  | fresh
  | live (b n : Nat)
  | dead

/-- every row of cells of M is there in M' -/
def Sub (M M' : World) : Prop := ∀ (b : Nat) (cs : Array Value) (ty : TypeId) (fr : Nat × Nat), M.heap[b]? = some (Obj.cells cs ty fr) → M'.heap[b]? = some (Obj.cells cs ty fr)

/-- it fits into one cell -/
def plain : Value → Bool
  | .agg _ | .tuple _ => false
  | _ => true
/-- values of a kind of one's own -/
structure Cust where
  C : Nat → Rat → World → Value → Prop
  mono : ∀ t q M M' v, Sub M M' → C t q M v → C t q M' v
  one : ∀ t q M v, C t q M v → plain v = true
  /-- blocks that nobody may look at -/
  hid : Nat → Prop

def own (ρ : List Own) (i : Nat) : Own := ρ.getD i .fresh

mutual
def Rep (K : Cust) (M : World) (ρ : List Own) : D → Value → Prop
  | .any, _ => True
  | .val x, v => v = x
  | .ptr id off, v => match own ρ id with
    | .live b _ => v = .pointer (some ⟨b, off, none⟩)
    | .dead => plain v = true
    | .fresh => False
  | .sl id off len k cap, v => match own ρ id with
    | .live b n => ∃ c, v = .slice (some ⟨b, off, none⟩) len c ∧ len ≤ c ∧ off + c * k ≤ n ∧ (match cap with | some c0 => c = c0 | none => off + c * k = n)
    | .dead => plain v = true
    | .fresh => False
  | .row k len f, v => (v = .slice none 0 0 ∧ len = 0) ∨ ∃ b o c, v = .slice (some ⟨b, o, none⟩) len c ∧ len ≤ c ∧ ∀ i, i < len → RepC K M ρ (f i) b (o + i * k)
  | .ref cs off, v => ∃ b o, v = .pointer (some ⟨b, o + off, none⟩) ∧ RepC K M ρ cs b o
  | .agg ds, v => ∃ vs : List Value, v = .agg vs.toArray ∧ RepL K M ρ ds vs
  | .tup ds, v => ∃ vs : List Value, v = .tuple vs.toArray ∧ RepL K M ρ ds vs
  | .fn f first cap, v => ∃ a b : List Value, v = .func (.func f) a.toArray b.toArray ∧ RepL K M ρ first a ∧ RepL K M ρ cap b
  | .iface t d, v => ∃ x, v = .iface t x ∧ Rep K M ρ d x
  | .map id, v => match own ρ id with
    | .live b _ => v = .map (some b)
    | .dead => plain v = true
    | .fresh => False
  | .cust t q, v => K.C t q M v
  | .emp z, v => ∃ b o c, v = .slice (some ⟨b, o, none⟩) 0 c ∧ (z = true → c = 0)
def RepC (K : Cust) (M : World) (ρ : List Own) : List D → Nat → Nat → Prop
  | [], _, _ => True
  | d :: ds, b, o => (∃ x, M.cell? ⟨b, o, none⟩ = some x ∧ Rep K M ρ d x) ∧ RepC K M ρ ds b (o + 1)
def RepL (K : Cust) (M : World) (ρ : List Own) : List D → List Value → Prop
  | [], vs => vs = []
  | d :: ds, vs => ∃ x r, vs = x :: r ∧ Rep K M ρ d x ∧ RepL K M ρ ds r
end

def ole : Own → Own → Prop
  | .fresh, _ => True
  | .live b n, o => o = .live b n ∨ o = .dead
  | .dead, o => o = .dead
def OwnLe (ρ ρ' : List Own) : Prop := ∀ i, ole (own ρ i) (own ρ' i)

theorem Sub.cell {M M' : World} (h : Sub M M') {a : Addr} {v : Value} (hv : M.cell? a = some v) : M'.cell? a = some v := by
  unfold World.cell? at *
  split at hv
  · rename_i c ty fr hb
    rw [h _ _ _ _ hb]
    exact hv
  · cases hv
theorem Sub.refl (M : World) : Sub M M := fun _ _ _ _ h => h
theorem Sub.trans {M M' M'' : World} (h : Sub M M') (h' : Sub M' M'') : Sub M M'' := fun _ _ _ _ g => h' _ _ _ _ (h _ _ _ _ g)

mutual
theorem Rep.mono {K : Cust} {M M' : World} {ρ ρ' : List Own} (hs : Sub M M') (ho : OwnLe ρ ρ') : ∀ (d : D) (v : Value), Rep K M ρ d v → Rep K M' ρ' d v
  | .any, _, _ => trivial
  | .val _, _, h => h
  | .ptr id off, v, h => by
    have o := ho id
    simp only [Rep] at *
    generalize own ρ id = x at *
    generalize own ρ' id = y at *
    cases x
    · exact h.elim
    · rcases o with rfl | rfl
      · exact h
      · subst h; rfl
    · obtain rfl : y = .dead := o
      exact h
  | .sl id off len k cap, v, h => by
    have o := ho id
    simp only [Rep] at *
    generalize own ρ id = x at *
    generalize own ρ' id = y at *
    cases x
    · exact h.elim
    · rcases o with rfl | rfl
      · exact h
      · obtain ⟨c, rfl, _⟩ := h; rfl
    · obtain rfl : y = .dead := o
      exact h
  | .row k len f, v, h => by
    simp only [Rep] at *
    exact h.imp id fun ⟨b, o, c, h1, h2, h3⟩ => ⟨b, o, c, h1, h2, fun i hi => RepC.mono hs ho (f i) b _ (h3 i hi)⟩
  | .ref cs off, v, h => by
    simp only [Rep] at *
    exact let ⟨b, o, h1, h2⟩ := h; ⟨b, o, h1, RepC.mono hs ho cs b o h2⟩
  | .agg ds, v, h => by
    simp only [Rep] at *
    exact let ⟨vs, h1, h2⟩ := h; ⟨vs, h1, RepL.mono hs ho ds vs h2⟩
  | .tup ds, v, h => by
    simp only [Rep] at *
    exact let ⟨vs, h1, h2⟩ := h; ⟨vs, h1, RepL.mono hs ho ds vs h2⟩
  | .fn f a b, v, h => by
    simp only [Rep] at *
    exact let ⟨x, y, h1, h2, h3⟩ := h; ⟨x, y, h1, RepL.mono hs ho a x h2, RepL.mono hs ho b y h3⟩
  | .iface t d, v, h => by
    simp only [Rep] at *
    exact let ⟨x, h1, h2⟩ := h; ⟨x, h1, Rep.mono hs ho d x h2⟩
  | .map id, v, h => by
    have o := ho id
    simp only [Rep] at *
    generalize own ρ id = x at *
    generalize own ρ' id = y at *
    cases x
    · exact h.elim
    · rcases o with rfl | rfl
      · exact h
      · subst h; rfl
    · obtain rfl : y = .dead := o
      exact h
  | .cust t q, v, h => by
    simp only [Rep] at *
    exact K.mono _ _ _ _ _ hs h
  | .emp z, v, h => by
    simp only [Rep] at *
    exact h
theorem RepC.mono {K : Cust} {M M' : World} {ρ ρ' : List Own} (hs : Sub M M') (ho : OwnLe ρ ρ') : ∀ (ds : List D) (b o : Nat), RepC K M ρ ds b o → RepC K M' ρ' ds b o
  | [], _, _, _ => by simp only [RepC]
  | d :: ds, b, o, h => by
    simp only [RepC] at *
    exact let ⟨⟨x, h1, h2⟩, h3⟩ := h; ⟨⟨x, hs.cell h1, Rep.mono hs ho d x h2⟩, RepC.mono hs ho ds b (o + 1) h3⟩
theorem RepL.mono {K : Cust} {M M' : World} {ρ ρ' : List Own} (hs : Sub M M') (ho : OwnLe ρ ρ') : ∀ (ds : List D) (vs : List Value), RepL K M ρ ds vs → RepL K M' ρ' ds vs
  | [], _, h => by simpa only [RepL] using h
  | d :: ds, vs, h => by
    simp only [RepL] at *
    exact let ⟨x, r, h1, h2, h3⟩ := h; ⟨x, r, h1, Rep.mono hs ho d x h2, RepL.mono hs ho ds r h3⟩
end

def isLive (K : Cust) (ρ : List Own) (b : Nat) : Prop := K.hid b ∨ ∃ i n : Nat, ρ[i]? = some (Own.live b n)
open Classical in
/-- the world without the own blocks, and without the hidden ones -/
noncomputable def mask (K : Cust) (w : World) (ρ : List Own) : World := { w with heap := w.heap.mapIdx fun i o => if isLive K ρ i then .pending #[] 0 else o }
theorem mask_some {K : Cust} {w : World} {ρ : List Own} {b : Nat} {cs : Array Value} {ty : TypeId} {fr : Nat × Nat} :
    (mask K w ρ).heap[b]? = some (Obj.cells cs ty fr) ↔ ¬ isLive K ρ b ∧ w.heap[b]? = some (Obj.cells cs ty fr) := by
  unfold mask
  simp only [Array.getElem?_mapIdx]
  cases w.heap[b]? with
  | none => simp
  | some o =>
    simp only [Option.map_some, Option.some.injEq]
    split <;> simp_all
theorem mask_sub (K : Cust) (w : World) (ρ : List Own) : Sub (mask K w ρ) w := fun _ _ _ _ h => (mask_some.1 h).2

end Go.Ev
