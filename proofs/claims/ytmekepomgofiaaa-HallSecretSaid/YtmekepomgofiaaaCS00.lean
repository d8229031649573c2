import Derived.Calls
import Derived.Orders
set_option linter.all false
section
namespace Go.Ev

/-- What a value is, as the evaluator sees it. -/
inductive D where
  | any
  | val (v : Value)
  | ptr (id off : Nat)
  | sl (id off len k : Nat) (cap : Option Nat)
  | row (k len : Nat) (f : Nat → List D)
  | ref (cs : List D) (off : Nat)
  | agg (ds : List D)
  | tup (ds : List D)
  | fn (f : FuncId) (first cap : List D)
  | iface (t : TypeId) (d : D)
  | map (id : Nat)
  | cust (tag : Nat) (q : Rat)
  | emp (z : Bool)
  deriving Inhabited

/-- What became of an own block: not yet made; block b of n cells; given up. -/
inductive Own where
  | fresh
  | live (b n : Nat)
  | dead

/-- every row of cells of M is there in M' -/
def Sub (M M' : World) : Prop := ∀ (b : Nat) (cs : Array Value) (ty : TypeId) (fr : Nat × Nat), M.heap[b]? = some (Obj.cells cs ty fr) → M'.heap[b]? = some (Obj.cells cs ty fr)

/-- it fits into one cell -/
def plain : Value → Bool
  | .agg _ | .tuple _ => false
  | _ => true
/-- values of a kind of one's own -/
structure Cust where
  C : Nat → Rat → World → Value → Prop
  mono : ∀ t q M M' v, Sub M M' → C t q M v → C t q M' v
  one : ∀ t q M v, C t q M v → plain v = true
  /-- blocks that nobody may look at -/
  hid : Nat → Prop

def own (ρ : List Own) (i : Nat) : Own := ρ.getD i .fresh

mutual
def Rep (K : Cust) (M : World) (ρ : List Own) : D → Value → Prop
  | .any, _ => True
  | .val x, v => v = x
  | .ptr id off, v => match own ρ id with
    | .live b _ => v = .pointer (some ⟨b, off, none⟩)
    | .dead => plain v = true
    | .fresh => False
  | .sl id off len k cap, v => match own ρ id with
    | .live b n => ∃ c, v = .slice (some ⟨b, off, none⟩) len c ∧ len ≤ c ∧ off + c * k ≤ n ∧ (match cap with | some c0 => c = c0 | none => off + c * k = n)
    | .dead => plain v = true
    | .fresh => False
  | .row k len f, v => (v = .slice none 0 0 ∧ len = 0) ∨ ∃ b o c, v = .slice (some ⟨b, o, none⟩) len c ∧ len ≤ c ∧ ∀ i, i < len → RepC K M ρ (f i) b (o + i * k)
  | .ref cs off, v => ∃ b o, v = .pointer (some ⟨b, o + off, none⟩) ∧ RepC K M ρ cs b o
  | .agg ds, v => ∃ vs : List Value, v = .agg vs.toArray ∧ RepL K M ρ ds vs
  | .tup ds, v => ∃ vs : List Value, v = .tuple vs.toArray ∧ RepL K M ρ ds vs
  | .fn f first cap, v => ∃ a b : List Value, v = .func (.func f) a.toArray b.toArray ∧ RepL K M ρ first a ∧ RepL K M ρ cap b
  | .iface t d, v => ∃ x, v = .iface t x ∧ Rep K M ρ d x
  | .map id, v => match own ρ id with
    | .live b _ => v = .map (some b)
    | .dead => plain v = true
    | .fresh => False
  | .cust t q, v => K.C t q M v
  | .emp z, v => ∃ b o c, v = .slice (some ⟨b, o, none⟩) 0 c ∧ (z = true → c = 0)
def RepC (K : Cust) (M : World) (ρ : List Own) : List D → Nat → Nat → Prop
  | [], _, _ => True
  | d :: ds, b, o => (∃ x, M.cell? ⟨b, o, none⟩ = some x ∧ Rep K M ρ d x) ∧ RepC K M ρ ds b (o + 1)
def RepL (K : Cust) (M : World) (ρ : List Own) : List D → List Value → Prop
  | [], vs => vs = []
  | d :: ds, vs => ∃ x r, vs = x :: r ∧ Rep K M ρ d x ∧ RepL K M ρ ds r
end

def ole : Own → Own → Prop
  | .fresh, _ => True
  | .live b n, o => o = .live b n ∨ o = .dead
  | .dead, o => o = .dead
def OwnLe (ρ ρ' : List Own) : Prop := ∀ i, ole (own ρ i) (own ρ' i)

theorem Sub.cell {M M' : World} (h : Sub M M') {a : Addr} {v : Value} (hv : M.cell? a = some v) : M'.cell? a = some v := by
  unfold World.cell? at *
  split at hv
  · rename_i c ty fr hb
    rw [h _ _ _ _ hb]
    exact hv
  · cases hv
theorem Sub.refl (M : World) : Sub M M := fun _ _ _ _ h => h
theorem Sub.trans {M M' M'' : World} (h : Sub M M') (h' : Sub M' M'') : Sub M M'' := fun _ _ _ _ g => h' _ _ _ _ (h _ _ _ _ g)

mutual
theorem Rep.mono {K : Cust} {M M' : World} {ρ ρ' : List Own} (hs : Sub M M') (ho : OwnLe ρ ρ') : ∀ (d : D) (v : Value), Rep K M ρ d v → Rep K M' ρ' d v
  | .any, _, _ => trivial
  | .val _, _, h => h
  | .ptr id off, v, h => by
    have o := ho id
    simp only [Rep] at *
    generalize own ρ id = x at *
    generalize own ρ' id = y at *
    cases x
    · exact h.elim
    · rcases o with rfl | rfl
      · exact h
      · subst h; rfl
    · obtain rfl : y = .dead := o
      exact h
  | .sl id off len k cap, v, h => by
    have o := ho id
    simp only [Rep] at *
    generalize own ρ id = x at *
    generalize own ρ' id = y at *
    cases x
    · exact h.elim
    · rcases o with rfl | rfl
      · exact h
      · obtain ⟨c, rfl, _⟩ := h; rfl
    · obtain rfl : y = .dead := o
      exact h
  | .row k len f, v, h => by
    simp only [Rep] at *
    exact h.imp id fun ⟨b, o, c, h1, h2, h3⟩ => ⟨b, o, c, h1, h2, fun i hi => RepC.mono hs ho (f i) b _ (h3 i hi)⟩
  | .ref cs off, v, h => by
    simp only [Rep] at *
    exact let ⟨b, o, h1, h2⟩ := h; ⟨b, o, h1, RepC.mono hs ho cs b o h2⟩
  | .agg ds, v, h => by
    simp only [Rep] at *
    exact let ⟨vs, h1, h2⟩ := h; ⟨vs, h1, RepL.mono hs ho ds vs h2⟩
  | .tup ds, v, h => by
    simp only [Rep] at *
    exact let ⟨vs, h1, h2⟩ := h; ⟨vs, h1, RepL.mono hs ho ds vs h2⟩
  | .fn f a b, v, h => by
    simp only [Rep] at *
    exact let ⟨x, y, h1, h2, h3⟩ := h; ⟨x, y, h1, RepL.mono hs ho a x h2, RepL.mono hs ho b y h3⟩
  | .iface t d, v, h => by
    simp only [Rep] at *
    exact let ⟨x, h1, h2⟩ := h; ⟨x, h1, Rep.mono hs ho d x h2⟩
  | .map id, v, h => by
    have o := ho id
    simp only [Rep] at *
    generalize own ρ id = x at *
    generalize own ρ' id = y at *
    cases x
    · exact h.elim
    · rcases o with rfl | rfl
      · exact h
      · subst h; rfl
    · obtain rfl : y = .dead := o
      exact h
  | .cust t q, v, h => by
    simp only [Rep] at *
    exact K.mono _ _ _ _ _ hs h
  | .emp z, v, h => by
    simp only [Rep] at *
    exact h
theorem RepC.mono {K : Cust} {M M' : World} {ρ ρ' : List Own} (hs : Sub M M') (ho : OwnLe ρ ρ') : ∀ (ds : List D) (b o : Nat), RepC K M ρ ds b o → RepC K M' ρ' ds b o
  | [], _, _, _ => by simp only [RepC]
  | d :: ds, b, o, h => by
    simp only [RepC] at *
    exact let ⟨⟨x, h1, h2⟩, h3⟩ := h; ⟨⟨x, hs.cell h1, Rep.mono hs ho d x h2⟩, RepC.mono hs ho ds b (o + 1) h3⟩
theorem RepL.mono {K : Cust} {M M' : World} {ρ ρ' : List Own} (hs : Sub M M') (ho : OwnLe ρ ρ') : ∀ (ds : List D) (vs : List Value), RepL K M ρ ds vs → RepL K M' ρ' ds vs
  | [], _, h => by simpa only [RepL] using h
  | d :: ds, vs, h => by
    simp only [RepL] at *
    exact let ⟨x, r, h1, h2, h3⟩ := h; ⟨x, r, h1, Rep.mono hs ho d x h2, RepL.mono hs ho ds r h3⟩
end

def isLive (K : Cust) (ρ : List Own) (b : Nat) : Prop := K.hid b ∨ ∃ i n : Nat, ρ[i]? = some (Own.live b n)
open Classical in
/-- the world without the own blocks, and without the hidden ones -/
noncomputable def mask (K : Cust) (w : World) (ρ : List Own) : World := { w with heap := w.heap.mapIdx fun i o => if isLive K ρ i then .pending #[] 0 else o }
theorem mask_some {K : Cust} {w : World} {ρ : List Own} {b : Nat} {cs : Array Value} {ty : TypeId} {fr : Nat × Nat} :
    (mask K w ρ).heap[b]? = some (Obj.cells cs ty fr) ↔ ¬ isLive K ρ b ∧ w.heap[b]? = some (Obj.cells cs ty fr) := by
  unfold mask
  simp only [Array.getElem?_mapIdx]
  cases w.heap[b]? with
  | none => simp
  | some o =>
    simp only [Option.map_some, Option.some.injEq]
    split <;> simp_all
theorem mask_sub (K : Cust) (w : World) (ρ : List Own) : Sub (mask K w ρ) w := fun _ _ _ _ h => (mask_some.1 h).2

end Go.Ev
end
section
namespace Go.Ev
inductive Blk where
  | dead
  | cells (cs : List D)
  | map (es : List (Value × D))
  /-- n cells, told by a function -/
  | arr (n : Nat) (f : Nat → D)
  deriving Inhabited

def ReadsL (K : Cust) (M : World) (ρ : List Own) (cs : List D) (vs : Array Value) : Prop := ∀ (j : Nat) (d : D), cs[j]? = some d → ∃ x, vs[j]? = some x ∧ Rep K M ρ d x
/-- none of a block's cells is one that a string shares -/
def thaw (n : Nat) (fr : Nat × Nat) : Prop := fr = (0, 0) ∨ fr = (n, n + 1)
theorem thaw_not {n o : Nat} {fr : Nat × Nat} (h : thaw n fr) (ho : o < n) : (decide (fr.1 ≤ o) && decide (o < fr.2)) = false := by
  rcases h with rfl | rfl <;> simp <;> omega
/-- what block o holds -/
def RepB (K : Cust) (w M : World) (ρ : List Own) : Own → Blk → Prop
  | _, .dead => True
  | .live b n, .cells cs => ∃ (vs : Array Value) (ty : TypeId × Nat × Nat), w.heap[b]? = some (Obj.cells vs ty.1 ty.2) ∧ (vs.size = n ∧ thaw vs.size ty.2) ∧ ReadsL K M ρ cs vs
  | .live b n, .map es => ∃ ents clock, w.heap[b]? = some (Obj.map ents clock) ∧ n = 0 ∧ es.length = ents.size ∧ ∀ (j : Nat) (k : Value) (d : D), es[j]? = some (k, d) → ∃ e, ents[j]? = some e ∧ e.key = k ∧ Rep K M ρ d e.val
  | .live b m, .arr n f => ∃ (vs : Array Value) (ty : TypeId × Nat × Nat), w.heap[b]? = some (Obj.cells vs ty.1 ty.2) ∧ (vs.size = m ∧ thaw vs.size ty.2) ∧ n ≤ m ∧ ∀ j : Nat, j < n → ∃ x, vs[j]? = some x ∧ Rep K M ρ (f j) x
  | _, _ => False

structure OK (K : Cust) (w : World) (ρ : List Own) (hp : List Blk) : Prop where
  len : ρ.length = hp.length
  lt : ∀ i b n : Nat, ρ[i]? = some (Own.live b n) → b < w.heap.size
  inj : ∀ i j b n m : Nat, ρ[i]? = some (Own.live b n) → ρ[j]? = some (Own.live b m) → i = j
  blk : ∀ (i : Nat) (x : Blk), hp[i]? = some x → RepB K w (mask K w ρ) ρ (own ρ i) x
  hid : ∀ b, K.hid b → b < w.heap.size
  apart : ∀ i b n : Nat, ρ[i]? = some (Own.live b n) → ¬ K.hid b

def Le (hp hp2 : List Blk) : Prop := hp.length = hp2.length ∧ ∀ i : Nat, hp[i]? = hp2[i]? ∨ hp[i]? = some .dead
theorem Le.refl (hp : List Blk) : Le hp hp := ⟨rfl, fun _ => .inl rfl⟩
def app (δ : List (Nat × Blk)) (hp : List Blk) : List Blk := δ.foldl (fun h x => h.set x.1 x.2) hp
@[simp] theorem app_length (δ : List (Nat × Blk)) : ∀ hp, (app δ hp).length = hp.length := by
  induction δ with
  | nil => intro hp; rfl
  | cons x l ih => intro hp; simp only [app, List.foldl_cons] at *; rw [ih]; simp

/-- what is beside the memory is as it was -/
def Env (w w' : World) : Prop := w'.os = w.os ∧ w'.tape = w.tape ∧ w'.output = w.output
theorem Env.refl (w : World) : Env w w := ⟨rfl, rfl, rfl⟩
theorem Env.trans {w w' w'' : World} (h : Env w w') (h' : Env w' w'') : Env w w'' := ⟨h'.1.trans h.1, h'.2.1.trans h.2.1, h'.2.2.trans h.2.2⟩
/-- what an operation has done -/
structure Eff (K : Cust) (w : World) (ρ : List Own) (hp : List Blk) (nid : Nat) (w' : World) (ρ' : List Own) (δ : List (Nat × Blk)) (g : List Blk) : Prop where
  size : w.heap.size ≤ w'.heap.size
  keep : ∀ b : Nat, b < w.heap.size → (∀ i n : Nat, ρ[i]? = some (Own.live b n) → hp[i]? = some .dead) → w'.heap[b]? = w.heap[b]?
  new : ∀ b, isLive K ρ' b → isLive K ρ b ∨ w.heap.size ≤ b
  len : ρ'.length = ρ.length + g.length
  le : OwnLe ρ ρ'
  ok : ∀ hp2, Le hp hp2 → OK K w ρ hp2 → OK K w' ρ' (app δ hp2 ++ g)
  /-- what is not seen stays as it is -/
  hid : ∀ i : Nat, hp[i]? = some .dead → ρ[i]? ≠ some Own.fresh → (∀ x ∈ δ, x.1 ≠ i) ∧ ρ'[i]? = ρ[i]?
  fr : ∀ i : Nat, ρ[i]? = some Own.fresh → i ≠ nid → ρ'[i]? = some Own.fresh
  env : Env w w'

theorem own_some {ρ : List Own} {i b n : Nat} (h : ρ[i]? = some (Own.live b n)) : own ρ i = .live b n := by
  unfold own; rw [List.getD_eq_getElem?_getD, h]; rfl
theorem own_live {ρ : List Own} {i b n : Nat} (h : own ρ i = .live b n) : ρ[i]? = some (Own.live b n) := by
  unfold own at h; rw [List.getD_eq_getElem?_getD] at h
  cases hh : ρ[i]? with
  | none => rw [hh] at h; cases h
  | some o => rw [hh] at h; simp at h; rw [h]

theorem lt_of_cells {w : World} {b : Nat} {o : Obj} (h : w.heap[b]? = some o) : b < w.heap.size := by
  rcases Nat.lt_or_ge b w.heap.size with h' | h'
  · exact h'
  · rw [Array.getElem?_eq_none h'] at h; cases h

theorem Eff.sub {nid : Nat} {K : Cust} {w w' : World} {ρ ρ' : List Own} {hp : List Blk} {δ : List (Nat × Blk)} {g : List Blk} (h : Eff K w ρ hp nid w' ρ' δ g) : Sub (mask K w ρ) (mask K w' ρ') := by
  intro b cs ty fr hb
  rw [mask_some] at hb ⊢
  refine ⟨fun hl => ?_, ?_⟩
  · rcases h.new b hl with hl | hl
    · exact hb.1 hl
    · exact absurd (lt_of_cells hb.2) (Nat.not_lt.2 hl)
  · rw [h.keep b (lt_of_cells hb.2) (fun i n hi => absurd (.inr ⟨i, n, hi⟩) hb.1)]
    exact hb.2
theorem OwnLe.refl (ρ : List Own) : OwnLe ρ ρ := fun i => by
  cases own ρ i <;> simp [ole]
theorem OwnLe.trans {ρ ρ' ρ'' : List Own} (h : OwnLe ρ ρ') (h' : OwnLe ρ' ρ'') : OwnLe ρ ρ'' := fun i => by
  have a := h i
  have b := h' i
  generalize own ρ i = x at *
  generalize own ρ' i = y at *
  generalize own ρ'' i = z at *
  cases x
  · trivial
  · rcases a with rfl | rfl
    · exact b
    · exact .inr b
  · obtain rfl : y = .dead := a
    exact b

theorem ReadsL.mono {K : Cust} {M M' : World} {ρ ρ' : List Own} (hs : Sub M M') (ho : OwnLe ρ ρ') {cs : List D} {vs : Array Value} (h : ReadsL K M ρ cs vs) : ReadsL K M' ρ' cs vs :=
  fun j d hj => let ⟨x, h1, h2⟩ := h j d hj; ⟨x, h1, Rep.mono hs ho _ _ h2⟩
theorem RepB.mono {K : Cust} {w w' M M' : World} {ρ ρ' : List Own} (hs : Sub M M') (ho : OwnLe ρ ρ') {o : Own} {x : Blk} (hw : ∀ b n, o = Own.live b n → w'.heap[b]? = w.heap[b]?)
    (h : RepB K w M ρ o x) : RepB K w' M' ρ' o x := by
  cases x with
  | dead => cases o <;> trivial
  | cells cs =>
    cases o with
    | live b n =>
      obtain ⟨vs, ty, h1, h2, h3⟩ := h
      exact ⟨vs, ty, (hw b n rfl).trans h1, h2, h3.mono hs ho⟩
    | _ => exact h.elim
  | map es =>
    cases o with
    | live b n =>
      obtain ⟨vs, cl, h1, h2, h3, h4⟩ := h
      exact ⟨vs, cl, (hw b n rfl).trans h1, h2, h3, fun j k d hj => let ⟨e, g1, g2, g3⟩ := h4 j k d hj; ⟨e, g1, g2, Rep.mono hs ho _ _ g3⟩⟩
    | _ => exact h.elim
  | arr n f =>
    cases o with
    | live b m =>
      obtain ⟨vs, ty, h1, h2, h3, h4⟩ := h
      exact ⟨vs, ty, (hw b m rfl).trans h1, h2, h3, fun j hj => let ⟨x, q1, q2⟩ := h4 j hj; ⟨x, q1, Rep.mono hs ho _ _ q2⟩⟩
    | _ => exact h.elim

/-- nothing -/
theorem Eff.no {nid : Nat} {K : Cust} {w w' : World} {ρ : List Own} {hp : List Blk} (h : w'.heap = w.heap) (he : Env w w' := by exact ⟨rfl, rfl, rfl⟩) : Eff K w ρ hp nid w' ρ [] [] where
  size := by rw [h]; exact Nat.le_refl _
  keep := fun b _ _ => by rw [h]
  new := fun b hb => .inl hb
  len := rfl
  le := OwnLe.refl ρ
  ok := fun hp2 _ hk => by
    rw [List.append_nil]
    have hm : Sub (mask K w ρ) (mask K w' ρ) := fun b cs ty fr hb => by rw [mask_some] at *; rw [h]; exact hb
    refine ⟨hk.len, fun i b n hi => h ▸ hk.lt i b n hi, hk.inj, fun i x hx => (hk.blk i x hx).mono hm (OwnLe.refl ρ) (fun b n _ => by rw [h]), fun b hb => h ▸ hk.hid b hb, hk.apart⟩
  hid := fun i _ _ => ⟨fun x hx => (by cases hx), rfl⟩
  fr := fun i h _ => h
  env := he

theorem own_set {ρ : List Own} {i j : Nat} {o : Own} (hi : i < ρ.length) : own (ρ.set i o) j = if i = j then o else own ρ j := by
  unfold own
  simp only [List.getD_eq_getElem?_getD, List.getElem?_set]
  split
  · simp [hi]
  · rfl

theorem fresh_le {ρ : List Own} {i : Nat} {o : Own} (h : ρ[i]? = some Own.fresh) : OwnLe ρ (ρ.set i o) := fun j => by
  have hi : i < ρ.length := by
    rcases Nat.lt_or_ge i ρ.length with h' | h'
    · exact h'
    · rw [List.getElem?_eq_none h'] at h; cases h
  rw [own_set hi]
  split
  · rename_i e
    subst e
    unfold own
    rw [List.getD_eq_getElem?_getD, h]
    trivial
  · exact OwnLe.refl ρ j

/-- a new block of one's own -/
theorem Eff.new_block {K : Cust} {w w' : World} {ρ : List Own} {hp : List Blk} {nid n : Nat} {o : Obj} {x : Blk} (hw : w'.heap = w.heap.push o)
    (hn : ρ[nid]? = some Own.fresh) (hlt : ∀ i b n : Nat, ρ[i]? = some (Own.live b n) → b < w.heap.size)
    (hx : Sub (mask K w ρ) (mask K w' (ρ.set nid (.live w.heap.size n))) → RepB K w' (mask K w' (ρ.set nid (.live w.heap.size n))) (ρ.set nid (.live w.heap.size n)) (.live w.heap.size n) x) (he : Env w w' := by exact ⟨rfl, rfl, rfl⟩) :
    Eff K w ρ hp nid w' (ρ.set nid (.live w.heap.size n)) [(nid, x)] [] := by
  have hi : nid < ρ.length := by
    rcases Nat.lt_or_ge nid ρ.length with h' | h'
    · exact h'
    · rw [List.getElem?_eq_none h'] at hn; cases hn
  have hkeep : ∀ b : Nat, b < w.heap.size → w'.heap[b]? = w.heap[b]? := fun b hb => by
    rw [hw, Array.getElem?_push_lt hb, Array.getElem?_eq_getElem hb]
  have hnew : ∀ b, isLive K (ρ.set nid (.live w.heap.size n)) b → isLive K ρ b ∨ w.heap.size ≤ b := by
    rintro b (hh | ⟨i, m, h⟩)
    · exact .inl (.inl hh)
    rw [List.getElem?_set] at h
    split at h
    · simp [hi] at h
      exact .inr (by omega)
    · exact .inl (.inr ⟨i, m, h⟩)
  have hle : OwnLe ρ (ρ.set nid (.live w.heap.size n)) := fresh_le hn
  have hsub : Sub (mask K w ρ) (mask K w' (ρ.set nid (.live w.heap.size n))) := by
    intro b cs ty fr hb
    rw [mask_some] at hb ⊢
    refine ⟨fun hl => ?_, ?_⟩
    · rcases hnew b hl with hl | hl
      · exact hb.1 hl
      · exact absurd (lt_of_cells hb.2) (Nat.not_lt.2 hl)
    · rw [hkeep b (lt_of_cells hb.2)]; exact hb.2
  refine ⟨by rw [hw]; simp, fun b hb _ => hkeep b hb, hnew, by simp, hle, fun hp2 _ hk => ?_, fun i h1 h2 => ?_, fun i h1 h2 => by rw [List.getElem?_set, if_neg (Ne.symm h2)]; exact h1, he⟩
  rotate_left
  · have hne : nid ≠ i := fun e => h2 (e ▸ hn)
    refine ⟨fun y hy => ?_, by rw [List.getElem?_set, if_neg hne]⟩
    rw [List.mem_singleton] at hy
    subst hy
    exact hne
  rw [List.append_nil]
  refine ⟨by simp [app, hk.len], fun i b m h => ?_, fun i j b m m' h1 h2 => ?_, fun i y hy => ?_, fun b hb => ?_, fun i b m h hh => ?_⟩
  rotate_right 2
  · have := hk.hid b hb
    rw [hw, Array.size_push]
    omega
  · rw [List.getElem?_set] at h
    split at h
    · simp [hi] at h
      have := hk.hid b hh
      omega
    · exact hk.apart i b m h hh
  · rw [List.getElem?_set] at h
    rw [hw, Array.size_push]
    split at h
    · simp [hi] at h; omega
    · have := hk.lt i b m h; omega
  · rw [List.getElem?_set] at h1 h2
    split at h1 <;> split at h2
    · omega
    · simp [hi] at h1
      have := hlt _ _ _ h2
      omega
    · simp [hi] at h2
      have := hlt _ _ _ h1
      omega
    · exact hk.inj i j b m m' h1 h2
  · simp only [app, List.foldl_cons, List.foldl_nil, List.getElem?_set] at hy
    rw [own_set hi]
    split at hy
    · rename_i e
      rw [if_pos e]
      have : y = x := by
        split at hy
        · exact (Option.some.inj hy).symm
        · cases hy
      rw [this]
      exact hx hsub
    · rename_i e
      rw [if_neg e]
      refine (hk.blk i y hy).mono hsub hle fun b m hb => hkeep b ?_
      exact hk.lt i b m (own_live hb)

/-- an own block has other contents -/
theorem Eff.write {nid : Nat} {K : Cust} {w w' : World} {ρ : List Own} {hp : List Blk} {id b n : Nat} {o : Obj} {x : Blk} (hi : ρ[id]? = some (Own.live b n)) (hv : hp[id]? ≠ some .dead)
    (hw : w'.heap = w.heap.set! b o) (hk0 : OK K w ρ hp) 
    (hx : Sub (mask K w ρ) (mask K w' ρ) → RepB K w' (mask K w' ρ) ρ (.live b n) x) (he : Env w w' := by exact ⟨rfl, rfl, rfl⟩) :
    Eff K w ρ hp nid w' ρ [(id, x)] [] := by
  have hb := hk0.lt id b n hi
  have hkeep : ∀ c : Nat, c ≠ b → w'.heap[c]? = w.heap[c]? := fun c hc => by
    rw [hw, Array.set!_eq_setIfInBounds, Array.getElem?_setIfInBounds_ne (Ne.symm hc)]
  have hsub : Sub (mask K w ρ) (mask K w' ρ) := by
    intro c cs ty fr hc
    rw [mask_some] at hc ⊢
    refine ⟨hc.1, ?_⟩
    rw [hkeep c (fun e => hc.1 (e ▸ .inr ⟨id, n, hi⟩))]
    exact hc.2
  have hidl : id < ρ.length := by
    rcases Nat.lt_or_ge id ρ.length with h' | h'
    · exact h'
    · rw [List.getElem?_eq_none h'] at hi; cases hi
  refine ⟨by rw [hw]; simp, fun c _ hc => hkeep c (fun e => hv (hc id n (e ▸ hi))), fun c hc => .inl hc, rfl, OwnLe.refl ρ, fun hp2 hle hk => ?_, fun i h1 h2 => ⟨fun y hy => ?_, rfl⟩, fun i h1 _ => h1, he⟩
  rotate_left
  · rw [List.mem_singleton] at hy
    subst hy
    rintro rfl
    exact hv h1
  rw [List.append_nil]
  refine ⟨by simp [app, hk.len], fun i c m h => ?_, hk.inj, fun i y hy => ?_, fun b hb => by rw [hw]; simpa using hk.hid b hb, hk.apart⟩
  · have := hk.lt i c m h
    rw [hw]; simp; exact this
  · simp only [app, List.foldl_cons, List.foldl_nil, List.getElem?_set] at hy
    split at hy
    · rename_i e
      subst e
      have : y = x := by
        split at hy
        · exact (Option.some.inj hy).symm
        · cases hy
      rw [this, own_some hi]
      exact hx hsub
    · rename_i e
      refine (hk.blk i y hy).mono hsub (OwnLe.refl ρ) fun c m hc => hkeep c ?_
      intro e2
      subst e2
      exact e (hk.inj _ _ _ _ _ hi (own_live hc))
end Go.Ev
end
