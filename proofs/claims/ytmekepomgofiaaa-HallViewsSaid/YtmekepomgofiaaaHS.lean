/- HallViews tells true of every input: what the program lets a customer see is what the reference sees. -/
import Derived.Test.YtmekepomgofiaaaRows
import Derived.Test.YtmekepomgofiaaaHE
import Derived.ProofKit
import Derived.Lib.SmallJoins
import Derived.Carry
import Derived.Deep.Strs
import Derived.Deep.Slices
set_option linter.all false
open Go Go.Ev Go.RowKit
namespace Go.Ev
set_option maxRecDepth 100000
set_option linter.all false
/-- what a law that tells true does, from any arguments that are told -/
theorem calls_true {f : FuncId} {ds : List D} {vs : List Value} {w : World} (ha : Alone PG f ds (.val (.bool true))) (hr : RepL noCust (mask noCust w [.fresh]) [.fresh] ds vs) :
    Calls PG f vs.toArray w fun e w' => e = .returned (.bool true) ∧ Below w.heap.size w w' := by
  have hk : OK noCust w [.fresh] [.dead] := by
    refine ⟨rfl, fun i b n hi => ?_, fun i j b n m hi => ?_, fun i x hx => ?_, fun _ h => h.elim, fun _ _ _ _ h => h⟩
    · cases i <;> simp at hi
    · cases i <;> simp at hi
    · cases i with
      | zero => simp at hx; subst hx; trivial
      | succ i => simp at hx
  refine (ha noCust w vs hk hr).mono fun e w' he => ?_
  obtain ⟨v, rfl, ρ', hv, hE⟩ := he
  simp only [Rep] at hv
  subst hv
  refine ⟨rfl, hE.env.1, hE.env.2.1, hE.env.2.2, hE.size, fun b hb => hE.keep b hb fun i n hi => ?_⟩
  cases i <;> simp at hi
theorem see_cell {w : World} {b o : Nat} {v : Value} (h : w.cell? ⟨b, o, none⟩ = some v) : (mask noCust w [.fresh]).cell? ⟨b, o, none⟩ = some v := by
  have hsub : ∀ cs ty fr, w.heap[b]? = some (Obj.cells cs ty fr) → (mask noCust w [.fresh]).heap[b]? = some (Obj.cells cs ty fr) := fun cs ty fr h => by
    rw [mask_some]
    refine ⟨?_, h⟩
    rintro (hh | ⟨i, n, hi⟩)
    · exact hh.elim
    · cases i <;> simp at hi
  unfold World.cell? at *
  simp only at *
  split at h
  · rename_i cs ty fr hh
    rw [hsub _ _ _ hh]
    exact h
  · cases h
end Go.Ev
namespace Go.Proofs.Ytmekepomgofiaaa
open Go.ChangeShapes Go.WideShapes Go.ChangeAt Go.RowKit Go.Ev Go.Deep Go.Joins
theorem Try.own : ownKnob Try.prog.godebug = Option.none := by kernel_rfl
theorem Try.laidOut : laidOutB Try.prog = true := by kernel_rfl
set_option maxRecDepth 100000
set_option linter.all false
section
variable {H : Type} {enc : TypeId × Value → H} {w : World}
theorem add_none (b o i : Nat) : Addr.add ⟨b, o, none⟩ i = ⟨b, o + i, none⟩ := by
  unfold Addr.add
  split
  · rename_i h0; subst h0; rfl
  · rfl
theorem ints_open {fuel b0 : Nat} {v : Value} {y : DataW H × List MemPlace} (hval : Cell.okWide Try.prog w .any b0 22 v) (h : DataW.trod enc Try.prog w 0 (fun _ => true) true fuel 22 [v] = some y) :
    ∃ (n : Nat) (f : Nat → Int), Rep noCust (mask noCust w [.fresh]) [.fresh] (rowI n f) v := by
  rcases open_slice1 Try.underlying22 (by kernel_rfl) h with ⟨e, -⟩ | ⟨a, len, cap, m, n, V, D, Pl, e, hb, hl, hm, hmm, -, hx⟩
  · simp only [List.cons.injEq, and_true] at e
    subst e
    refine ⟨0, fun _ => 0, ?_⟩
    simp only [rowI, Rep]
    exact .inl (by simp)
  · simp only [List.cons.injEq, and_true] at e
    subst e
    simp only [if_true] at hmm
    subst hmm
    have hspot : a.spot = none := by
      simp only [Cell.okWide, Cell.ok, Try.underlying22] at hval
      exact hval.2.2.2.1
    have each : ∀ i, i < len → ∃ x : Int, V i = .int .i64 x := fun i hi => by
      obtain ⟨x, h1, -, -⟩ := DataW.trod_int Try.underlying3 (hx i (by omega)).2
      simp only [List.cons.injEq, and_true] at h1
      exact ⟨x, h1⟩
    obtain ⟨f, hf⟩ := choose_lt each
    refine ⟨len, f, ?_⟩
    obtain ⟨blk, o, sp⟩ := a
    simp only at hspot
    subst hspot
    simp only [rowI, Rep]
    refine .inr ⟨blk, o, _, rfl, hl, fun i hi => ?_⟩
    simp only [RepC, and_true]
    refine ⟨.int .i64 (f i), see_cell ?_, rfl⟩
    rw [← hf i hi, ← (hx i (by omega)).1, Nat.mul_one, add_none]
instance : Inhabited Camp := ⟨⟨0, 0, 0, 0, 0, 0, 0⟩⟩
theorem camps_open {fuel b0 : Nat} {v : Value} {y : DataW H × List MemPlace} (hval : Cell.okWide Try.prog w .any b0 25 v) (h : DataW.trod enc Try.prog w 0 (fun _ => true) true fuel 25 [v] = some y) :
    ∃ (n : Nat) (f : Nat → Camp), Rep noCust (mask noCust w [.fresh]) [.fresh] (rowC n f) v := by
  have hc7 : Try.prog.cellsOf 69 = 7 := by kernel_rfl
  have hc1 : Try.prog.cellsOf 3 = 1 := by kernel_rfl
  rcases open_slice Try.underlying25 h with ⟨e, -⟩ | ⟨a, len, cap, m, n, D, Pl, e, hb, hl, hm, hmm, -, hx⟩
  · simp only [List.cons.injEq, and_true] at e
    subst e
    refine ⟨0, fun _ => default, ?_⟩
    simp only [rowC, Rep]
    exact .inl (by simp)
  · simp only [List.cons.injEq, and_true] at e
    subst e
    simp only [if_true] at hmm
    subst hmm
    have hspot : a.spot = none := by
      simp only [Cell.okWide, Cell.ok, Try.underlying25] at hval
      exact hval.2.2.2.1
    obtain ⟨blk, o, sp⟩ := a
    simp only at hspot
    subst hspot
    have each : ∀ i, i < len → ∃ c : Camp, ∀ j d, (campD c)[j]? = some d → ∃ x, w.cell? ⟨blk, o + i * 7 + j, none⟩ = some x ∧ d = .val x := fun i hi => by
      obtain ⟨cs, h1, h2⟩ := hx i (by omega)
      rw [hc7] at h1
      obtain ⟨-, hlen, hcell⟩ := World.cells?_some h1
      obtain ⟨xs, k, -, -, -, hxl, hf⟩ := DataW.trod_struct Try.underlying69 h2
      have one : ∀ j, j < 7 → ∃ z : Int, cs[j]? = some (.int .i64 z) := fun j hj => by
        have hj2 : ∃ f : Field, (#[{ name := "Customer", type := 3, offset := 0, embedded := false, tag := "", pkgPath := "", byteOffset := 0 }, { name := "Prepare", type := 3, offset := 1, embedded := false, tag := "", pkgPath := "", byteOffset := 8 }, { name := "Hours", type := 3, offset := 2, embedded := false, tag := "", pkgPath := "", byteOffset := 16 }, { name := "Energy", type := 3, offset := 3, embedded := false, tag := "", pkgPath := "", byteOffset := 24 }, { name := "Early", type := 3, offset := 4, embedded := false, tag := "", pkgPath := "", byteOffset := 32 }, { name := "Late", type := 3, offset := 5, embedded := false, tag := "", pkgPath := "", byteOffset := 40 }, { name := "Weight", type := 3, offset := 6, embedded := false, tag := "", pkgPath := "", byteOffset := 48 }] : Array Field)[j]? = some f ∧ f.type = 3 ∧ f.offset = j := by
          rcases j with _ | _ | _ | _ | _ | _ | _ | j
          all_goals first | exact ⟨_, rfl, rfl, rfl⟩ | omega
        obtain ⟨f, hf1, hf2, hf3⟩ := hj2
        have := hf j f hf1
        rw [hf2, hf3, hc1] at this
        have hxj : xs[j]? = some (xs[j]'(by rw [hxl]; exact hj)) := List.getElem?_eq_getElem _
        rw [hxj] at this
        obtain ⟨z, hz, -, -⟩ := DataW.trod_int Try.underlying3 this
        refine ⟨z, ?_⟩
        have h3 : (List.take 1 (List.drop j cs))[0]? = some (.int .i64 z) := by rw [hz]; rfl
        rw [List.getElem?_take_of_lt (by omega), List.getElem?_drop] at h3
        simpa using h3
      obtain ⟨z0, e0⟩ := one 0 (by omega)
      obtain ⟨z1, e1⟩ := one 1 (by omega)
      obtain ⟨z2, e2⟩ := one 2 (by omega)
      obtain ⟨z3, e3⟩ := one 3 (by omega)
      obtain ⟨z4, e4⟩ := one 4 (by omega)
      obtain ⟨z5, e5⟩ := one 5 (by omega)
      obtain ⟨z6, e6⟩ := one 6 (by omega)
      have cell : ∀ j, j < 7 → w.cell? ⟨blk, o + i * 7 + j, none⟩ = cs[j]? := fun j hj => by
        rw [← hcell j hj, add_none, add_none]
      refine ⟨⟨z0, z1, z2, z3, z4, z5, z6⟩, fun j d hd => ?_⟩
      rcases j with _ | _ | _ | _ | _ | _ | _ | j
      · cases hd; exact ⟨_, (cell 0 (by omega)).trans e0, rfl⟩
      · cases hd; exact ⟨_, (cell 1 (by omega)).trans e1, rfl⟩
      · cases hd; exact ⟨_, (cell 2 (by omega)).trans e2, rfl⟩
      · cases hd; exact ⟨_, (cell 3 (by omega)).trans e3, rfl⟩
      · cases hd; exact ⟨_, (cell 4 (by omega)).trans e4, rfl⟩
      · cases hd; exact ⟨_, (cell 5 (by omega)).trans e5, rfl⟩
      · cases hd; exact ⟨_, (cell 6 (by omega)).trans e6, rfl⟩
      · simp [campD] at hd
    obtain ⟨f, hf⟩ := choose_lt each
    refine ⟨len, f, ?_⟩
    simp only [rowC, Rep]
    refine .inr ⟨blk, o, _, rfl, hl, fun i hi => ?_⟩
    have key : ∀ (ds : List Ev.D) (k : Nat), (∀ j d, ds[j]? = some d → ∃ x, w.cell? ⟨blk, k + j, none⟩ = some x ∧ d = .val x) → RepC noCust (mask noCust w [.fresh]) [.fresh] ds blk k := by
      intro ds
      induction ds with
      | nil => intro k _; trivial
      | cons d ds ih =>
        intro k hk
        obtain ⟨x, hx, rfl⟩ := hk 0 d rfl
        refine ⟨⟨x, see_cell hx, rfl⟩, ih (k + 1) fun j d' hd => ?_⟩
        obtain ⟨x', hx', e⟩ := hk (j + 1) d' hd
        exact ⟨x', by rw [← hx']; congr 2; omega, e⟩
    exact key _ _ (hf i hi)
theorem i_open {fuel : Nat} {v : Value} {y : DataW H × List MemPlace} (h : DataW.trod enc Try.prog w 0 (fun _ => true) true fuel 3 [v] = some y) : ∃ x : Int, v = .int .i64 x := by
  obtain ⟨x, h1, -, -⟩ := DataW.trod_int Try.underlying3 h
  simp only [List.cons.injEq, and_true] at h1
  exact ⟨x, h1⟩
theorem hall_open {b0 : Nat} {v : Value} {d : DataW H} {p : List MemPlace} (hval : Value.okWide Try.prog w .any b0 24 v) (h : DataW.Trod enc Try.prog w 0 (fun _ => true) true 24 v d p) :
    ∃ x : Hall, Rep noCust (mask noCust w [.fresh]) [.fresh] (.agg (hallD x)) v := by
  obtain ⟨v0, v1, v2, v3, y0, y1, y2, y3, n, rfl, -, -, h0, h1, h2, h3⟩ := open_agg4 Try.underlying24 (by kernel_rfl) (by kernel_rfl) hval h
  simp only [Value.okWide, Try.underlying24] at hval
  obtain ⟨cs, e, hsz, ts, hts, -, hcell⟩ := hval
  cases e
  obtain rfl : ts = [3, 3, 22, 22] := by
    have : Try.prog.cellTypes Try.prog.depth 24 = some [3, 3, 22, 22] := by kernel_rfl
    rw [this] at hts
    exact (Option.some.inj hts).symm
  obtain ⟨a, rfl⟩ := i_open h0
  obtain ⟨b, rfl⟩ := i_open h1
  obtain ⟨u, hu, ok2⟩ := hcell 2 v2 rfl
  obtain rfl : 22 = u := Option.some.inj hu
  obtain ⟨u, hu, ok3⟩ := hcell 3 v3 rfl
  obtain rfl : 22 = u := Option.some.inj hu
  obtain ⟨n2, f2, r2⟩ := ints_open ok2 h2
  obtain ⟨n3, f3, r3⟩ := ints_open ok3 h3
  refine ⟨⟨a, b, n2, f2, n3, f3⟩, ?_⟩
  simp only [hallD, Rep, RepL]
  exact ⟨[.int .i64 a, .int .i64 b, v2, v3], rfl, _, _, rfl, rfl, _, _, rfl, rfl, _, _, rfl, r2, _, _, rfl, r3, rfl⟩
theorem view_open {b0 : Nat} {v : Value} {d : DataW H} {p : List MemPlace} (hval : Value.okWide Try.prog w .any b0 79 v) (h : DataW.Trod enc Try.prog w 0 (fun _ => true) true 79 v d p) :
    ∃ (m : Nat) (q : Nat → Int) (cu : Int), Rep noCust (mask noCust w [.fresh]) [.fresh] (.agg [rowI m q, i6 cu]) v := by
  obtain ⟨v0, v1, y0, y1, n, rfl, -, -, h0, h1⟩ := open_agg2 Try.underlying79 (by kernel_rfl) (by kernel_rfl) hval h
  simp only [Value.okWide, Try.underlying79] at hval
  obtain ⟨cs, e, hsz, ts, hts, -, hcell⟩ := hval
  cases e
  obtain rfl : ts = [22, 3] := by
    have : Try.prog.cellTypes Try.prog.depth 79 = some [22, 3] := by kernel_rfl
    rw [this] at hts
    exact (Option.some.inj hts).symm
  obtain ⟨b, rfl⟩ := i_open h1
  obtain ⟨u, hu, ok2⟩ := hcell 0 v0 rfl
  obtain rfl : 22 = u := Option.some.inj hu
  obtain ⟨n2, f2, r2⟩ := ints_open ok2 h0
  refine ⟨n2, f2, b, ?_⟩
  simp only [Rep, RepL]
  exact ⟨[v0, .int .i64 b], rfl, _, _, rfl, r2, _, _, rfl, rfl, rfl⟩
end
theorem hallViews_lifted (os : Os) (started : os.Started) (H : Type) (enc : TypeId × Value → H) :
    ReturnsInHanded {} Try.checked os 7 .any (Rows.hallViewsSpec.pre6 enc Try.prog Try.f7 Rows.hallViewsRow.domain false) (Rows.hallViewsSpec.post enc Try.prog Try.f7 false true false false) := by
  refine returnsInHanded_of_change (C := Try.checked) Try.own started (by kernel_rfl) Try.func7
    (ChangeSpec.witness6 (enc := enc) (C := Try.checked) false ⟨#[], #[.agg #[.int .i64 0, .int .i64 0, .slice none 0 0, .slice none 0 0], .slice none 0 0, .agg #[.slice none 0 0, .int .i64 0]], []⟩ 8 (by kernel_rfl) (by kernel_rfl) (by kernel_rfl) (by kernel_rfl)) ?_
  intro W base args ds gs before hval0 hW hcnd _
  have hval : ∀ (j : Nat) t v, Try.f7.params[j]? = some t → args[j]? = some v → Value.okWide Try.prog W .any base t v := hval0
  have hW' := hW
  obtain ⟨p, q, hA0, hV, rfl, hfz, hnd⟩ := hW
  have hA : DataW.TrodAll enc Try.prog W 0 (fun _ => true) true Try.f7.params.toList args.toList ds p := hA0
  rw [Try.params7] at hA hval
  obtain ⟨v1, v2, v3, d1, d2, d3, p1, p2, p3, rfl, rfl, hp, h1, h2, h3⟩ := trodAll_three hA
  obtain ⟨rfl, rfl⟩ := trodVars_none hV
  simp only [List.append_nil] at hW'
  have hlt : ∀ x ∈ p, x.block < W.heap.size := fun x hx => by simpa using hW'.lt x hx
  have m1 : ∀ x ∈ p1, x.block < W.heap.size := fun x hx => hlt x (by rw [hp]; simp [hx])
  have m2 : ∀ x ∈ p2, x.block < W.heap.size := fun x hx => hlt x (by rw [hp]; simp [hx])
  have m3 : ∀ x ∈ p3, x.block < W.heap.size := fun x hx => hlt x (by rw [hp]; simp [hx])
  have hargs : ∀ (W' : World), Below W.heap.size W W' → DataW.TrodAll enc Try.prog W' 0 (fun b => decide (b < W.heap.size)) true [24, 25, 79] [v1, v2, v3] [d1, d2, d3] p := fun W' hn => by
    rw [hp, List.append_assoc]
    exact trodAll_mk3 (Below.trod Try.laidOut (by kernel_rfl) (of_decide_eq_true (by kernel_rfl)) h1 hn m1) (Below.trod Try.laidOut (by kernel_rfl) (of_decide_eq_true (by kernel_rfl)) h2 hn m2) (Below.trod Try.laidOut (by kernel_rfl) (of_decide_eq_true (by kernel_rfl)) h3 hn m3)
  obtain ⟨x, r1⟩ := hall_open (hval 0 24 v1 rfl rfl) h1
  have ok2 : Cell.okWide Try.prog W .any base 25 v2 := by
    have := hval 1 25 v2 rfl rfl
    simp only [Value.okWide, Try.underlying25] at this
    exact this
  obtain ⟨fu2, f2⟩ := h2
  obtain ⟨sa, sl, sc, ev2⟩ := okWide_slice Try.underlying25 (hval 1 25 v2 rfl rfl)
  subst ev2
  obtain ⟨n, c, r2⟩ := camps_open ok2 f2
  obtain ⟨m, pl, cu, r3⟩ := view_open (hval 2 79 v3 rfl rfl) h3
  have hwalk := calls_true (views_alone x n c m pl cu) (vs := [v1, .slice sa sl sc, v3]) (w := W) ⟨_, _, rfl, r1, _, _, rfl, r2, _, _, rfl, r3, rfl⟩
  refine hwalk.mono fun e W' ⟨he, hbl⟩ => ?_
  subst he
  exact ⟨_, rfl, _, _, _, [], p, [], hW', trodAll_mk1 (shut_bool Try.underlying4 _), hargs _ hbl, rfl, hbl.frame _, fun h => by cases h⟩
theorem hallViews_holds : Rows.HallViewsSaid :=
  OpenClaim.holds_of_wide 7 Try.f7 rfl rfl rfl rfl rfl rfl rfl ⟨rfl, rfl, rfl, rfl, rfl⟩ rfl rfl rfl rfl rfl (by kernel_rfl) Try.func7 (by kernel_rfl)
    (of_decide_eq_true (by kernel_rfl)) (by unfold Func.isWrapper; first | (rw [if_pos (by decide +kernel)]; kernel_rfl) | (rw [if_neg (by decide +kernel)]; exact ⟨rfl, rfl⟩))
    (fun os started H enc _ => hallViews_lifted os started H enc)
end Go.Proofs.Ytmekepomgofiaaa
