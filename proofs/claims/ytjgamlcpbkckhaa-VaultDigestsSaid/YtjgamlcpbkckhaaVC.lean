/- VaultDigests: for every input: the program's Digest, Key and Cipher answer as the reference's do, and Digest reads its data without changing it; no conditions. -/
import Derived.Test.YtjgamlcpbkckhaaRows
import Derived.Test.YtjgamlcpbkckhaaVB
import Derived.ProofKit
import Derived.Lib.SmallJoins
import Derived.Carry
import Derived.Deep.Strs
import Derived.Deep.Slices
set_option linter.all false
open Go Go.Ev Go.RowKit
namespace Go.Ev
set_option maxRecDepth 100000
set_option linter.all false
theorem lawE_alone (s : Int) (n : Nat) (b : Nat → Int) (tx : ByteArray) (hs : 0 ≤ s) (hb : ∀ j, j < n → 0 ≤ b j ∧ b j < 256) : Alone Go.Proofs.Try.prog 3 (lawE s n b tx) (.val (.bool true)) :=
  Alone.ofW (raw := false) (by kernel_rfl) tabE_ok cf_3 fun K w => lawE_aw _ (by kernel_rfl) K (tabE_ok K) w s n b tx hs hb
theorem lawE_any {s : Int} {n : Nat} {b : Nat → Int} {tx : ByteArray} {v1 : Value} {w : World} (hs : 0 ≤ s) (hb : ∀ j, j < n → 0 ≤ b j ∧ b j < 256)
    (h1 : Rep noCust (mask noCust w [.fresh]) [.fresh] (rowB n b) v1) :
    Calls Go.Proofs.Try.prog 3 #[.int .u64 s, v1, .string tx] w fun e w' => e = .returned (.bool true) ∧ Below w.heap.size w w' := by
  have hk : OK noCust w [.fresh] [.dead] := by
    refine ⟨rfl, fun i b n hi => ?_, fun i j b n m hi => ?_, fun i x hx => ?_, fun _ h => h.elim, fun _ _ _ _ h => h⟩
    · cases i <;> simp at hi
    · cases i <;> simp at hi
    · cases i with
      | zero => simp at hx; subst hx; trivial
      | succ i => simp at hx
  have h := lawE_alone s n b tx hs hb noCust w [.int .u64 s, v1, .string tx] hk (by
    simp only [lawE, RepL]
    exact ⟨_, _, rfl, by simp only [Rep], _, _, rfl, h1, _, _, rfl, by simp only [Rep], rfl⟩)
  refine h.mono fun e w' he => ?_
  obtain ⟨v, rfl, ρ', hv, hE⟩ := he
  simp only [Rep] at hv
  subst hv
  refine ⟨rfl, hE.env.1, hE.env.2.1, hE.env.2.2, hE.size, fun b hb => hE.keep b hb fun i n hi => ?_⟩
  cases i <;> simp at hi
theorem see_cell {w : World} {b o : Nat} {v : Value} (h : w.cell? ⟨b, o, none⟩ = some v) : (mask noCust w [.fresh]).cell? ⟨b, o, none⟩ = some v := by
  have hsub : ∀ cs ty fr, w.heap[b]? = some (Obj.cells cs ty fr) → (mask noCust w [.fresh]).heap[b]? = some (Obj.cells cs ty fr) := fun cs ty fr h => by
    rw [mask_some]
    refine ⟨?_, h⟩
    rintro (hh | ⟨i, n, hi⟩)
    · exact hh.elim
    · cases i <;> simp at hi
  unfold World.cell? at *
  simp only at *
  split at h
  · rename_i cs ty fr hh
    rw [hsub _ _ _ hh]
    exact h
  · cases h
end Go.Ev
namespace Go.Proofs.Ytjgamlcpbkckhaa
open Go.ChangeShapes Go.WideShapes Go.ChangeAt Go.RowKit Go.Ev Go.Deep
theorem Try.own : ownKnob Try.prog.godebug = Option.none := by kernel_rfl
theorem Try.laidOut : laidOutB Try.prog = true := by kernel_rfl
set_option maxRecDepth 100000
set_option linter.all false
section
variable {H : Type} {enc : TypeId × Value → H} {w : World}
theorem bytes_open {fuel b0 : Nat} {v : Value} {y : DataW H × List MemPlace} (hval : Cell.okWide Try.prog w .any b0 23 v) (h : DataW.trod enc Try.prog w 0 (fun _ => true) true fuel 23 [v] = some y) :
    ∃ (n : Nat) (b : Nat → Int), Rep noCust (mask noCust w [.fresh]) [.fresh] (rowB n b) v ∧ (∀ j, j < n → 0 ≤ b j ∧ b j < 256) := by
  rcases open_slice1 Try.underlying23 (by kernel_rfl) h with ⟨e, -⟩ | ⟨a, len, cap, m, n, V, D, Pl, e, hb, hl, hm, hmm, -, hx⟩
  · simp only [List.cons.injEq, and_true] at e
    subst e
    refine ⟨0, fun _ => 0, ?_, fun j hj => by omega⟩
    simp only [rowB, Rep]
    exact .inl (by simp)
  · simp only [List.cons.injEq, and_true] at e
    subst e
    simp only [if_true] at hmm
    subst hmm
    have hspot : a.spot = none := by
      simp only [Cell.okWide, Cell.ok, Try.underlying23] at hval
      exact hval.2.2.2.1
    have each : ∀ i, i < len → ∃ x : Int, V i = .int .u8 x ∧ 0 ≤ x ∧ x < 256 := fun i hi => by
      obtain ⟨x, h1, -, h3⟩ := DataW.trod_int Try.underlying5 (hx i (by omega)).2
      simp only [List.cons.injEq, and_true] at h1
      refine ⟨x, h1, ?_⟩
      simp only [Lit.wf, IntKind.min, IntKind.max, IntKind.signed, IntKind.bits, Bool.and_eq_true, decide_eq_true_eq] at h3
      simp at h3
      omega
    obtain ⟨b, hbx⟩ := choose_lt each
    refine ⟨len, b, ?_, fun j hj => (hbx j hj).2⟩
    obtain ⟨blk, o, sp⟩ := a
    simp only at hspot
    subst hspot
    simp only [rowB, Rep]
    refine .inr ⟨blk, o, _, rfl, hl, fun i hi => ?_⟩
    simp only [RepC, and_true]
    refine ⟨.int .u8 (b i), see_cell ?_, rfl⟩
    rw [← (hbx i hi).1, ← (hx i (by omega)).1, Nat.mul_one]
    unfold Addr.add
    split
    · rename_i h0; subst h0; rfl
    · rfl
theorem u_open {k : IntKind} {fuel : Nat} {t : TypeId} {v : Value} {y : DataW H × List MemPlace} (ht : Try.prog.underlying t = some (.int k)) (h : DataW.trod enc Try.prog w 0 (fun _ => true) true fuel t [v] = some y) : ∃ x : Int, v = .int k x ∧ (Lit.int k x).wf = true := by
  obtain ⟨x, h1, -, h3⟩ := DataW.trod_int ht h
  simp only [List.cons.injEq, and_true] at h1
  exact ⟨x, h1, h3⟩
theorem wf_u64 {x : Int} (h : (Lit.int .u64 x).wf = true) : 0 ≤ x := by
  simp only [Lit.wf, IntKind.min, IntKind.max, IntKind.signed, IntKind.bits, Bool.and_eq_true, decide_eq_true_eq] at h
  simp at h
  omega
end
theorem vaultDigests_lifted (os : Os) (started : os.Started) (H : Type) (enc : TypeId × Value → H) :
    ReturnsInHanded {} Try.checked os 3 .any (Rows.vaultDigestsSpec.pre6 enc Try.prog Try.f3 Rows.vaultDigestsRow.domain false) (Rows.vaultDigestsSpec.post enc Try.prog Try.f3 false true false false) := by
  refine returnsInHanded_of_change (C := Try.checked) Try.own started (by kernel_rfl) Try.func3
    (ChangeSpec.witness6 (enc := enc) (C := Try.checked) false ⟨#[], #[.int .u64 0, .slice none 0 0, .string ⟨#[]⟩], []⟩ 8 (by kernel_rfl) (by kernel_rfl) (by kernel_rfl) (by kernel_rfl)) ?_
  intro W base args ds gs before hval0 hW hcnd _
  have hval : ∀ (j : Nat) t v, Try.f3.params[j]? = some t → args[j]? = some v → Value.okWide Try.prog W .any base t v := hval0
  have hW' := hW
  obtain ⟨p, q, hA0, hV, rfl, hfz, hnd⟩ := hW
  have hA : DataW.TrodAll enc Try.prog W 0 (fun _ => true) true Try.f3.params.toList args.toList ds p := hA0
  rw [Try.params3] at hA hval
  obtain ⟨v1, v2, v3, d1, d2, d3, p1, p2, p3, rfl, rfl, hp, h1, h2, h3⟩ := trodAll_three hA
  obtain ⟨rfl, rfl⟩ := trodVars_none hV
  simp only [List.append_nil] at hW'
  have hlt : ∀ x ∈ p, x.block < W.heap.size := fun x hx => by simpa using hW'.lt x hx
  have m1 : ∀ x ∈ p1, x.block < W.heap.size := fun x hx => hlt x (by rw [hp]; simp [hx])
  have m2 : ∀ x ∈ p2, x.block < W.heap.size := fun x hx => hlt x (by rw [hp]; simp [hx])
  have m3 : ∀ x ∈ p3, x.block < W.heap.size := fun x hx => hlt x (by rw [hp]; simp [hx])
  have hargs : ∀ (W' : World), Below W.heap.size W W' → DataW.TrodAll enc Try.prog W' 0 (fun b => decide (b < W.heap.size)) true [22, 23, 9] [v1, v2, v3] [d1, d2, d3] p := fun W' hn => by
    rw [hp, List.append_assoc]
    exact trodAll_mk3 (Below.trod Try.laidOut (by kernel_rfl) (of_decide_eq_true (by kernel_rfl)) h1 hn m1) (Below.trod Try.laidOut (by kernel_rfl) (of_decide_eq_true (by kernel_rfl)) h2 hn m2) (Below.trod Try.laidOut (by kernel_rfl) (of_decide_eq_true (by kernel_rfl)) h3 hn m3)
  have hv2 : Cell.okWide Try.prog W .any base 23 v2 := by
    have := hval 1 23 v2 rfl rfl
    simp only [Value.okWide, Try.underlying23] at this
    exact this
  obtain ⟨fu1, f1⟩ := h1
  obtain ⟨fu2, f2⟩ := h2
  obtain ⟨s0, es⟩ := okWide_int Try.underlying22 (hval 0 22 v1 rfl rfl)
  subst es
  obtain ⟨s, e1, hs⟩ := u_open (v := .int .u64 s0) (k := .u64) Try.underlying22 f1
  cases e1
  obtain ⟨sa, sl, sc, ev2⟩ := okWide_slice Try.underlying23 (hval 1 23 v2 rfl rfl)
  subst ev2
  obtain ⟨n, b, hr1, hb⟩ := bytes_open hv2 f2
  obtain ⟨tx, ev3⟩ := okWide_string Try.underlying9 (hval 2 9 v3 rfl rfl)
  subst ev3
  have hwalk := lawE_any (tx := tx) (wf_u64 hs) hb hr1
  refine hwalk.mono fun e W' ⟨he, hbl⟩ => ?_
  subst he
  exact ⟨_, rfl, _, _, _, [], p, [], hW', trodAll_mk1 (shut_bool Try.underlying4 _), hargs _ hbl, rfl, hbl.frame _, fun h => by cases h⟩
theorem vaultDigests_holds : Rows.VaultDigestsSaid :=
  OpenClaim.holds_of_wide 3 Try.f3 rfl rfl rfl rfl rfl rfl rfl ⟨rfl, rfl, rfl, rfl, rfl⟩ rfl rfl rfl rfl rfl (by kernel_rfl) Try.func3 (by kernel_rfl)
    (of_decide_eq_true (by kernel_rfl)) (by unfold Func.isWrapper; first | (rw [if_pos (by decide +kernel)]; kernel_rfl) | (rw [if_neg (by decide +kernel)]; exact ⟨rfl, rfl⟩))
    (fun os started H enc _ => vaultDigests_lifted os started H enc)
end Go.Proofs.Ytjgamlcpbkckhaa
