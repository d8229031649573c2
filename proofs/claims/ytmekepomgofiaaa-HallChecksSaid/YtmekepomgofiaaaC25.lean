/- What HallChecks says is proved for every input: whatever hall, campaigns and plan are given, it returns true; there are no conditions. -/
import Derived.Test.YtmekepomgofiaaaC14
import Derived.Test.YtmekepomgofiaaaC24
set_option linter.all false
open Go Go.Ev Go.RowKit
namespace Go.Proofs.Ytmekepomgofiaaa
open Go.ChangeShapes Go.WideShapes Go.ChangeAt Go.RowKit Go.Ev Go.Deep Go.Joins
set_option maxRecDepth 100000
set_option linter.all false
theorem hallChecks_lifted (os : Os) (started : os.Started) (H : Type) (enc : TypeId × Value → H) :
    ReturnsInHanded {} Try.checked os 3 .any (Rows.hallChecksSpec.pre6 enc Try.prog Try.f3 Rows.hallChecksRow.domain false) (Rows.hallChecksSpec.post enc Try.prog Try.f3 false true false false) := by
  refine returnsInHanded_of_change (C := Try.checked) Try.own started (by kernel_rfl) Try.func3
    (ChangeSpec.witness6 (enc := enc) (C := Try.checked) false ⟨#[], #[.agg #[.int .i64 0, .int .i64 0, .slice none 0 0, .slice none 0 0], .slice none 0 0, .slice none 0 0], []⟩ 8 (by kernel_rfl) (by kernel_rfl) (by kernel_rfl) (by kernel_rfl)) ?_
  intro W base args ds gs before hval0 hW hcnd _
  have hval : ∀ (j : Nat) t v, Try.f3.params[j]? = some t → args[j]? = some v → Value.okWide Try.prog W .any base t v := hval0
  have hW' := hW
  obtain ⟨p, q, hA0, hV, rfl, hfz, hnd⟩ := hW
  have hA : DataW.TrodAll enc Try.prog W 0 (fun _ => true) true Try.f3.params.toList args.toList ds p := hA0
  rw [Try.params3] at hA hval
  obtain ⟨v1, v2, v3, d1, d2, d3, p1, p2, p3, rfl, rfl, hp, h1, h2, h3⟩ := trodAll_three hA
  obtain ⟨rfl, rfl⟩ := trodVars_none hV
  simp only [List.append_nil] at hW'
  have hlt : ∀ x ∈ p, x.block < W.heap.size := fun x hx => by simpa using hW'.lt x hx
  have m1 : ∀ x ∈ p1, x.block < W.heap.size := fun x hx => hlt x (by rw [hp]; simp [hx])
  have m2 : ∀ x ∈ p2, x.block < W.heap.size := fun x hx => hlt x (by rw [hp]; simp [hx])
  have m3 : ∀ x ∈ p3, x.block < W.heap.size := fun x hx => hlt x (by rw [hp]; simp [hx])
  have hargs : ∀ (W' : World), Below W.heap.size W W' → DataW.TrodAll enc Try.prog W' 0 (fun b => decide (b < W.heap.size)) true [24, 25, 22] [v1, v2, v3] [d1, d2, d3] p := fun W' hn => by
    rw [hp, List.append_assoc]
    exact trodAll_mk3 (Below.trod Try.laidOut (by kernel_rfl) (of_decide_eq_true (by kernel_rfl)) h1 hn m1) (Below.trod Try.laidOut (by kernel_rfl) (of_decide_eq_true (by kernel_rfl)) h2 hn m2) (Below.trod Try.laidOut (by kernel_rfl) (of_decide_eq_true (by kernel_rfl)) h3 hn m3)
  obtain ⟨x, r1⟩ := hall_open (hval 0 24 v1 rfl rfl) h1
  have ok2 : Cell.okWide Try.prog W .any base 25 v2 := by
    have := hval 1 25 v2 rfl rfl
    simp only [Value.okWide, Try.underlying25] at this
    exact this
  obtain ⟨fu2, f2⟩ := h2
  obtain ⟨sa, sl, sc, ev2⟩ := okWide_slice Try.underlying25 (hval 1 25 v2 rfl rfl)
  subst ev2
  obtain ⟨n, c, r2⟩ := camps_open ok2 f2
  have ok3 : Cell.okWide Try.prog W .any base 22 v3 := by
    have := hval 2 22 v3 rfl rfl
    simp only [Value.okWide, Try.underlying22] at this
    exact this
  obtain ⟨fu3, f3⟩ := h3
  obtain ⟨sa3, sl3, sc3, ev3⟩ := okWide_slice Try.underlying22 (hval 2 22 v3 rfl rfl)
  subst ev3
  obtain ⟨m, pl, r3⟩ := ints_open ok3 f3
  have hwalk := calls_true (checks_law x n c m pl) (vs := [v1, .slice sa sl sc, .slice sa3 sl3 sc3]) (w := W) ⟨_, _, rfl, r1, _, _, rfl, r2, _, _, rfl, r3, rfl⟩
  refine hwalk.mono fun e W' ⟨he, hbl⟩ => ?_
  subst he
  exact ⟨_, rfl, _, _, _, [], p, [], hW', trodAll_mk1 (shut_bool Try.underlying4 _), hargs _ hbl, rfl, hbl.frame _, fun h => by cases h⟩
theorem hallChecks_holds : Rows.HallChecksSaid :=
  OpenClaim.holds_of_wide 3 Try.f3 rfl rfl rfl rfl rfl rfl rfl ⟨rfl, rfl, rfl, rfl, rfl⟩ rfl rfl rfl rfl rfl (by kernel_rfl) Try.func3 (by kernel_rfl)
    (of_decide_eq_true (by kernel_rfl)) (by unfold Func.isWrapper; first | (rw [if_pos (by decide +kernel)]; kernel_rfl) | (rw [if_neg (by decide +kernel)]; exact ⟨rfl, rfl⟩))
    (fun os started H enc _ => hallChecks_lifted os started H enc)
end Go.Proofs.Ytmekepomgofiaaa
