/- VaultNothing: whatever call is given, a nil vault refuses each of the eight calls with ErrNil and has the day 0 and an empty chain; for every input, no conditions. -/
import Derived.Test.YtjgamlcpbkckhaaRows
import Derived.Test.YtjgamlcpbkckhaaV7
import Derived.ProofKit
import Derived.Lib.SmallJoins
import Derived.Carry
set_option linter.all false
namespace Go.Proofs.Ytjgamlcpbkckhaa
open Go.ChangeShapes Go.WideShapes Go.ChangeAt Go.RowKit
set_option linter.all false
theorem Try.own : ownKnob Try.prog.godebug = Option.none := by kernel_rfl
theorem Try.laidOut : laidOutB Try.prog = true := by kernel_rfl
theorem array9 {α : Type} {cs : Array α} (h : cs.size = 9) : ∃ c0 c1 c2 c3 c4 c5 c6 c7 c8, cs = #[c0, c1, c2, c3, c4, c5, c6, c7, c8] := by
  obtain ⟨l⟩ := cs
  match l, h with
  | [c0, c1, c2, c3, c4, c5, c6, c7, c8], _ => exact ⟨c0, c1, c2, c3, c4, c5, c6, c7, c8, rfl⟩
section
variable {H : Type} {enc : TypeId × Value → H} {w : World} {base : Nat} {spare : Nat → Bool} {held : Bool}
theorem int_open {n : Nat} {c : Value} {y : DataW H × List MemPlace} (h : DataW.trod enc Try.prog w base spare held n 3 [c] = some y) : ∃ m : Int, c = .int .i64 m := by
  obtain ⟨m, e, -, wm⟩ := DataW.trod_int (t := 3) Try.underlying3 h
  simp only [List.cons.injEq, and_true] at e
  exact ⟨m, e⟩
theorem str_open {n : Nat} {c : Value} {y : DataW H × List MemPlace} (h : DataW.trod enc Try.prog w base spare held n 9 [c] = some y) : ∃ s : ByteArray, c = .string s := by
  obtain ⟨m, e, -, wm⟩ := DataW.trod_string (t := 9) Try.underlying9 h
  simp only [List.cons.injEq, and_true] at e
  exact ⟨m, e⟩
theorem some_of {α : Type} {x : Option α} {l : List α} {i : Nat} (h : x = l[i]?) (hi : i < l.length) : ∃ y, x = some y := ⟨l[i], by rw [h, List.getElem?_eq_getElem hi]⟩
set_option maxRecDepth 100000 in
theorem op_open {r : Reach} {b0 : Nat} {v : Value} {d : DataW H} {p : List MemPlace} (hv : Value.okWide Try.prog w r b0 31 v) (h : DataW.Trod enc Try.prog w base spare held 31 v d p) :
    ∃ (kd : Int) (nm ps lb ot tx : ByteArray) (dy nu ve : Int), v = .agg #[.int .i64 kd, .string nm, .string ps, .string lb, .string ot, .string tx, .int .i64 dy, .int .i64 nu, .int .i64 ve] := by
  obtain ⟨cs, rfl, hsz⟩ := okWide_struct Try.underlying31 hv
  obtain ⟨c0, c1, c2, c3, c4, c5, c6, c7, c8, rfl⟩ := array9 (hsz.trans (by kernel_rfl))
  obtain ⟨fuel, hf⟩ := h
  obtain ⟨xs, n, -, -, -, hlen, hff⟩ := DataW.trod_struct Try.underlying31 hf
  have hl : xs.length = 9 := hlen
  obtain ⟨y0, h0⟩ := some_of (hff 0 _ rfl) (by omega)
  obtain ⟨y1, h1⟩ := some_of (hff 1 _ rfl) (by omega)
  obtain ⟨y2, h2⟩ := some_of (hff 2 _ rfl) (by omega)
  obtain ⟨y3, h3⟩ := some_of (hff 3 _ rfl) (by omega)
  obtain ⟨y4, h4⟩ := some_of (hff 4 _ rfl) (by omega)
  obtain ⟨y5, h5⟩ := some_of (hff 5 _ rfl) (by omega)
  obtain ⟨y6, h6⟩ := some_of (hff 6 _ rfl) (by omega)
  obtain ⟨y7, h7⟩ := some_of (hff 7 _ rfl) (by omega)
  obtain ⟨y8, h8⟩ := some_of (hff 8 _ rfl) (by omega)
  obtain ⟨kd, rfl⟩ := int_open (c := c0) h0
  obtain ⟨nm, rfl⟩ := str_open (c := c1) h1
  obtain ⟨ps, rfl⟩ := str_open (c := c2) h2
  obtain ⟨lb, rfl⟩ := str_open (c := c3) h3
  obtain ⟨ot, rfl⟩ := str_open (c := c4) h4
  obtain ⟨tx, rfl⟩ := str_open (c := c5) h5
  obtain ⟨dy, rfl⟩ := int_open (c := c6) h6
  obtain ⟨nu, rfl⟩ := int_open (c := c7) h7
  obtain ⟨ve, rfl⟩ := int_open (c := c8) h8
  exact ⟨kd, nm, ps, lb, ot, tx, dy, nu, ve, rfl⟩
end
set_option maxRecDepth 100000 in
theorem vaultNothing_lifted (os : Os) (started : os.Started) (H : Type) (enc : TypeId × Value → H) :
    ReturnsInHanded {} Try.checked os 4 .any (Rows.vaultNothingSpec.pre6 enc Try.prog Try.f4 Rows.vaultNothingRow.domain false) (Rows.vaultNothingSpec.post enc Try.prog Try.f4 false true false false) := by
  refine returnsInHanded_of_change (C := Try.checked) Try.own started (by kernel_rfl) Try.func4
    (ChangeSpec.witness6 (enc := enc) (C := Try.checked) false ⟨#[], #[.agg #[.int .i64 0, .string ⟨#[]⟩, .string ⟨#[]⟩, .string ⟨#[]⟩, .string ⟨#[]⟩, .string ⟨#[]⟩, .int .i64 0, .int .i64 0, .int .i64 0]], []⟩ 8 (by kernel_rfl) (by kernel_rfl) (by kernel_rfl) (by kernel_rfl)) ?_
  intro W base args ds gs before hval0 hW hcnd _
  have hval : ∀ (j : Nat) t v, Try.f4.params[j]? = some t → args[j]? = some v → Value.okWide Try.prog W .any base t v := hval0
  have hW' := hW
  obtain ⟨p, q, hA0, hV, rfl, hfz, hnd⟩ := hW
  have hA : DataW.TrodAll enc Try.prog W 0 (fun _ => true) true Try.f4.params.toList args.toList ds p := hA0
  rw [Try.params4] at hA hval
  obtain ⟨v, d, rfl, rfl, h0⟩ := trodAll_one hA
  obtain ⟨rfl, rfl⟩ := trodVars_none hV
  have h0k := h0
  simp only [List.append_nil] at hW'
  have hlt : ∀ x ∈ p, x.block < W.heap.size := fun x hx => by simpa using hW'.lt x hx
  have hargs : ∀ (W' : World), Below W.heap.size W W' → DataW.Trod enc Try.prog W' 0 (fun b => decide (b < W.heap.size)) true 31 v d p :=
    fun W' hn => Below.trod Try.laidOut (by kernel_rfl) (of_decide_eq_true (by kernel_rfl)) h0k hn hlt
  obtain ⟨kd, nm, ps, lb, ot, tx, dy, nu, ve, ev⟩ := op_open (hval 0 31 v rfl rfl) h0
  have hwalk := Go.Ev.nothing_any kd nm ps lb ot tx dy nu ve W
  rw [← ev] at hwalk
  refine hwalk.mono fun e W' ⟨he, hb⟩ => ?_
  subst he
  exact ⟨_, rfl, _, _, _, [], p, [], hW', trodAll_mk1 (shut_bool Try.underlying4 _), trodAll_mk1 (hargs _ hb), rfl, hb.frame _, fun h => by cases h⟩
theorem vaultNothing_holds : Rows.VaultNothingSaid :=
  OpenClaim.holds_of_wide 4 Try.f4 rfl rfl rfl rfl rfl rfl rfl ⟨rfl, rfl, rfl, rfl, rfl⟩ rfl rfl rfl rfl rfl (by kernel_rfl) Try.func4 (by kernel_rfl)
    (of_decide_eq_true (by kernel_rfl)) (by unfold Func.isWrapper; first | (rw [if_pos (by decide +kernel)]; kernel_rfl) | (rw [if_neg (by decide +kernel)]; exact ⟨rfl, rfl⟩))
    (fun os started H enc _ => vaultNothing_lifted os started H enc)
end Go.Proofs.Ytjgamlcpbkckhaa
