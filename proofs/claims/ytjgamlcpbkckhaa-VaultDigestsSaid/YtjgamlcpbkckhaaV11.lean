import Derived.Test.YtjgamlcpbkckhaaV7
import Derived.Test.YtjgamlcpbkckhaaV10
set_option linter.all false
open Go Go.Ev Go.RowKit
namespace Go.Ev
set_option maxRecDepth 100000
set_option linter.all false
/-! ### Contracts over arguments of bytes that are told by a function -/
def intI : D → Int
  | .val (.int _ x) => x
  | _ => 0
def intI1 : List D → Int
  | [d] => intI d
  | _ => 0
noncomputable def bytesFn (hp : List Blk) : D → Option (Nat × (Nat → Int) × Prop)
  | .row 1 n f => some (n, fun i => intI1 (f i), ∀ i, i < n → f i = [.val (.int .u8 (intI1 (f i)))])
  | .sl id 0 n 1 _ => match getG hp id with
    | some (.arr m f) => some (n, fun i => intI (f i), n = m ∧ ∀ i, i < n → f i = .val (.int .u8 (intI (f i))))
    | _ => none
  | _ => none
section
variable {K : Cust} {P : Program} {w w' : World} {ρ : List Own} {hp : List Blk} {nid : Nat}
theorem bytes_see {d : D} {v : Value} {n : Nat} {b : Nat → Int} {p : Prop} (hk : OK K w ρ hp) (h : Rep K (mask K w ρ) ρ d v) (hb : bytesFn hp d = some (n, b, p)) (hp' : p) :
    Rep K (mask K w [.fresh]) [.fresh] (rowB n b) v := by
  unfold bytesFn at hb
  split at hb
  · rename_i n' f
    cases hb
    simp only [Rep] at h
    simp only [rowB, Rep]
    rcases h with ⟨h1, h2⟩ | ⟨b, o, c, h1, h2, h3⟩
    · exact .inl ⟨h1, h2⟩
    · refine .inr ⟨b, o, c, h1, h2, fun i hi => ?_⟩
      have h4 := h3 i hi
      rw [hp' i hi] at h4
      simp only [RepC, and_true] at h4 ⊢
      obtain ⟨x, p1, p2⟩ := h4
      simp only [Rep] at p2
      exact ⟨x, see_sub.cell p1, by simp only [Rep]; exact p2⟩
  · rename_i id n' cap
    split at hb
    · rename_i m f hx
      cases hb
      obtain ⟨rfl, hp'⟩ := hp'
      rw [getG_eq] at hx
      have hbl := hk.blk id _ hx
      cases ho : own ρ id with
      | live b N =>
        rw [ho] at hbl
        simp only [Rep, ho] at h
        obtain ⟨c, rfl, hlc, _⟩ := h
        obtain ⟨vs, ty, q1, q2, q3, q4⟩ := hbl
        have hnh := hk.apart id b N (own_live ho)
        simp only [rowB, Rep]
        refine .inr ⟨b, 0, c, rfl, by omega, fun i hi => ?_⟩
        obtain ⟨x, p1, p2⟩ := q4 i hi
        rw [hp' i hi] at p2
        simp only [Rep] at p2
        subst p2
        simp only [RepC, and_true]
        refine ⟨.int .u8 (intI (f i)), ?_, by simp only [Rep]⟩
        unfold World.cell?
        simp only
        rw [see_own q1 hnh]
        simp only
        rw [Nat.mul_one, Nat.zero_add]
        exact p1
      | fresh => rw [ho] at hbl; exact hbl.elim
      | dead => rw [ho] at hbl; exact hbl.elim
    · cases hb
  · cases hb
noncomputable def cipF : List D → List Blk → Nat → Option Out
  | [.val (.int .u64 s), d], hp, nid => match bytesFn hp d with
    | some (n, b, p) => some ⟨some (p ∧ n ≤ 1000000), .sl nid 0 n 1 none, [(nid, .arr n fun j => .val (.int .u8 (cipB s b j)))], []⟩
    | none => none
  | _, _, _ => none
noncomputable def samF : List D → List Blk → Nat → Option Out
  | [d, d2], hp, _ => match bytesFn hp d with
    | some (n, b, p) => match bytesFn hp d2 with
      | some (m, c, q) => some ⟨some ((p ∧ q) ∧ n ≤ 1000000), .val (.bool (sameB n b m c)), [], []⟩
      | none => none
    | none => none
  | _, _, _ => none
noncomputable def digF : List D → List Blk → Nat → Option Out
  | [.val (.int .u64 s), d], hp, _ => match bytesFn hp d with
    | some (n, b, p) => some ⟨some ((p ∧ 0 ≤ s) ∧ n ≤ 1000000 ∧ ∀ i, i < n → 0 ≤ b i ∧ b i < 256), .val (.int .u64 (digN s ((List.range n).map b))), [], []⟩
    | none => none
  | _, _, _ => none
theorem cipF_contract (hm : P.follows .mixedOrders = true) (hf : compF P 7 = some af_7) (K : Cust) : Contract K P 7 cipF := by
  refine ⟨(fun_ok (K := K) (cl := noC) hm noC_ok hf).1, fun ds hp nid out ho hc w ρ args hk hr hn => ?_⟩
  unfold cipF at ho
  split at ho
  · rename_i s d
    split at ho
    · rename_i n b p hb
      obtain rfl := (Option.some.inj ho).symm
      obtain ⟨hp', hle⟩ := hc _ rfl
      simp only [RepL] at hr
      obtain ⟨v1, _, rfl, hv1, v2, _, rfl, hv2, rfl⟩ := hr
      refine (cip_alone P hm hf s n b hle K w [v1, v2] hk.see (by simp only [RepL]; exact ⟨v1, _, rfl, by simpa [Rep] using hv1, v2, _, rfl, bytes_see hk hv2 hb hp', rfl⟩)).mono fun e w' hx => ?_
      obtain ⟨v, rfl, hres⟩ := hx
      exact ⟨v, rfl, hres.unseeA hk hn⟩
    · cases ho
  · cases ho
theorem samF_contract (hm : P.follows .mixedOrders = true) (hf : compF P 12 = some af_12) (K : Cust) : Contract K P 12 samF := by
  refine ⟨(fun_ok (K := K) (cl := noC) hm noC_ok hf).1, fun ds hp nid out ho hc w ρ args hk hr hn => ?_⟩
  unfold samF at ho
  split at ho
  · rename_i d d2
    split at ho
    · rename_i n b p hb
      split at ho
      · rename_i m c q hb2
        obtain rfl := (Option.some.inj ho).symm
        obtain ⟨⟨hp', hq⟩, hle⟩ := hc _ rfl
        simp only [RepL] at hr
        obtain ⟨v1, _, rfl, hv1, v2, _, rfl, hv2, rfl⟩ := hr
        refine (sam_alone P hm hf n b m c hle K w [v1, v2] hk.see (by simp only [RepL]; exact ⟨v1, _, rfl, bytes_see hk hv1 hb hp', v2, _, rfl, bytes_see hk hv2 hb2 hq, rfl⟩)).mono fun e w' hx => ?_
        obtain ⟨v, rfl, hres⟩ := hx
        exact ⟨v, rfl, hres.unsee⟩
      · cases ho
    · cases ho
  · cases ho
theorem digF_contract (hm : P.follows .mixedOrders = true) (hf : compF P 8 = some af_8) (K : Cust) : Contract K P 8 digF := by
  refine ⟨(fun_ok (K := K) (cl := noC) hm noC_ok hf).1, fun ds hp nid out ho hc w ρ args hk hr hn => ?_⟩
  unfold digF at ho
  split at ho
  · rename_i s d
    split at ho
    · rename_i n b p hb
      obtain rfl := (Option.some.inj ho).symm
      obtain ⟨⟨hp', hs⟩, hle, hby⟩ := hc _ rfl
      simp only [RepL] at hr
      obtain ⟨v1, _, rfl, hv1, v2, _, rfl, hv2, rfl⟩ := hr
      refine (dig_alone P hm hf s n b (by omega) hs hby K w [v1, v2] hk.see (by simp only [RepL]; exact ⟨v1, _, rfl, by simpa [Rep] using hv1, v2, _, rfl, bytes_see hk hv2 hb hp', rfl⟩)).mono fun e w' hx => ?_
      obtain ⟨v, rfl, hres⟩ := hx
      exact ⟨v, rfl, hres.unsee⟩
    · cases ho
  · cases ho
end
noncomputable def tabD : FuncId → List D → List Blk → Nat → Option Out := orCl (oneCl 6 knownR) (orCl (oneCl 7 cipF) (orCl (oneCl 12 samF) (oneCl 8 digF)))
theorem tabD_ok (K : Cust) : ClOK K Go.Proofs.Try.prog tabD := by
  have hm : Go.Proofs.Try.prog.follows .mixedOrders = true := by kernel_rfl
  exact ClOK.or (knownR_ok K) (ClOK.or (ClOK.one (cipF_contract hm cf_7 K)) (ClOK.or (ClOK.one (samF_contract hm cf_12 K)) (ClOK.one (digF_contract hm cf_8 K))))
end Go.Ev
