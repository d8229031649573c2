import Derived.Test.YtjgamlcpbkckhaaVA
set_option linter.all false
open Go Go.Ev Go.RowKit
namespace Go.Ev
set_option maxRecDepth 100000
set_option linter.all false
/-! ### Key, the program's and the reference's -/
noncomputable def refF : List D → List Blk → Nat → Option Out
  | [.val (.int .u64 s), d], hp, _ => match bytesFn hp d with
    | some (n, b, p) => some ⟨some ((p ∧ 0 ≤ s) ∧ n ≤ 1000000 ∧ ∀ i, i < n → 0 ≤ b i ∧ b i < 256), .val (.int .u64 (digN s ((List.range n).map b))), [], []⟩
    | none => none
  | _, _, _ => none
noncomputable def rcfF : List D → List Blk → Nat → Option Out
  | [.val (.int .u64 s), d], hp, nid => match bytesFn hp d with
    | some (n, b, p) => some ⟨some (p ∧ n ≤ 1000000), .sl nid 0 n 1 none, [(nid, .arr n fun j => .val (.int .u8 (cipB s b j)))], []⟩
    | none => none
  | _, _, _ => none
section
variable {P : Program}
theorem refF_contract (hm : P.follows .mixedOrders = true) (hf : compF P 9 = some af_9) (hf2 : compF P 26 = some af_26) (K : Cust) : Contract K P 9 refF := by
  refine ⟨(fun_ok (K := K) (cl := noC) hm noC_ok hf).1, fun ds hp nid out ho hc w ρ args hk hr hn => ?_⟩
  unfold refF at ho
  split at ho
  · rename_i s d
    split at ho
    · rename_i n b p hb
      obtain rfl := (Option.some.inj ho).symm
      obtain ⟨⟨hp', hs⟩, hle, hby⟩ := hc _ rfl
      simp only [RepL] at hr
      obtain ⟨v1, _, rfl, hv1, v2, _, rfl, hv2, rfl⟩ := hr
      refine (ref_alone P hm hf hf2 s n b hle hs hby K w [v1, v2] hk.see (by simp only [RepL]; exact ⟨v1, _, rfl, by simpa [Rep] using hv1, v2, _, rfl, bytes_see hk hv2 hb hp', rfl⟩)).mono fun e w' hx => ?_
      obtain ⟨v, rfl, hres⟩ := hx
      exact ⟨v, rfl, hres.unsee⟩
    · cases ho
  · cases ho
theorem rcfF_contract (hm : P.follows .mixedOrders = true) (hf : compF P 13 = some af_13) (K : Cust) : Contract K P 13 rcfF := by
  refine ⟨(fun_ok (K := K) (cl := noC) hm noC_ok hf).1, fun ds hp nid out ho hc w ρ args hk hr hn => ?_⟩
  unfold rcfF at ho
  split at ho
  · rename_i s d
    split at ho
    · rename_i n b p hb
      obtain rfl := (Option.some.inj ho).symm
      obtain ⟨hp', hle⟩ := hc _ rfl
      simp only [RepL] at hr
      obtain ⟨v1, _, rfl, hv1, v2, _, rfl, hv2, rfl⟩ := hr
      refine (rc_alone P hm hf s n b hle K w [v1, v2] hk.see (by simp only [RepL]; exact ⟨v1, _, rfl, by simpa [Rep] using hv1, v2, _, rfl, bytes_see hk hv2 hb hp', rfl⟩)).mono fun e w' hx => ?_
      obtain ⟨v, rfl, hres⟩ := hx
      exact ⟨v, rfl, hres.unseeA hk hn⟩
    · cases ho
  · cases ho
end
def keyL (a b : ByteArray) : List Int := ((bytesOfS a) ++ ([0] ++ bytesOfS b)).map fun (x : UInt8) => (x.toNat : Int)
def keyD (a b : ByteArray) : Int := digN 1 (keyL a b)
theorem byteI_range {s : ByteArray} {i : Nat} : 0 ≤ byteI s i ∧ byteI s i < 256 := by
  unfold byteI
  have := ((bytesOfS s).getD i 0).toNat_lt
  omega
theorem range_byteI (s : ByteArray) : (List.range (bytesOfS s).length).map (byteI s) = (bytesOfS s).map fun (x : UInt8) => (x.toNat : Int) := by
  apply List.ext_getElem?
  intro i
  rw [List.getElem?_map, List.getElem?_map]
  by_cases h : i < (bytesOfS s).length
  · rw [List.getElem?_range h]
    simp [byteI, List.getD_eq_getElem?_getD, h]
  · rw [List.getElem?_eq_none (by simpa using h), List.getElem?_eq_none (by simpa using h)]
    rfl
def zeroB : ByteArray := ⟨#[0]⟩
noncomputable def tabK : FuncId → List D → List Blk → Nat → Option Out := orCl (oneCl 8 digF) (oneCl 9 refF)
def keyC (a b : ByteArray) : ByteArray := catB (catB a zeroB) b
theorem key_aw (P : Program) (hm : P.follows .mixedOrders = true) (K : Cust) (hcl : ClOK K P tabK) (w : World) (a b : ByteArray) (hab : (bytesOfS a).length + (bytesOfS b).length ≤ 1000) :
    AW tabK (LoopA K P w [.fresh] [.dead]) af_10.body (startF af_10 [.val (.string a), .val (.string b)] [.dead]) (EndP false 0 af_10 fun o => o = ⟨none, .val (.int .u64 (keyD a b)), [], []⟩) := by
  have e1 : bytesOfS (catB a zeroB) = bytesOfS a ++ [0] := by simp [catB, bytesOfS, zeroB]
  have e2 : bytesOfS (keyC a b) = bytesOfS a ++ ([0] ++ bytesOfS b) := by simp [keyC, catB, bytesOfS, zeroB]
  have hn : (bytesOfS (keyC a b)).length ≤ 1000000 := by rw [e2]; simp only [List.length_append, List.length_cons, List.length_nil]; omega
  refine aw_reg0 ?_
  refine aw_reg (((True ∧ ((bytesOfS a).length + (bytesOfS zeroB).length ≤ 1048576)) ∧ ((bytesOfS (catB a zeroB)).length + (bytesOfS b).length ≤ 1048576)) ∧ ((((bytesOfS (keyC a b)).length = (bytesOfS (keyC a b)).length ∧ ∀ i, i < (bytesOfS (keyC a b)).length → D.val (.int .u8 (byteI (keyC a b) i)) = D.val (.int .u8 (byteI (keyC a b) i))) ∧ (0 : Int) ≤ 1) ∧ (bytesOfS (keyC a b)).length ≤ 1000000 ∧ ∀ i, i < (bytesOfS (keyC a b)).length → 0 ≤ byteI (keyC a b) i ∧ byteI (keyC a b) i < 256))
    ⟨⟨⟨trivial, ?_⟩, ?_⟩, ⟨⟨rfl, fun _ _ => rfl⟩, by decide⟩, hn, fun _ _ => byteI_range⟩ ?_
  · show (bytesOfS a).length + 1 ≤ _; omega
  · rw [e1]; simp only [List.length_append, List.length_cons, List.length_nil]; omega
  · refine aw_ret (endO_p ⟨none, .val (.int .u64 (digN 1 ((List.range (bytesOfS (keyC a b)).length).map (byteI (keyC a b))))), [], []⟩ ?_ (by kernel_rfl))
    rw [range_byteI, e2]
    rfl
end Go.Ev

open Go Go.Ev Go.RowKit
namespace Go.Ev
set_option maxRecDepth 100000
set_option linter.all false
theorem catF_get {q : Nat} {g h : Nat → D} {j : Nat} : catF q g h j = if j < q then g j else h (j - q) := by
  unfold catF
  cases h0 : Nat.beq q 0 with
  | true =>
    obtain rfl := Nat.eq_of_beq_eq_true h0
    rfl
  | false =>
    cases h1 : Nat.ble (j + 1) q with
    | true =>
      rw [if_pos (by have := Nat.le_of_ble_eq_true h1; omega)]
      show (match Nat.ble (j + 1) q with | true => g j | false => h (j - q)) = _
      rw [h1]
    | false =>
      have : ¬ j < q := fun h => by rw [Nat.ble_eq_true_of_le (by omega)] at h1; cases h1
      rw [if_neg this]
      show (match Nat.ble (j + 1) q with | true => g j | false => h (j - q)) = _
      rw [h1]
def rkF (a : ByteArray) : Nat → D := fun i => .val (.int .u8 (byteI a i))
noncomputable def rkG (a b : ByteArray) : Nat → D := catF ((bytesOfS a).length + 1) (catF (bytesOfS a).length (rkF a) (getK [.val (.int .u8 0)])) (rkF b)
theorem rkG_get {a b : ByteArray} {i : Nat} (h : i < (bytesOfS a).length + 1 + (bytesOfS b).length) : ∃ x : Int, rkG a b i = .val (.int .u8 x) ∧ 0 ≤ x ∧ x < 256 ∧ (keyL a b)[i]? = some x := by
  unfold rkG
  rw [catF_get]
  have hk : (keyL a b)[i]? = ((bytesOfS a ++ ([0] ++ bytesOfS b))[i]?).map fun (x : UInt8) => (x.toNat : Int) := by unfold keyL; rw [List.getElem?_map]
  rw [hk]
  by_cases h1 : i < (bytesOfS a).length + 1
  · rw [if_pos h1, catF_get]
    by_cases h2 : i < (bytesOfS a).length
    · rw [if_pos h2]
      refine ⟨_, rfl, byteI_range.1, byteI_range.2, ?_⟩
      rw [List.getElem?_append_left h2]
      simp [byteI, List.getD_eq_getElem?_getD, h2]
    · rw [if_neg h2]
      have : i - (bytesOfS a).length = 0 := by omega
      rw [this, List.getElem?_append_right (by omega), this]
      exact ⟨0, rfl, by decide, by decide, rfl⟩
  · rw [if_neg h1]
    refine ⟨_, rfl, byteI_range.1, byteI_range.2, ?_⟩
    rw [List.getElem?_append_right (by omega), List.getElem?_append_right (by simp; omega)]
    have : i - (bytesOfS a).length - [(0 : UInt8)].length = i - ((bytesOfS a).length + 1) := by simp; omega
    rw [this]
    simp [byteI, List.getD_eq_getElem?_getD, show i - ((bytesOfS a).length + 1) < (bytesOfS b).length by omega]
theorem rkG_map (a b : ByteArray) : (List.range ((bytesOfS a).length + 1 + (bytesOfS b).length)).map (fun i => intI (rkG a b i)) = keyL a b := by
  apply List.ext_getElem?
  intro i
  rw [List.getElem?_map]
  by_cases h : i < (bytesOfS a).length + 1 + (bytesOfS b).length
  · rw [List.getElem?_range h]
    obtain ⟨x, e, -, -, e2⟩ := rkG_get h
    rw [e2]
    simp only [Option.map_some, e, intI]
  · rw [List.getElem?_eq_none (by simpa using h), List.getElem?_eq_none (by simp [keyL]; omega)]
    rfl
theorem rkey_aw (P : Program) (hm : P.follows .mixedOrders = true) (K : Cust) (hcl : ClOK K P tabK) (w : World) (a b : ByteArray) (hab : (bytesOfS a).length + (bytesOfS b).length ≤ 1000) :
    AW tabK (LoopA K P w [.fresh] [.dead]) af_11.body (startF af_11 [.val (.string a), .val (.string b)] [.dead]) (EndP false 0 af_11 fun o => o = ⟨none, .val (.int .u64 (keyD a b)), [], []⟩) := by
  refine aw_reg0 ?_
  refine aw_reg (((True ∧ ((bytesOfS a).length * 1 = (bytesOfS a).length ∧ True ∧ (bytesOfS a).length + 1 ≤ 1048576)) ∧ (((bytesOfS a).length + 1) * 1 = (bytesOfS a).length + 1 ∧ ((bytesOfS b).length * 1 = (bytesOfS b).length ∧ ∀ j, j < (bytesOfS b).length → okCell (rkF b j) = true) ∧ (bytesOfS a).length + 1 + (bytesOfS b).length ≤ 1048576))
      ∧ ((((bytesOfS a).length + 1 + (bytesOfS b).length = (bytesOfS a).length + 1 + (bytesOfS b).length ∧ ∀ i, i < (bytesOfS a).length + 1 + (bytesOfS b).length → rkG a b i = .val (.int .u8 (intI (rkG a b i)))) ∧ (0 : Int) ≤ 1) ∧ (bytesOfS a).length + 1 + (bytesOfS b).length ≤ 1000000 ∧ ∀ i, i < (bytesOfS a).length + 1 + (bytesOfS b).length → 0 ≤ intI (rkG a b i) ∧ intI (rkG a b i) < 256))
    ⟨⟨⟨trivial, by omega, trivial, by omega⟩, by omega, ⟨by omega, fun _ _ => rfl⟩, by omega⟩, ⟨⟨rfl, fun i hi => ?_⟩, by decide⟩, by omega, fun i hi => ?_⟩ ?_
  · obtain ⟨x, e, -, -, -⟩ := rkG_get hi
    rw [e]; rfl
  · obtain ⟨x, e, h0, h1, -⟩ := rkG_get hi
    rw [e]; exact ⟨h0, h1⟩
  · refine aw_ret (endO_p ⟨none, .val (.int .u64 (digN 1 ((List.range ((bytesOfS a).length + 1 + (bytesOfS b).length)).map (fun i => intI (rkG a b i))))), [], []⟩ ?_ (by kernel_rfl))
    rw [rkG_map]
    rfl
noncomputable def keyF : List D → List Blk → Nat → Option Out
  | [.val (.string a), .val (.string b)], _, _ => some ⟨some ((bytesOfS a).length + (bytesOfS b).length ≤ 1000), .val (.int .u64 (keyD a b)), [], []⟩
  | _, _, _ => none
theorem keyF_contract {P : Program} {f : FuncId} {fn : AFun} (hm : P.follows .mixedOrders = true) (hf : compF P f = some fn) (hA : ∀ a b : ByteArray, (bytesOfS a).length + (bytesOfS b).length ≤ 1000 → Alone P f [.val (.string a), .val (.string b)] (.val (.int .u64 (keyD a b)))) (K : Cust) : Contract K P f keyF := by
  refine ⟨(fun_ok (K := K) (cl := noC) hm noC_ok hf).1, fun ds hp nid out ho hc w ρ args hk hr hn => ?_⟩
  unfold keyF at ho
  split at ho
  · rename_i a b
    obtain rfl := (Option.some.inj ho).symm
    simp only [RepL] at hr
    obtain ⟨v1, _, rfl, hv1, v2, _, rfl, hv2, rfl⟩ := hr
    refine (hA a b (hc _ rfl) K w [v1, v2] hk.see (by simp only [RepL]; exact ⟨v1, _, rfl, by simpa [Rep] using hv1, v2, _, rfl, by simpa [Rep] using hv2, rfl⟩)).mono fun e w' hx => ?_
    obtain ⟨v, rfl, hres⟩ := hx
    exact ⟨v, rfl, hres.unsee⟩
  · cases ho
end Go.Ev

open Go Go.Ev Go.RowKit
namespace Go.Ev
set_option maxRecDepth 100000
set_option linter.all false
noncomputable def tabE : FuncId → List D → List Blk → Nat → Option Out := orCl (oneCl 6 knownR) (orCl (oneCl 7 cipF) (orCl (oneCl 12 samF) (orCl (oneCl 8 digF) (orCl (oneCl 9 refF) (orCl (oneCl 13 rcfF) (orCl (oneCl 10 keyF) (oneCl 11 keyF)))))))
theorem tabE_ok (K : Cust) : ClOK K Go.Proofs.Try.prog tabE := by
  have hm : Go.Proofs.Try.prog.follows .mixedOrders = true := by kernel_rfl
  have hK : ∀ K, ClOK K Go.Proofs.Try.prog tabK := fun K => ClOK.or (ClOK.one (digF_contract hm cf_8 K)) (ClOK.one (refF_contract hm cf_9 cf_26 K))
  refine ClOK.or (knownR_ok K) (ClOK.or (ClOK.one (cipF_contract hm cf_7 K)) (ClOK.or (ClOK.one (samF_contract hm cf_12 K)) (ClOK.or (ClOK.one (digF_contract hm cf_8 K)) (ClOK.or (ClOK.one (refF_contract hm cf_9 cf_26 K)) (ClOK.or (ClOK.one (rcfF_contract hm cf_13 K)) (ClOK.or (ClOK.one (keyF_contract hm cf_10 (fun a b hab => ?_) K)) (ClOK.one (keyF_contract hm cf_11 (fun a b hab => ?_) K))))))))
  · exact Alone.ofW (cl := tabK) (raw := false) hm hK cf_10 fun K w => key_aw _ hm K (hK K) w a b hab
  · exact Alone.ofW (cl := tabK) (raw := false) hm hK cf_11 fun K w => rkey_aw _ hm K (hK K) w a b hab
def lenZ (s : ByteArray) : Int := ((bytesOfS s).length : Int)
def lawE (s : Int) (n : Nat) (b : Nat → Int) (tx : ByteArray) : List D := [.val (.int .u64 s), rowB n b, .val (.string tx)]
theorem lawE_leaf {s : St} (h : endO false 0 af_3 .ret s = some ⟨none, .val (.bool true), [], []⟩) : EndP false 0 af_3 (fun o => o = ⟨none, .val (.bool true), [], []⟩) .ret s := endO_p _ rfl h
theorem lawE_aw (P : Program) (hm : P.follows .mixedOrders = true) (K : Cust) (hcl : ClOK K P tabE) (w : World) (s : Int) (n : Nat) (b : Nat → Int) (tx : ByteArray) (hs : 0 ≤ s) (hb : ∀ j, j < n → 0 ≤ b j ∧ b j < 256) :
    AW tabE (LoopA K P w [.fresh] [.dead]) af_3.body (startF af_3 (lawE s n b tx) [.dead]) (EndP false 0 af_3 fun o => o = ⟨none, .val (.bool true), [], []⟩) := by
  refine aw_reg0 (aw_assoc (aw_opens ?_))
  refine awr_test 4 12 (decide ((n : Int) > 300)) (fun _ => awr_end0 ?_) (fun hn => awr_end0 ?_)
  · exact aw_yes (aw_assoc (aw_reg0 (aw_rets (lawE_leaf (by kernel_rfl)))))
  have hn : n ≤ 300 := by
    have : ¬ (n : Int) > 300 := by simpa using hn
    omega
  refine aw_ifs (decide (lenZ tx > 300)) (fun _ => ?_) (fun hx => ?_)
  · exact aw_assoc (aw_reg0 (aw_rets (lawE_leaf (by kernel_rfl))))
  have hx : (bytesOfS tx).length ≤ 300 := by
    have : ¬ lenZ tx > 300 := by simpa using hx
    unfold lenZ at this
    omega
  have e0 : 0 + n = n := Nat.zero_add n
  refine aw_skips (aw_reg (True ∧ (True ∧ (∀ j, j < n → [D.val (.int .u8 (b j))].length = 1 ∧ [D.val (.int .u8 (b j))].all okCell = true) ∧ 0 + n ≤ 1048576)) ⟨trivial, trivial, fun _ _ => ⟨rfl, rfl⟩, by omega⟩ ?_)
  refine aw_reg (True ∧ ((0 + n = 0 + n ∧ ∀ j, j < 0 + n → D.val (.int .u8 (b j)) = D.val (.int .u8 (b j))) ∧ 0 + n ≤ 1000000)) ⟨trivial, ⟨rfl, fun _ _ => rfl⟩, by omega⟩ ?_
  refine aw_opens (awr_testq 8 31 ((True ∧ (((0 + n = 0 + n ∧ ∀ j, j < 0 + n → D.val (.int .u8 (b j)) = D.val (.int .u8 (b j))) ∧ 0 ≤ s) ∧ 0 + n ≤ 1000000 ∧ ∀ j, j < 0 + n → 0 ≤ b j ∧ b j < 256)) ∧ (((∀ j, j < n → [D.val (.int .u8 (b j))] = [D.val (.int .u8 (b j))]) ∧ 0 ≤ s) ∧ n ≤ 1000000 ∧ ∀ j, j < n → 0 ≤ b j ∧ b j < 256))
    ⟨⟨trivial, ⟨⟨rfl, fun _ _ => rfl⟩, hs⟩, by omega, by rw [e0]; exact hb⟩, ⟨fun _ _ => rfl, hs⟩, by omega, hb⟩ (digN s ((List.range (0 + n)).map b) == digN s ((List.range n).map b)) (fun _ => ?_) (fun h => ?_))
  rotate_left
  · rw [e0, beq_self_eq_true] at h; cases h
  have hS : (bytesOfS ⟨⟨(List.range n).map fun i => UInt8.ofNat (b i).toNat⟩⟩).length = n := by simp [bytesOfS]
  refine awr_testq 11 42 ((((True ∧ (∀ j, j < n → [D.val (.int .u8 (b j))] = [D.val (.int .u8 (b j))])) ∧ (bytesOfS tx).length + (bytesOfS ⟨⟨(List.range n).map fun i => UInt8.ofNat (b i).toNat⟩⟩).length ≤ 1000) ∧ (∀ j, j < n → [D.val (.int .u8 (b j))] = [D.val (.int .u8 (b j))])) ∧ (bytesOfS tx).length + (bytesOfS ⟨⟨(List.range n).map fun i => UInt8.ofNat (b i).toNat⟩⟩).length ≤ 1000)
    ⟨⟨⟨⟨trivial, fun _ _ => rfl⟩, by rw [hS]; omega⟩, fun _ _ => rfl⟩, by rw [hS]; omega⟩ (keyD tx ⟨⟨(List.range n).map fun i => UInt8.ofNat (b i).toNat⟩⟩ == keyD tx ⟨⟨(List.range n).map fun i => UInt8.ofNat (b i).toNat⟩⟩) (fun _ => ?_) (fun h => ?_)
  rotate_left
  · rw [beq_self_eq_true] at h; cases h
  refine awr_testq 7 49 ((True ∧ ((∀ j, j < n → [D.val (.int .u8 (b j))] = [D.val (.int .u8 (b j))]) ∧ n ≤ 1000000)) ∧ (((0 + n = 0 + n ∧ ∀ j, j < 0 + n → D.val (.int .u8 (cipB s b j)) = D.val (.int .u8 (cipB s b j))) ∧ (n = n ∧ ∀ j, j < n → D.val (.int .u8 (cipB s b j)) = D.val (.int .u8 (cipB s b j)))) ∧ 0 + n ≤ 1000000))
    ⟨⟨trivial, fun _ _ => rfl, by omega⟩, ⟨⟨rfl, fun _ _ => rfl⟩, rfl, fun _ _ => rfl⟩, by omega⟩ (sameB (0 + n) (cipB s b) n (cipB s b)) (fun _ => ?_) (fun h => ?_)
  rotate_left
  · rw [sameB_true ⟨e0, fun _ _ => rfl⟩] at h; cases h
  refine awr_testq 5 54 (True ∧ (((0 + n = 0 + n ∧ ∀ j, j < 0 + n → D.val (.int .u8 (b j)) = D.val (.int .u8 (b j))) ∧ ∀ j, j < n → [D.val (.int .u8 (b j))] = [D.val (.int .u8 (b j))]) ∧ 0 + n ≤ 1000000))
    ⟨trivial, ⟨⟨rfl, fun _ _ => rfl⟩, fun _ _ => rfl⟩, by omega⟩ (sameB (0 + n) b n b) (fun _ => ?_) (fun h => ?_)
  rotate_left
  · rw [sameB_true ⟨e0, fun _ _ => rfl⟩] at h; cases h
  exact awr_end0 (aw_ret (lawE_leaf (by kernel_rfl)))
end Go.Ev

