/- HallSecret is true for every input: for any hall, any campaigns, any plan, any customer and any bytes, the law returns true and changes nothing that it was given. -/
import Derived.Test.YtmekepomgofiaaaCS25
import Derived.Test.YtmekepomgofiaaaCS14
set_option linter.all false
section
open Go Go.Ev Go.RowKit
namespace Go.Ev
set_option maxRecDepth 100000
set_option maxHeartbeats 20000000
set_option linter.all false
theorem secret_law (h : Hall) (n : Nat) (c : Nat → Camp) (m : Nat) (p : Nat → Int) (cu : Int) (u : Nat) (b : Nat → Int) (hb : ∀ i, i < u → 0 ≤ b i ∧ b i ≤ 255) : Alone PG 11 [.agg (hallD h), rowC n c, .agg [rowI m p, i6 cu, rowU u b]] (bD true) :=
  Alone.ofW (cl := T45) (raw := false) hm0 T45_ok cf_11 fun K w => by
    have hC : (rowCamp fun i => tabF (fun j => i6 (campI c j)) (i * 7) 7) = c := funext fun i => (congrArg campL (camp_tab c i)).trans (campL_D _)
    have hCF : ∀ i, tabF (fun j => i6 (campI c j)) (i * 7) 7 = campD (rowCamp (fun i => tabF (fun j => i6 (campI c j)) (i * 7) 7) i) := fun i => (camp_tab c i).trans (congrArg campD (congrFun hC i).symm)
    have eE : viewE h n (rowCamp fun i => tabF (fun j => i6 (campI c j)) (i * 7) 7) m (rowInt fun i => [i6 (p i)]) cu = viewE h n c m p cu := by rw [hC]; rfl
    have eK : viewK h n (rowCamp fun i => tabF (fun j => i6 (campI c j)) (i * 7) 7) m (rowInt fun i => [i6 (p i)]) cu = viewK h n c m p cu := by rw [hC]; rfl
    refine aw_reg0 (aw_assoc (aw_opens (awr_testd 5 (27 : Nat) (True) trivial ((↑h.n : Int) > (30 : Int)) (fun h1 => awr_end0 (aw_yes (aw_assoc (aw_reg0 (aw_rets (end_b (true) ?_)))))) (fun h2 => awr_testd 5 (32 : Nat) (True) trivial ((↑n : Int) > (15 : Int)) (fun h3 => awr_end0 (aw_yes (aw_assoc (aw_reg0 (aw_rets (end_b (true) ?_)))))) (fun h4 => awr_testd 6 (38 : Nat) (True) trivial ((↑m : Int) > (15 : Int)) (fun h5 => awr_end0 (aw_yes (aw_assoc (aw_reg0 (aw_rets (end_b (true) ?_)))))) (fun h6 => awr_end0 (aw_ifsd ((↑h.m : Int) > (200 : Int)) (fun h7 => aw_assoc (aw_reg0 (aw_rets (end_b (true) ?_)))) (fun h8 => aw_skips (aw_reg ((((True ∧ ((∀ (i : Nat), i < h.n → [i6 (h.st i)] = [i6 (h.st i)]) ∧ ∀ (i : Nat), i < h.m → [i6 (h.en i)] = [i6 (h.en i)]) ∧ h.n ≤ (100000 : Nat) ∧ h.m ≤ (100000 : Nat)) ∧ (∀ (i : Nat), i < n → campD (c i) = campD (c i)) ∧ n ≤ (100000 : Nat)) ∧ (∀ (i : Nat), i < m → [i6 (p i)] = [i6 (p i)]) ∧ m ≤ (100000 : Nat)) ∧ (((∀ (i : Nat), i < h.n → True ∧ True) ∧ (0 : Nat) + h.m * (1 : Nat) ≤ h.m ∧ ∀ (j : Nat), j < h.m → True) ∧ ((0 : Nat) + n * (7 : Nat) ≤ n * (7 : Nat) ∧ ∀ (j : Nat), j < n * (7 : Nat) → True) ∧ (0 : Nat) + m * (1 : Nat) ≤ m ∧ ∀ (j : Nat), j < m → True) ∧ ((∀ (i : Nat), i < h.n → [i6 (h.st i)] = [i6 (rowInt (fun (i : Nat) => [i6 (h.st i)]) i)]) ∧ ∀ (i : Nat), i < h.m → [D.val (Value.int IntKind.i64 (h.en i))] = [i6 (rowInt (fun (i : Nat) => [D.val (Value.int IntKind.i64 (h.en i))]) i)]) ∧ (∀ (i : Nat), i < n → [D.val (Value.int IntKind.i64 (campI c (i * (7 : Nat)))), D.val (Value.int IntKind.i64 (campI c (i * (7 : Nat) + (1 : Nat)))), D.val (Value.int IntKind.i64 (campI c (i * (7 : Nat) + (1 : Nat) + (1 : Nat)))), D.val (Value.int IntKind.i64 (campI c (i * (7 : Nat) + (1 : Nat) + (1 : Nat) + (1 : Nat)))), D.val (Value.int IntKind.i64 (campI c (i * (7 : Nat) + (1 : Nat) + (1 : Nat) + (1 : Nat) + (1 : Nat)))), D.val (Value.int IntKind.i64 (campI c (i * (7 : Nat) + (1 : Nat) + (1 : Nat) + (1 : Nat) + (1 : Nat) + (1 : Nat)))), D.val (Value.int IntKind.i64 (campI c (i * (7 : Nat) + (1 : Nat) + (1 : Nat) + (1 : Nat) + (1 : Nat) + (1 : Nat) + (1 : Nat))))] = campD (rowCamp (fun (i : Nat) => [D.val (Value.int IntKind.i64 (campI c (i * (7 : Nat)))), D.val (Value.int IntKind.i64 (campI c (i * (7 : Nat) + (1 : Nat)))), D.val (Value.int IntKind.i64 (campI c (i * (7 : Nat) + (1 : Nat) + (1 : Nat)))), D.val (Value.int IntKind.i64 (campI c (i * (7 : Nat) + (1 : Nat) + (1 : Nat) + (1 : Nat)))), D.val (Value.int IntKind.i64 (campI c (i * (7 : Nat) + (1 : Nat) + (1 : Nat) + (1 : Nat) + (1 : Nat)))), D.val (Value.int IntKind.i64 (campI c (i * (7 : Nat) + (1 : Nat) + (1 : Nat) + (1 : Nat) + (1 : Nat) + (1 : Nat)))), D.val (Value.int IntKind.i64 (campI c (i * (7 : Nat) + (1 : Nat) + (1 : Nat) + (1 : Nat) + (1 : Nat) + (1 : Nat) + (1 : Nat))))]) i)) ∧ (∀ (i : Nat), i < m → [D.val (Value.int IntKind.i64 (p i))] = [i6 (rowInt (fun (i : Nat) => [D.val (Value.int IntKind.i64 (p i))]) i)]) ∧ n ≤ (100000 : Nat) ∧ m ≤ (100000 : Nat) ∧ h.n ≤ (100000 : Nat) ∧ h.m ≤ (100000 : Nat)) (by ((try simp only [inRange_i64] at *); (try simp only [implies_true, and_self, true_and, and_true]); (repeat' (with_reducible apply And.intro)) <;> first | exact True.intro | exact fun _ _ => rfl | exact fun _ _ => ⟨rfl, rfl⟩ | omega | assumption | (intros; simp [freeL, freeD]; done))) (aw_assoc (aw_reg0 (aw_ifsne (viewE { ro := h.ro, cl := h.cl, n := h.n, st := rowInt fun (i : Nat) => [i6 (h.st i)], m := h.m, en := rowInt fun (i : Nat) => [D.val (Value.int IntKind.i64 (h.en i))] } n (rowCamp fun (i : Nat) => [D.val (Value.int IntKind.i64 (campI c (i * (7 : Nat)))), D.val (Value.int IntKind.i64 (campI c (i * (7 : Nat) + (1 : Nat)))), D.val (Value.int IntKind.i64 (campI c (i * (7 : Nat) + (1 : Nat) + (1 : Nat)))), D.val (Value.int IntKind.i64 (campI c (i * (7 : Nat) + (1 : Nat) + (1 : Nat) + (1 : Nat)))), D.val (Value.int IntKind.i64 (campI c (i * (7 : Nat) + (1 : Nat) + (1 : Nat) + (1 : Nat) + (1 : Nat)))), D.val (Value.int IntKind.i64 (campI c (i * (7 : Nat) + (1 : Nat) + (1 : Nat) + (1 : Nat) + (1 : Nat) + (1 : Nat)))), D.val (Value.int IntKind.i64 (campI c (i * (7 : Nat) + (1 : Nat) + (1 : Nat) + (1 : Nat) + (1 : Nat) + (1 : Nat) + (1 : Nat))))]) m (rowInt fun (i : Nat) => [D.val (Value.int IntKind.i64 (p i))]) cu) ((0 : Int)) (fun h9 => aw_assoc (aw_opens (awr_teste 4 (63 : Nat) (True) trivial ((↑(okN (viewK { ro := h.ro, cl := h.cl, n := h.n, st := rowInt fun (i : Nat) => [i6 (h.st i)], m := h.m, en := rowInt fun (i : Nat) => [D.val (Value.int IntKind.i64 (h.en i))] } n (rowCamp fun (i : Nat) => [D.val (Value.int IntKind.i64 (campI c (i * (7 : Nat)))), D.val (Value.int IntKind.i64 (campI c (i * (7 : Nat) + (1 : Nat)))), D.val (Value.int IntKind.i64 (campI c (i * (7 : Nat) + (1 : Nat) + (1 : Nat)))), D.val (Value.int IntKind.i64 (campI c (i * (7 : Nat) + (1 : Nat) + (1 : Nat) + (1 : Nat)))), D.val (Value.int IntKind.i64 (campI c (i * (7 : Nat) + (1 : Nat) + (1 : Nat) + (1 : Nat) + (1 : Nat)))), D.val (Value.int IntKind.i64 (campI c (i * (7 : Nat) + (1 : Nat) + (1 : Nat) + (1 : Nat) + (1 : Nat) + (1 : Nat)))), D.val (Value.int IntKind.i64 (campI c (i * (7 : Nat) + (1 : Nat) + (1 : Nat) + (1 : Nat) + (1 : Nat) + (1 : Nat) + (1 : Nat))))]) m (rowInt fun (i : Nat) => [D.val (Value.int IntKind.i64 (p i))]) cu) h.n) : Int)) ((0 : Int)) (fun h10 => awr_end0 (aw_rets (end_b (true) ?_))) (fun h11 => awr_end0 (aw_rets (end_b (false) ?_)))))) (fun h12 => aw_skips (aw_assoc (aw_opens (awr_testne 7 (72 : Nat) (True) trivial ((↑m : Int)) ((↑n : Int)) (fun h13 => awr_end0 (aw_yes (aw_assoc (aw_reg0 (aw_rets (end_b (false) ?_)))))) (fun h14 => awr_end0 (aw_ifsne ((↑(okN (viewK { ro := h.ro, cl := h.cl, n := h.n, st := rowInt fun (i : Nat) => [i6 (h.st i)], m := h.m, en := rowInt fun (i : Nat) => [D.val (Value.int IntKind.i64 (h.en i))] } n (rowCamp fun (i : Nat) => [D.val (Value.int IntKind.i64 (campI c (i * (7 : Nat)))), D.val (Value.int IntKind.i64 (campI c (i * (7 : Nat) + (1 : Nat)))), D.val (Value.int IntKind.i64 (campI c (i * (7 : Nat) + (1 : Nat) + (1 : Nat)))), D.val (Value.int IntKind.i64 (campI c (i * (7 : Nat) + (1 : Nat) + (1 : Nat) + (1 : Nat)))), D.val (Value.int IntKind.i64 (campI c (i * (7 : Nat) + (1 : Nat) + (1 : Nat) + (1 : Nat) + (1 : Nat)))), D.val (Value.int IntKind.i64 (campI c (i * (7 : Nat) + (1 : Nat) + (1 : Nat) + (1 : Nat) + (1 : Nat) + (1 : Nat)))), D.val (Value.int IntKind.i64 (campI c (i * (7 : Nat) + (1 : Nat) + (1 : Nat) + (1 : Nat) + (1 : Nat) + (1 : Nat) + (1 : Nat))))]) m (rowInt fun (i : Nat) => [D.val (Value.int IntKind.i64 (p i))]) cu) h.n) : Int)) ((↑h.n : Int)) (fun h15 => aw_assoc (aw_reg0 (aw_rets (end_b (false) ?_)))) (fun h16 => aw_skips (aw_reg ((True ∧ (∀ (i : Nat), i < n → campD (c i) = campD (c i)) ∧ n ≤ (100000 : Nat)) ∧ ((∀ (i : Nat), i < h.n → [i6 (h.st i)] = [i6 (h.st i)]) ∧ ∀ (i : Nat), i < h.m → [i6 (h.en i)] = [i6 (h.en i)]) ∧ h.n ≤ (100000 : Nat) ∧ h.m ≤ (100000 : Nat)) (by ((try simp only [inRange_i64] at *); (try simp only [implies_true, and_self, true_and, and_true]); (repeat' (with_reducible apply And.intro)) <;> first | exact True.intro | exact fun _ _ => rfl | exact fun _ _ => ⟨rfl, rfl⟩ | omega | assumption | (intros; simp [freeL, freeD]; done))) (aw_reg0 (aw_assoc (aw_reg0 (?_))))))))))))))))))))))))
    · rfl
    · rfl
    · rfl
    · rfl
    · rfl
    · exact absurd (by rw [show okN _ h.n = 0 from congrArg (okN · h.n) (view_bad h9)]; rfl) h11
    · exact absurd (view_ok (eE.symm.trans h12)).2.2 (by omega)
    · exact absurd (by rw [show okN _ h.n = h.n from congrArg (okN · h.n) (view_ok h12).2.1]) h15
    have hV := view_ok (eE.symm.trans h12)
    have hCg : ∀ X : Nat → Camp, (rowCamp fun i => tabF (fun j => i6 (campI X j)) (i * 7) 7) = X := fun X => funext fun i => (congrArg campL (camp_tab X i)).trans (campL_D _)
    clear h12 eE eK hCF
    have hmh : h.m = h.n := (okB_runs (p := p) (keepB_ok hV.1).1).1
    refine aw_loopV (ι := {i : Nat // i ≤ h.m}) hm0 (T45_ok K) (fun z => [(11, i6 z.1)]) (fun z => [(14, .arr h.m fun j => i6 (fillE h z.1 j))]) (fun z => h.m - z.1) ⟨0, Nat.zero_le _⟩ (fun z => ?_)
    obtain ⟨i, hi⟩ := z
    refine aw_assoc (aw_reg0 (aw_ifsd ((↑i : Int) < (↑h.m : Int)) (fun h17 => aw_skips (aw_blocks (aw_end ((True ∧ (0 : Int) ≤ (↑i : Int) ∧ (↑i : Int) < (↑h.m : Int)) ∧ i + (1 : Nat) ≤ h.m) (by (simp only [inRange_i64, true_and]; omega)) (blk_normal (seq_normal (aw_end (True ∧ inRange IntKind.i64 ((↑i : Int) + (1 : Int))) (by (simp only [inRange_i64, true_and]; omega)) (?_))))))) (fun h18 => aw_exits (round_exit (blk_exit (seq_normal (aw_reg ((True ∧ (∀ (i : Nat), i < n → campD (c i) = campD (c i)) ∧ n ≤ (100000 : Nat)) ∧ (∀ (i : Nat), i < m → [i6 (p i)] = [i6 (p i)]) ∧ m ≤ (100000 : Nat)) (by ((try simp only [inRange_i64] at *); (try simp only [implies_true, and_self, true_and, and_true]); (repeat' (with_reducible apply And.intro)) <;> first | exact True.intro | exact fun _ _ => rfl | exact fun _ _ => ⟨rfl, rfl⟩ | omega | assumption | (intros; simp [freeL, freeD]; done))) (aw_assoc (aw_reg0 (?_))))))))))
    · refine round_rb 14 (.arr h.m (updF (fun j => i6 (fillE h i j)) i [i6 1000])) (.arr h.m fun j => i6 (fillE h (i + 1) j)) (arr_arr rfl fun j hj => fillE_upd) ?_
      exact round_v ⟨i + 1, by omega⟩ (by show h.m - (i + 1) < h.m - i; omega)
    obtain rfl : i = h.m := by omega
    refine aw_loopL (List.range' 23 259) (secS h n c m p cu u b) secG hm0 (T45_ok K) (secC n c m cu) (secB h n c m p cu u b) secM (.inl ⟨0, Nat.zero_le _⟩) (fun z => ?_) (by
        show _ = lst _ _ [(12, .arr (n * 7) fun j => i6 (campI (othC h c p cu (pickB u b) 0) j)), (17, .arr (n * 7) fun j => i6 (campI c j)), (20, .arr m fun j => i6 (p j))] _
        rw [othC_0]
        kernel_rfl)
    rcases z with ⟨i, hi⟩ | ⟨⟨i, q, k⟩, hz⟩
    · exact secret_inl h n c m p cu u b hb hV (by omega) (by omega) (by omega) (by omega) K w i hi
    · exact secret_inr h n c m p cu u b hb hV (by omega) (by omega) (by omega) (by omega) K w i q k hz

end Go.Ev
end
section
open Go Go.Ev Go.RowKit
namespace Go.Proofs.Ytmekepomgofiaaa
open Go.ChangeShapes Go.WideShapes Go.ChangeAt Go.RowKit Go.Ev Go.Deep Go.Joins
set_option maxRecDepth 100000
set_option linter.all false
section
variable {H : Type} {enc : TypeId × Value → H} {w : World}
theorem bytes_open {fuel b0 : Nat} {v : Value} {y : DataW H × List MemPlace} (hval : Cell.okWide Try.prog w .any b0 91 v) (h : DataW.trod enc Try.prog w 0 (fun _ => true) true fuel 91 [v] = some y) :
    ∃ (n : Nat) (b : Nat → Int), Rep noCust (mask noCust w [.fresh]) [.fresh] (rowU n b) v ∧ (∀ j, j < n → 0 ≤ b j ∧ b j ≤ 255) := by
  rcases open_slice1 Try.underlying91 (by kernel_rfl) h with ⟨e, -⟩ | ⟨a, len, cap, m, n, V, D, Pl, e, hb, hl, hm, hmm, -, hx⟩
  · simp only [List.cons.injEq, and_true] at e
    subst e
    refine ⟨0, fun _ => 0, ?_, fun j hj => by omega⟩
    simp only [rowU, Rep]
    exact .inl (by simp)
  · simp only [List.cons.injEq, and_true] at e
    subst e
    simp only [if_true] at hmm
    subst hmm
    have hspot : a.spot = none := by
      simp only [Cell.okWide, Cell.ok, Try.underlying91] at hval
      exact hval.2.2.2.1
    have each : ∀ i, i < len → ∃ x : Int, V i = .int .u8 x ∧ 0 ≤ x ∧ x ≤ 255 := fun i hi => by
      obtain ⟨x, h1, -, h3⟩ := DataW.trod_int Try.underlying5 (hx i (by omega)).2
      simp only [List.cons.injEq, and_true] at h1
      refine ⟨x, h1, ?_⟩
      simp only [Lit.wf, IntKind.min, IntKind.max, IntKind.signed, IntKind.bits, Bool.and_eq_true, decide_eq_true_eq] at h3
      simp at h3
      omega
    obtain ⟨b, hbx⟩ := choose_lt each
    refine ⟨len, b, ?_, fun j hj => (hbx j hj).2⟩
    obtain ⟨blk, o, sp⟩ := a
    simp only at hspot
    subst hspot
    simp only [rowU, Rep]
    refine .inr ⟨blk, o, _, rfl, hl, fun i hi => ?_⟩
    simp only [RepC, and_true]
    refine ⟨.int .u8 (b i), see_cell ?_, rfl⟩
    rw [← (hbx i hi).1, ← (hx i (by omega)).1, Nat.mul_one, add_none]
theorem guise_open {b0 : Nat} {v : Value} {d : DataW H} {p : List MemPlace} (hval : Value.okWide Try.prog w .any b0 93 v) (h : DataW.Trod enc Try.prog w 0 (fun _ => true) true 93 v d p) :
    ∃ (m : Nat) (q : Nat → Int) (cu : Int) (u : Nat) (b : Nat → Int), Rep noCust (mask noCust w [.fresh]) [.fresh] (.agg [rowI m q, i6 cu, rowU u b]) v ∧ (∀ j, j < u → 0 ≤ b j ∧ b j ≤ 255) := by
  obtain ⟨v0, v1, v2, y0, y1, y2, n, rfl, -, -, h0, h1, h2⟩ := open_agg3 Try.underlying93 (by kernel_rfl) (by kernel_rfl) hval h
  simp only [Value.okWide, Try.underlying93] at hval
  obtain ⟨cs, e, hsz, ts, hts, -, hcell⟩ := hval
  cases e
  obtain rfl : ts = [22, 3, 91] := by
    have : Try.prog.cellTypes Try.prog.depth 93 = some [22, 3, 91] := by kernel_rfl
    rw [this] at hts
    exact (Option.some.inj hts).symm
  obtain ⟨a, rfl⟩ := i_open h1
  obtain ⟨t, ht, ok2⟩ := hcell 0 v0 rfl
  obtain rfl : 22 = t := Option.some.inj ht
  obtain ⟨t, ht, ok3⟩ := hcell 2 v2 rfl
  obtain rfl : 91 = t := Option.some.inj ht
  obtain ⟨n2, f2, r2⟩ := ints_open ok2 h0
  obtain ⟨u, b, r3, hb⟩ := bytes_open ok3 h2
  refine ⟨n2, f2, a, u, b, ?_, hb⟩
  simp only [Rep, RepL]
  exact ⟨[v0, .int .i64 a, v2], rfl, _, _, rfl, r2, _, _, rfl, rfl, _, _, rfl, r3, rfl⟩
end
theorem hallSecret_lifted (os : Os) (started : os.Started) (H : Type) (enc : TypeId × Value → H) :
    ReturnsInHanded {} Try.checked os 11 .any (Rows.hallSecretSpec.pre6 enc Try.prog Try.f11 Rows.hallSecretRow.domain false) (Rows.hallSecretSpec.post enc Try.prog Try.f11 false true false false) := by
  refine returnsInHanded_of_change (C := Try.checked) Try.own started (by kernel_rfl) Try.func11
    (ChangeSpec.witness6 (enc := enc) (C := Try.checked) false ⟨#[], #[.agg #[.int .i64 0, .int .i64 0, .slice none 0 0, .slice none 0 0], .slice none 0 0, .agg #[.slice none 0 0, .int .i64 0, .slice none 0 0]], []⟩ 8 (by kernel_rfl) (by kernel_rfl) (by kernel_rfl) (by kernel_rfl)) ?_
  intro W base args ds gs before hval0 hW hcnd _
  have hval : ∀ (j : Nat) t v, Try.f11.params[j]? = some t → args[j]? = some v → Value.okWide Try.prog W .any base t v := hval0
  have hW' := hW
  obtain ⟨p, q, hA0, hV, rfl, hfz, hnd⟩ := hW
  have hA : DataW.TrodAll enc Try.prog W 0 (fun _ => true) true Try.f11.params.toList args.toList ds p := hA0
  rw [Try.params11] at hA hval
  obtain ⟨v1, v2, v3, d1, d2, d3, p1, p2, p3, rfl, rfl, hp, h1, h2, h3⟩ := trodAll_three hA
  obtain ⟨rfl, rfl⟩ := trodVars_none hV
  simp only [List.append_nil] at hW'
  have hlt : ∀ x ∈ p, x.block < W.heap.size := fun x hx => by simpa using hW'.lt x hx
  have m1 : ∀ x ∈ p1, x.block < W.heap.size := fun x hx => hlt x (by rw [hp]; simp [hx])
  have m2 : ∀ x ∈ p2, x.block < W.heap.size := fun x hx => hlt x (by rw [hp]; simp [hx])
  have m3 : ∀ x ∈ p3, x.block < W.heap.size := fun x hx => hlt x (by rw [hp]; simp [hx])
  have hargs : ∀ (W' : World), Below W.heap.size W W' → DataW.TrodAll enc Try.prog W' 0 (fun b => decide (b < W.heap.size)) true [24, 25, 93] [v1, v2, v3] [d1, d2, d3] p := fun W' hn => by
    rw [hp, List.append_assoc]
    exact trodAll_mk3 (Below.trod Try.laidOut (by kernel_rfl) (of_decide_eq_true (by kernel_rfl)) h1 hn m1) (Below.trod Try.laidOut (by kernel_rfl) (of_decide_eq_true (by kernel_rfl)) h2 hn m2) (Below.trod Try.laidOut (by kernel_rfl) (of_decide_eq_true (by kernel_rfl)) h3 hn m3)
  obtain ⟨x, r1⟩ := hall_open (hval 0 24 v1 rfl rfl) h1
  have ok2 : Cell.okWide Try.prog W .any base 25 v2 := by
    have := hval 1 25 v2 rfl rfl
    simp only [Value.okWide, Try.underlying25] at this
    exact this
  obtain ⟨fu2, f2⟩ := h2
  obtain ⟨sa, sl, sc, ev2⟩ := okWide_slice Try.underlying25 (hval 1 25 v2 rfl rfl)
  subst ev2
  obtain ⟨n, c, r2⟩ := camps_open ok2 f2
  obtain ⟨m, pl, cu, u, b, r3, hb⟩ := guise_open (hval 2 93 v3 rfl rfl) h3
  have hwalk := calls_true (secret_law x n c m pl cu u b hb) (vs := [v1, .slice sa sl sc, v3]) (w := W) ⟨_, _, rfl, r1, _, _, rfl, r2, _, _, rfl, r3, rfl⟩
  refine hwalk.mono fun e W' ⟨he, hbl⟩ => ?_
  subst he
  exact ⟨_, rfl, _, _, _, [], p, [], hW', trodAll_mk1 (shut_bool Try.underlying4 _), hargs _ hbl, rfl, hbl.frame _, fun h => by cases h⟩
theorem hallSecret_holds : Rows.HallSecretSaid :=
  OpenClaim.holds_of_wide 11 Try.f11 rfl rfl rfl rfl rfl rfl rfl ⟨rfl, rfl, rfl, rfl, rfl⟩ rfl rfl rfl rfl rfl (by kernel_rfl) Try.func11 (by kernel_rfl)
    (of_decide_eq_true (by kernel_rfl)) (by unfold Func.isWrapper; first | (rw [if_pos (by decide +kernel)]; kernel_rfl) | (rw [if_neg (by decide +kernel)]; exact ⟨rfl, rfl⟩))
    (fun os started H enc _ => hallSecret_lifted os started H enc)
end Go.Proofs.Ytmekepomgofiaaa
end
