import Derived.Test.YtmekepomgofiaaaHD
import Derived.Test.YtmekepomgofiaaaEvZg
import Derived.Test.YtmekepomgofiaaaEvZn
set_option linter.all false
open Go Go.Ev Go.RowKit
namespace Go.Ev
set_option maxRecDepth 100000
set_option maxHeartbeats 2000000
set_option linter.all false

theorem anyI_succ {p : Nat → Bool} {n : Nat} : anyI p (n + 1) = (anyI p n || p n) := by simp [anyI, List.range_succ]
theorem own_t {cu t : Int} {c : Nat → Camp} {p : Nat → Int} {i : Nat} (h : (c i).cu = cu) (h2 : p i ≤ t ∧ t - p i < (c i).ho) : ownP cu t (planR c p i) = true := by
  show (decide ((c i).cu = cu) && decide (p i ≤ t ∧ t ≤ p i + (c i).ho - 1)) = true
  simp only [Bool.and_eq_true, decide_eq_true_eq]; omega
theorem own_f {cu t : Int} {c : Nat → Camp} {p : Nat → Int} {i : Nat} (h : ¬ ((c i).cu = cu ∧ p i ≤ t ∧ t - p i < (c i).ho)) : ownP cu t (planR c p i) = false := by
  rw [Bool.eq_false_iff]; intro q
  change (decide ((c i).cu = cu) && decide (p i ≤ t ∧ t ≤ p i + (c i).ho - 1)) = true at q
  simp only [Bool.and_eq_true, decide_eq_true_eq] at q; omega
theorem pre_t {cu t : Int} {c : Nat → Camp} {p : Nat → Int} {i : Nat} (h : (c i).cu = cu) (h2 : t < p i ∧ p i - t ≤ (c i).pr) : preP cu t (planR c p i) = true := by
  show (decide ((c i).cu = cu) && decide (p i - (c i).pr ≤ t ∧ t ≤ p i - 1)) = true
  simp only [Bool.and_eq_true, decide_eq_true_eq]; omega
theorem pre_f {cu t : Int} {c : Nat → Camp} {p : Nat → Int} {i : Nat} (h : ¬ ((c i).cu = cu ∧ t < p i ∧ p i - t ≤ (c i).pr)) : preP cu t (planR c p i) = false := by
  rw [Bool.eq_false_iff]; intro q
  change (decide ((c i).cu = cu) && decide (p i - (c i).pr ≤ t ∧ t ≤ p i - 1)) = true at q
  simp only [Bool.and_eq_true, decide_eq_true_eq] at q; omega
theorem clo_t {h : Hall} {cu t : Int} {c : Nat → Camp} {p : Nat → Int} {i : Nat} (e : ¬ (c i).cu = cu) (h2 : ∃ g, -h.cl ≤ g ∧ g ≤ h.cl ∧ p i ≤ t + g ∧ t + g - p i < (c i).ho) : cloP h cu t (planR c p i) = true := by
  obtain ⟨g, h2⟩ := h2
  show (!decide ((c i).cu = cu) && decide (p i - h.cl ≤ t ∧ t ≤ p i + (c i).ho + h.cl - 1)) = true
  simp only [Bool.and_eq_true, Bool.not_eq_true', decide_eq_true_eq, decide_eq_false_iff_not]; omega
theorem clo_f {h : Hall} {cu t : Int} {c : Nat → Camp} {p : Nat → Int} {i : Nat} (hc : 0 ≤ h.cl ∧ 1 ≤ (c i).ho) (h2 : ∀ g, -h.cl ≤ g → g ≤ h.cl → ¬ (p i ≤ t + g ∧ t + g - p i < (c i).ho)) : cloP h cu t (planR c p i) = false := by
  rw [Bool.eq_false_iff]; intro q
  change (!decide ((c i).cu = cu) && decide (p i - h.cl ≤ t ∧ t ≤ p i + (c i).ho + h.cl - 1)) = true at q
  simp only [Bool.and_eq_true, Bool.not_eq_true', decide_eq_true_eq, decide_eq_false_iff_not] at q
  by_cases h3 : t < p i
  · exact h2 (p i - t) (by omega) (by omega) (by omega)
  · by_cases h4 : t > p i + (c i).ho - 1
    · exact h2 (p i + (c i).ho - 1 - t) (by omega) (by omega) (by omega)
    · exact h2 0 (by omega) (by omega) (by omega)
theorem clo_s {h : Hall} {cu t : Int} {c : Nat → Camp} {p : Nat → Int} {i : Nat} (e : (c i).cu = cu) : cloP h cu t (planR c p i) = false := by
  simp [cloP, planR, e]
def keepC (h : Hall) (n : Nat) (c : Nat → Camp) (p : Nat → Int) : Prop := h.n ≤ 96 ∧ n ≤ 1000 ∧ 0 ≤ h.cl ∧ h.cl ≤ 6 ∧ ∀ i, i < n → 0 ≤ p i ∧ p i ≤ 1000 ∧ 1 ≤ (c i).ho ∧ (c i).ho ≤ 24 ∧ 0 ≤ (c i).pr ∧ (c i).pr ≤ 24
def w3 (b : Bool) : Int := bif b then 3 else 0
theorem w3_look {h : Hall} {n : Nat} {x : Nat → Run} {cu t : Int} {b0 : Bool} (e : b0 = (h.st t.toNat == 0)) : (bif anyI (fun i => ownP cu t (x i)) n then (1 : Int) else bif anyI (fun i => preP cu t (x i)) n then 2 else w3 (b0 || anyI (fun i => cloP h cu t (x i)) n)) = lookB h n x cu t := by
  subst e
  rfl

theorem sees_alone (h : Hall) (n : Nat) (c : Nat → Camp) (m : Nat) (p : Nat → Int) (cu : Int) (t : Nat) (hm : m = n) (ht : t < h.n) (hv : keepC h n c p) : Alone PG 43 [.agg (hallD h), rowC n c, rowI m p, i6 cu, i6 t] (.val (.int .u8 (lookB h n (planR c p) cu t))) :=
  Alone.ofW (cl := T26) (raw := false) hm0 T26_ok cf_43 fun K w => by
    obtain ⟨k1, k2, k3, k4, hk⟩ := hv
    refine aw_reg0 (aw_reg0 (aw_assoc (aw_reg (True ∧ (0 : Int) ≤ (↑t : Int) ∧ (↑t : Int) < (↑h.n : Int)) (by (simp only [inRange_i64, true_and]; omega)) (aw_ifse (h.st t) ((0 : Int)) (fun h1 => aw_reg0 (aw_assoc (aw_reg0 (?_)))) (fun h2 => aw_skips (aw_assoc (aw_reg0 (?_))))))))
    · have hb0 : true = (h.st (t : Int).toNat == 0) := (beq_iff_eq.2 (by rw [Int.toNat_natCast]; assumption)).symm
      refine aw_loopV (ι := {z : Nat × Int // z.1 ≤ n ∧ z.2 = w3 (true || anyI (fun i => cloP h cu t (planR c p i)) z.1)}) hm0 (T26_ok K) (fun z => [(12, i6 z.1.1), (11, .val (.int .u8 z.1.2))]) (fun _ => []) (fun z => n - z.1.1) ⟨(0, w3 true), Nat.zero_le _, by simp [anyI]⟩ (fun z => ?_)
      obtain ⟨⟨i, v⟩, hi, hv⟩ := z
      simp only at hi hv
      refine aw_assoc (aw_reg0 (aw_ifsd ((↑i : Int) < (↑n : Int)) (fun h2 => aw_skips (aw_blocks (aw_assoc (aw_reg (True ∧ (0 : Int) ≤ (↑i : Int) ∧ (↑i : Int) < (↑n : Int)) (by (simp only [inRange_i64, true_and]; omega)) (aw_ifse ((c i).cu) (cu) (fun h3 => aw_exits (blk_exit (seq_normal (aw_end (True ∧ inRange IntKind.i64 ((↑i : Int) + (1 : Int))) (by (simp only [inRange_i64, true_and]; omega)) (?_))))) (fun h4 => aw_skips (aw_reg0 (?_)))))))) (fun h5 => aw_exits (round_exit (blk_exit (seq_normal (aw_assoc (aw_reg0 (?_)))))))))
      · exact round_v ⟨(i + 1, v), by show i + 1 ≤ n; omega, by show v = _; rw [anyI_succ, clo_s (by omega), Bool.or_false]; exact hv⟩ (by show n - (i + 1) < n - i; omega)
      · have hin : i < n := by omega
        have hpi := hk i hin
        have hng : IntKind.i64.wrap (0 - h.cl) = -h.cl := by rw [wrap_in (by simp only [inRange_i64]; omega)]; omega
        refine aw_loopE (ι := {z : Int × Int // -h.cl ≤ z.1 ∧ z.1 ≤ h.cl + 1 ∧ ((z.2 = 3 ∧ ∃ g, -h.cl ≤ g ∧ g < z.1 ∧ p i ≤ t + g ∧ t + g - p i < (c i).ho) ∨ (z.2 = v ∧ ∀ g, -h.cl ≤ g → g < z.1 → ¬ (p i ≤ t + g ∧ t + g - p i < (c i).ho)))}) hm0 (T26_ok K) (fun z => [(13, i6 z.1.1), (11, .val (.int .u8 z.1.2))]) (fun _ => []) (fun z => (h.cl + 1 - z.1.1).toNat) ⟨(IntKind.i64.wrap (0 - h.cl), v), by show -h.cl ≤ _; rw [hng]; exact Int.le_refl _, by show _ ≤ h.cl + 1; rw [hng]; omega, .inr ⟨rfl, fun g a b => by simp only [hng] at b; omega⟩⟩ (fun z => ?_)
        obtain ⟨⟨g, u⟩, hg1, hg2, hu⟩ := z
        simp only at hg1 hg2 hu
        refine aw_assoc (aw_reg0 (aw_ifsd (g ≤ h.cl) (fun h5 => aw_skips (aw_blocks (aw_reg ((((True ∧ (0 : Int) ≤ (↑i : Int) ∧ (↑i : Int) < (↑n : Int)) ∧ (0 : Int) ≤ (↑i : Int) ∧ (↑i : Int) < (↑m : Int)) ∧ inRange IntKind.i64 ((↑t : Int) + g)) ∧ ((-1000000 : Int) ≤ p i ∧ p i ≤ (1000000 : Int)) ∧ (-1000000 : Int) ≤ (↑t : Int) + g ∧ (↑t : Int) + g ≤ (1000000 : Int)) (by (simp only [inRange_i64, true_and]; omega)) (aw_if (runsP (c i) (p i) ((↑t : Int) + g)) (fun h6 => aw_end0 (blk_normal (seq_normal (aw_end (True ∧ inRange IntKind.i64 (g + (1 : Int))) (by (simp only [inRange_i64, true_and]; omega)) (round_t 2 ((True ∧ True ∧ (∀ (i : Nat), i < h.n → True ∧ True) ∧ (∀ (i : Nat), i < h.m → True ∧ True) ∧ True) ∧ (∀ (i : Nat), i < n → True ∧ True ∧ True ∧ True ∧ True ∧ True ∧ True ∧ True) ∧ (∀ (i : Nat), i < m → True ∧ True) ∧ (∀ (i : Nat), i < h.n → True ∧ True) ∧ (True ∧ True) ∧ (∀ (i : Nat), i < n → True ∧ True ∧ True ∧ True ∧ True ∧ True ∧ True ∧ True) ∧ (∀ (i : Nat), i < n → True ∧ True ∧ True ∧ True ∧ True ∧ True ∧ True ∧ True) ∧ (True ∧ True ∧ True ∧ True ∧ True ∧ True ∧ True ∧ True) ∧ (True ∧ True ∧ True ∧ True ∧ True ∧ True ∧ True ∧ True) ∧ True) (((∀ (i : Nat), i < h.n → True ∧ True) ∧ (∀ (i : Nat), i < h.m → True ∧ True) ∧ True) ∧ True) (by (simp)) (by (simp)) ?_))))) (fun h7 => aw_skip (blk_normal (seq_normal (aw_end (True ∧ inRange IntKind.i64 (g + (1 : Int))) (by (simp only [inRange_i64, true_and]; omega)) (round_t 2 ((True ∧ True ∧ (∀ (i : Nat), i < h.n → True ∧ True) ∧ (∀ (i : Nat), i < h.m → True ∧ True) ∧ True) ∧ (∀ (i : Nat), i < n → True ∧ True ∧ True ∧ True ∧ True ∧ True ∧ True ∧ True) ∧ (∀ (i : Nat), i < m → True ∧ True) ∧ (∀ (i : Nat), i < h.n → True ∧ True) ∧ (True ∧ True) ∧ (∀ (i : Nat), i < n → True ∧ True ∧ True ∧ True ∧ True ∧ True ∧ True ∧ True) ∧ (∀ (i : Nat), i < n → True ∧ True ∧ True ∧ True ∧ True ∧ True ∧ True ∧ True) ∧ (True ∧ True ∧ True ∧ True ∧ True ∧ True ∧ True ∧ True) ∧ (True ∧ True ∧ True ∧ True ∧ True ∧ True ∧ True ∧ True) ∧ True) (((∀ (i : Nat), i < h.n → True ∧ True) ∧ (∀ (i : Nat), i < h.m → True ∧ True) ∧ True) ∧ True) (by (simp)) (by (simp)) ?_))))))))) (fun h8 => aw_exits (round_exit (blk_exit (blk_normal (seq_normal (aw_end (True ∧ inRange IntKind.i64 ((↑i : Int) + (1 : Int))) (by (simp only [inRange_i64, true_and]; omega)) (?_)))))))))
        all_goals try simp only [runsP, decide_eq_true_eq, decide_eq_false_iff_not] at *
        all_goals first
          | exact round_v ⟨(g + 1, 3), by show -h.cl ≤ g + 1; omega, by show g + 1 ≤ h.cl + 1; omega, .inl ⟨rfl, g, hg1, by show g < g + 1; omega, by omega⟩⟩ (by show (h.cl + 1 - (g + 1)).toNat < (h.cl + 1 - g).toNat; omega)
          | exact round_v ⟨(g + 1, u), by show -h.cl ≤ g + 1; omega, by show g + 1 ≤ h.cl + 1; omega, by
              rcases hu with ⟨e, g', a1, a2, a3⟩ | ⟨e, a⟩
              · exact .inl ⟨e, g', a1, by show g' < g + 1; omega, a3⟩
              · refine .inr ⟨e, fun g' b1 b2 => ?_⟩
                simp only at b2
                rcases Int.lt_or_le g' g with q | q
                · exact a g' b1 q
                · obtain rfl : g' = g := by omega
                  omega⟩ (by show (h.cl + 1 - (g + 1)).toNat < (h.cl + 1 - g).toNat; omega)
          | exact round_v ⟨(i + 1, u), by show i + 1 ≤ n; omega, by
              show u = _
              rw [anyI_succ]
              rcases hu with ⟨e, g', a1, a2, a3⟩ | ⟨e, a⟩
              · rw [clo_t (by omega) ⟨g', a1, by omega, a3⟩, e]; simp [w3]
              · rw [clo_f (by omega) (fun g' b1 b2 => a g' b1 (by omega)), e, Bool.or_false]; exact hv⟩ (by show n - (i + 1) < n - i; omega)
      · have hin : i = n := by omega
        rw [hin] at hv
        refine aw_loopV (ι := {z : Nat × Int // z.1 ≤ n ∧ z.2 = bif anyI (fun i => preP cu t (planR c p i)) z.1 then 2 else v}) hm0 (T26_ok K) (fun z => [(14, i6 z.1.1), (11, .val (.int .u8 z.1.2))]) (fun _ => []) (fun z => n - z.1.1) ⟨(0, v), Nat.zero_le _, rfl⟩ (fun z => ?_)
        obtain ⟨⟨j, v2⟩, hj, hv2⟩ := z
        simp only at hj hv2
        refine aw_assoc (aw_reg0 (aw_ifsd ((↑j : Int) < (↑n : Int)) (fun h6 => aw_skips (aw_blocks (aw_opens (awr_teste 8 (69 : Nat) (True ∧ (0 : Int) ≤ (↑j : Int) ∧ (↑j : Int) < (↑n : Int)) (by (have := hk j (by omega); simp only [inRange_i64, true_and]; omega)) ((c j).cu) (cu) (fun h7 => awr_end (((True ∧ (0 : Int) ≤ (↑j : Int) ∧ (↑j : Int) < (↑n : Int)) ∧ (0 : Int) ≤ (↑j : Int) ∧ (↑j : Int) < (↑m : Int)) ∧ ((-1000000 : Int) ≤ p j ∧ p j ≤ (1000000 : Int)) ∧ (-1000000 : Int) ≤ (↑t : Int) ∧ (↑t : Int) ≤ (1000000 : Int)) (by (have := hk j (by omega); simp only [inRange_i64, true_and]; omega)) (aw_if (prepsP (c j) (p j) (↑t : Int)) (fun h8 => aw_end0 (blk_normal (seq_normal (aw_end (True ∧ inRange IntKind.i64 ((↑j : Int) + (1 : Int))) (by (have := hk j (by omega); simp only [inRange_i64, true_and]; omega)) (round_t 2 ((True ∧ True ∧ (∀ (i : Nat), i < h.n → True ∧ True) ∧ (∀ (i : Nat), i < h.m → True ∧ True) ∧ True) ∧ (∀ (i : Nat), i < n → True ∧ True ∧ True ∧ True ∧ True ∧ True ∧ True ∧ True) ∧ (∀ (i : Nat), i < m → True ∧ True) ∧ (∀ (i : Nat), i < h.n → True ∧ True) ∧ (True ∧ True) ∧ (∀ (i : Nat), i < n → True ∧ True ∧ True ∧ True ∧ True ∧ True ∧ True ∧ True) ∧ True) (((∀ (i : Nat), i < h.n → True ∧ True) ∧ (∀ (i : Nat), i < h.m → True ∧ True) ∧ True) ∧ True) (by (simp)) (by (simp)) ?_))))) (fun h9 => aw_skip (blk_normal (seq_normal (aw_end (True ∧ inRange IntKind.i64 ((↑j : Int) + (1 : Int))) (by (have := hk j (by omega); simp only [inRange_i64, true_and]; omega)) (round_t 2 ((True ∧ True ∧ (∀ (i : Nat), i < h.n → True ∧ True) ∧ (∀ (i : Nat), i < h.m → True ∧ True) ∧ True) ∧ (∀ (i : Nat), i < n → True ∧ True ∧ True ∧ True ∧ True ∧ True ∧ True ∧ True) ∧ (∀ (i : Nat), i < m → True ∧ True) ∧ (∀ (i : Nat), i < h.n → True ∧ True) ∧ (True ∧ True) ∧ (∀ (i : Nat), i < n → True ∧ True ∧ True ∧ True ∧ True ∧ True ∧ True ∧ True) ∧ True) (((∀ (i : Nat), i < h.n → True ∧ True) ∧ (∀ (i : Nat), i < h.m → True ∧ True) ∧ True) ∧ True) (by (simp)) (by (simp)) ?_))))))) (fun h10 => awr_end0 (aw_noE (aw_skip (blk_normal (seq_normal (aw_end (True ∧ inRange IntKind.i64 ((↑j : Int) + (1 : Int))) (by (have := hk j (by omega); simp only [inRange_i64, true_and]; omega)) (round_t 2 ((True ∧ True ∧ (∀ (i : Nat), i < h.n → True ∧ True) ∧ (∀ (i : Nat), i < h.m → True ∧ True) ∧ True) ∧ (∀ (i : Nat), i < n → True ∧ True ∧ True ∧ True ∧ True ∧ True ∧ True ∧ True) ∧ (∀ (i : Nat), i < m → True ∧ True) ∧ (∀ (i : Nat), i < h.n → True ∧ True) ∧ (True ∧ True) ∧ (∀ (i : Nat), i < n → True ∧ True ∧ True ∧ True ∧ True ∧ True ∧ True ∧ True) ∧ True) (((∀ (i : Nat), i < h.n → True ∧ True) ∧ (∀ (i : Nat), i < h.m → True ∧ True) ∧ True) ∧ True) (by (simp)) (by (simp)) ?_))))))))))) (fun h11 => aw_exits (round_exit (blk_exit (seq_normal (aw_assoc (aw_reg0 (?_)))))))))
        all_goals try simp only [prepsP, decide_eq_true_eq, decide_eq_false_iff_not] at *
        · exact round_v ⟨(j + 1, 2), by show j + 1 ≤ n; omega, by show 2 = _; rw [anyI_succ, pre_t (by omega) (by omega), Bool.or_true]; rfl⟩ (by show n - (j + 1) < n - j; omega)
        · exact round_v ⟨(j + 1, v2), by show j + 1 ≤ n; omega, by show v2 = _; rw [anyI_succ, pre_f (by omega), Bool.or_false]; exact hv2⟩ (by show n - (j + 1) < n - j; omega)
        · exact round_v ⟨(j + 1, v2), by show j + 1 ≤ n; omega, by show v2 = _; rw [anyI_succ, pre_f (by omega), Bool.or_false]; exact hv2⟩ (by show n - (j + 1) < n - j; omega)
        · have hjn : j = n := by omega
          rw [hjn] at hv2
          refine aw_loopV (ι := {z : Nat × Int // z.1 ≤ n ∧ z.2 = bif anyI (fun i => ownP cu t (planR c p i)) z.1 then 1 else v2}) hm0 (T26_ok K) (fun z => [(15, i6 z.1.1), (11, .val (.int .u8 z.1.2))]) (fun _ => []) (fun z => n - z.1.1) ⟨(0, v2), Nat.zero_le _, rfl⟩ (fun z => ?_)
          obtain ⟨⟨k, v3⟩, hk2, hv3⟩ := z
          simp only at hk2 hv3
          refine aw_assoc (aw_reg0 (aw_ifsd ((↑k : Int) < (↑n : Int)) (fun h12 => aw_skips (aw_blocks (aw_opens (awr_teste 8 (94 : Nat) (True ∧ (0 : Int) ≤ (↑k : Int) ∧ (↑k : Int) < (↑n : Int)) (by (have := hk k (by omega); simp only [inRange_i64, true_and]; omega)) ((c k).cu) (cu) (fun h13 => awr_end (((True ∧ (0 : Int) ≤ (↑k : Int) ∧ (↑k : Int) < (↑n : Int)) ∧ (0 : Int) ≤ (↑k : Int) ∧ (↑k : Int) < (↑m : Int)) ∧ ((-1000000 : Int) ≤ p k ∧ p k ≤ (1000000 : Int)) ∧ (-1000000 : Int) ≤ (↑t : Int) ∧ (↑t : Int) ≤ (1000000 : Int)) (by (have := hk k (by omega); simp only [inRange_i64, true_and]; omega)) (aw_if (runsP (c k) (p k) (↑t : Int)) (fun h14 => aw_end0 (blk_normal (seq_normal (aw_end (True ∧ inRange IntKind.i64 ((↑k : Int) + (1 : Int))) (by (have := hk k (by omega); simp only [inRange_i64, true_and]; omega)) (round_t 2 ((True ∧ True ∧ (∀ (i : Nat), i < h.n → True ∧ True) ∧ (∀ (i : Nat), i < h.m → True ∧ True) ∧ True) ∧ (∀ (i : Nat), i < n → True ∧ True ∧ True ∧ True ∧ True ∧ True ∧ True ∧ True) ∧ (∀ (i : Nat), i < m → True ∧ True) ∧ (∀ (i : Nat), i < h.n → True ∧ True) ∧ (True ∧ True) ∧ (∀ (i : Nat), i < n → True ∧ True ∧ True ∧ True ∧ True ∧ True ∧ True ∧ True) ∧ (∀ (i : Nat), i < n → True ∧ True ∧ True ∧ True ∧ True ∧ True ∧ True ∧ True) ∧ True) (((∀ (i : Nat), i < h.n → True ∧ True) ∧ (∀ (i : Nat), i < h.m → True ∧ True) ∧ True) ∧ True) (by (simp)) (by (simp)) ?_))))) (fun h15 => aw_skip (blk_normal (seq_normal (aw_end (True ∧ inRange IntKind.i64 ((↑k : Int) + (1 : Int))) (by (have := hk k (by omega); simp only [inRange_i64, true_and]; omega)) (round_t 2 ((True ∧ True ∧ (∀ (i : Nat), i < h.n → True ∧ True) ∧ (∀ (i : Nat), i < h.m → True ∧ True) ∧ True) ∧ (∀ (i : Nat), i < n → True ∧ True ∧ True ∧ True ∧ True ∧ True ∧ True ∧ True) ∧ (∀ (i : Nat), i < m → True ∧ True) ∧ (∀ (i : Nat), i < h.n → True ∧ True) ∧ (True ∧ True) ∧ (∀ (i : Nat), i < n → True ∧ True ∧ True ∧ True ∧ True ∧ True ∧ True ∧ True) ∧ (∀ (i : Nat), i < n → True ∧ True ∧ True ∧ True ∧ True ∧ True ∧ True ∧ True) ∧ True) (((∀ (i : Nat), i < h.n → True ∧ True) ∧ (∀ (i : Nat), i < h.m → True ∧ True) ∧ True) ∧ True) (by (simp)) (by (simp)) ?_))))))) (fun h16 => awr_end0 (aw_noE (aw_skip (blk_normal (seq_normal (aw_end (True ∧ inRange IntKind.i64 ((↑k : Int) + (1 : Int))) (by (have := hk k (by omega); simp only [inRange_i64, true_and]; omega)) (round_t 2 ((True ∧ True ∧ (∀ (i : Nat), i < h.n → True ∧ True) ∧ (∀ (i : Nat), i < h.m → True ∧ True) ∧ True) ∧ (∀ (i : Nat), i < n → True ∧ True ∧ True ∧ True ∧ True ∧ True ∧ True ∧ True) ∧ (∀ (i : Nat), i < m → True ∧ True) ∧ (∀ (i : Nat), i < h.n → True ∧ True) ∧ (True ∧ True) ∧ (∀ (i : Nat), i < n → True ∧ True ∧ True ∧ True ∧ True ∧ True ∧ True ∧ True) ∧ (∀ (i : Nat), i < n → True ∧ True ∧ True ∧ True ∧ True ∧ True ∧ True ∧ True) ∧ True) (((∀ (i : Nat), i < h.n → True ∧ True) ∧ (∀ (i : Nat), i < h.m → True ∧ True) ∧ True) ∧ True) (by (simp)) (by (simp)) ?_))))))))))) (fun h17 => aw_exits (round_exit (blk_exit (seq_normal (aw_reg0 (aw_ret (end_i (v3) ?_)))))))))
          all_goals try simp only [runsP, decide_eq_true_eq, decide_eq_false_iff_not] at *
          · exact round_v ⟨(k + 1, 1), by show k + 1 ≤ n; omega, by show 1 = _; rw [anyI_succ, own_t (by omega) (by omega), Bool.or_true]; rfl⟩ (by show n - (k + 1) < n - k; omega)
          · exact round_v ⟨(k + 1, v3), by show k + 1 ≤ n; omega, by show v3 = _; rw [anyI_succ, own_f (by omega), Bool.or_false]; exact hv3⟩ (by show n - (k + 1) < n - k; omega)
          · exact round_v ⟨(k + 1, v3), by show k + 1 ≤ n; omega, by show v3 = _; rw [anyI_succ, own_f (by omega), Bool.or_false]; exact hv3⟩ (by show n - (k + 1) < n - k; omega)
          · have hkn : k = n := by omega
            rw [hkn] at hv3
            show v3 = _
            rw [hv3, hv2, hv]
            exact w3_look hb0
    · have hb0 : false = (h.st (t : Int).toNat == 0) := (beq_eq_false_iff_ne.2 (by rw [Int.toNat_natCast]; assumption)).symm
      refine aw_loopV (ι := {z : Nat × Int // z.1 ≤ n ∧ z.2 = w3 (false || anyI (fun i => cloP h cu t (planR c p i)) z.1)}) hm0 (T26_ok K) (fun z => [(12, i6 z.1.1), (11, .val (.int .u8 z.1.2))]) (fun _ => []) (fun z => n - z.1.1) ⟨(0, w3 false), Nat.zero_le _, by simp [anyI]⟩ (fun z => ?_)
      obtain ⟨⟨i, v⟩, hi, hv⟩ := z
      simp only at hi hv
      refine aw_assoc (aw_reg0 (aw_ifsd ((↑i : Int) < (↑n : Int)) (fun h3 => aw_skips (aw_blocks (aw_assoc (aw_reg (True ∧ (0 : Int) ≤ (↑i : Int) ∧ (↑i : Int) < (↑n : Int)) (by (simp only [inRange_i64, true_and]; omega)) (aw_ifse ((c i).cu) (cu) (fun h4 => aw_exits (blk_exit (seq_normal (aw_end (True ∧ inRange IntKind.i64 ((↑i : Int) + (1 : Int))) (by (simp only [inRange_i64, true_and]; omega)) (?_))))) (fun h5 => aw_skips (aw_reg0 (?_)))))))) (fun h6 => aw_exits (round_exit (blk_exit (seq_normal (aw_assoc (aw_reg0 (?_)))))))))
      · exact round_v ⟨(i + 1, v), by show i + 1 ≤ n; omega, by show v = _; rw [anyI_succ, clo_s (by omega), Bool.or_false]; exact hv⟩ (by show n - (i + 1) < n - i; omega)
      · have hin : i < n := by omega
        have hpi := hk i hin
        have hng : IntKind.i64.wrap (0 - h.cl) = -h.cl := by rw [wrap_in (by simp only [inRange_i64]; omega)]; omega
        refine aw_loopE (ι := {z : Int × Int // -h.cl ≤ z.1 ∧ z.1 ≤ h.cl + 1 ∧ ((z.2 = 3 ∧ ∃ g, -h.cl ≤ g ∧ g < z.1 ∧ p i ≤ t + g ∧ t + g - p i < (c i).ho) ∨ (z.2 = v ∧ ∀ g, -h.cl ≤ g → g < z.1 → ¬ (p i ≤ t + g ∧ t + g - p i < (c i).ho)))}) hm0 (T26_ok K) (fun z => [(13, i6 z.1.1), (11, .val (.int .u8 z.1.2))]) (fun _ => []) (fun z => (h.cl + 1 - z.1.1).toNat) ⟨(IntKind.i64.wrap (0 - h.cl), v), by show -h.cl ≤ _; rw [hng]; exact Int.le_refl _, by show _ ≤ h.cl + 1; rw [hng]; omega, .inr ⟨rfl, fun g a b => by simp only [hng] at b; omega⟩⟩ (fun z => ?_)
        obtain ⟨⟨g, u⟩, hg1, hg2, hu⟩ := z
        simp only at hg1 hg2 hu
        refine aw_assoc (aw_reg0 (aw_ifsd (g ≤ h.cl) (fun h6 => aw_skips (aw_blocks (aw_reg ((((True ∧ (0 : Int) ≤ (↑i : Int) ∧ (↑i : Int) < (↑n : Int)) ∧ (0 : Int) ≤ (↑i : Int) ∧ (↑i : Int) < (↑m : Int)) ∧ inRange IntKind.i64 ((↑t : Int) + g)) ∧ ((-1000000 : Int) ≤ p i ∧ p i ≤ (1000000 : Int)) ∧ (-1000000 : Int) ≤ (↑t : Int) + g ∧ (↑t : Int) + g ≤ (1000000 : Int)) (by (simp only [inRange_i64, true_and]; omega)) (aw_if (runsP (c i) (p i) ((↑t : Int) + g)) (fun h7 => aw_end0 (blk_normal (seq_normal (aw_end (True ∧ inRange IntKind.i64 (g + (1 : Int))) (by (simp only [inRange_i64, true_and]; omega)) (round_t 2 ((True ∧ True ∧ (∀ (i : Nat), i < h.n → True ∧ True) ∧ (∀ (i : Nat), i < h.m → True ∧ True) ∧ True) ∧ (∀ (i : Nat), i < n → True ∧ True ∧ True ∧ True ∧ True ∧ True ∧ True ∧ True) ∧ (∀ (i : Nat), i < m → True ∧ True) ∧ (∀ (i : Nat), i < h.n → True ∧ True) ∧ (True ∧ True) ∧ (∀ (i : Nat), i < n → True ∧ True ∧ True ∧ True ∧ True ∧ True ∧ True ∧ True) ∧ (∀ (i : Nat), i < n → True ∧ True ∧ True ∧ True ∧ True ∧ True ∧ True ∧ True) ∧ (True ∧ True ∧ True ∧ True ∧ True ∧ True ∧ True ∧ True) ∧ (True ∧ True ∧ True ∧ True ∧ True ∧ True ∧ True ∧ True) ∧ True) (((∀ (i : Nat), i < h.n → True ∧ True) ∧ (∀ (i : Nat), i < h.m → True ∧ True) ∧ True) ∧ True) (by (simp)) (by (simp)) ?_))))) (fun h8 => aw_skip (blk_normal (seq_normal (aw_end (True ∧ inRange IntKind.i64 (g + (1 : Int))) (by (simp only [inRange_i64, true_and]; omega)) (round_t 2 ((True ∧ True ∧ (∀ (i : Nat), i < h.n → True ∧ True) ∧ (∀ (i : Nat), i < h.m → True ∧ True) ∧ True) ∧ (∀ (i : Nat), i < n → True ∧ True ∧ True ∧ True ∧ True ∧ True ∧ True ∧ True) ∧ (∀ (i : Nat), i < m → True ∧ True) ∧ (∀ (i : Nat), i < h.n → True ∧ True) ∧ (True ∧ True) ∧ (∀ (i : Nat), i < n → True ∧ True ∧ True ∧ True ∧ True ∧ True ∧ True ∧ True) ∧ (∀ (i : Nat), i < n → True ∧ True ∧ True ∧ True ∧ True ∧ True ∧ True ∧ True) ∧ (True ∧ True ∧ True ∧ True ∧ True ∧ True ∧ True ∧ True) ∧ (True ∧ True ∧ True ∧ True ∧ True ∧ True ∧ True ∧ True) ∧ True) (((∀ (i : Nat), i < h.n → True ∧ True) ∧ (∀ (i : Nat), i < h.m → True ∧ True) ∧ True) ∧ True) (by (simp)) (by (simp)) ?_))))))))) (fun h9 => aw_exits (round_exit (blk_exit (blk_normal (seq_normal (aw_end (True ∧ inRange IntKind.i64 ((↑i : Int) + (1 : Int))) (by (simp only [inRange_i64, true_and]; omega)) (?_)))))))))
        all_goals try simp only [runsP, decide_eq_true_eq, decide_eq_false_iff_not] at *
        all_goals first
          | exact round_v ⟨(g + 1, 3), by show -h.cl ≤ g + 1; omega, by show g + 1 ≤ h.cl + 1; omega, .inl ⟨rfl, g, hg1, by show g < g + 1; omega, by omega⟩⟩ (by show (h.cl + 1 - (g + 1)).toNat < (h.cl + 1 - g).toNat; omega)
          | exact round_v ⟨(g + 1, u), by show -h.cl ≤ g + 1; omega, by show g + 1 ≤ h.cl + 1; omega, by
              rcases hu with ⟨e, g', a1, a2, a3⟩ | ⟨e, a⟩
              · exact .inl ⟨e, g', a1, by show g' < g + 1; omega, a3⟩
              · refine .inr ⟨e, fun g' b1 b2 => ?_⟩
                simp only at b2
                rcases Int.lt_or_le g' g with q | q
                · exact a g' b1 q
                · obtain rfl : g' = g := by omega
                  omega⟩ (by show (h.cl + 1 - (g + 1)).toNat < (h.cl + 1 - g).toNat; omega)
          | exact round_v ⟨(i + 1, u), by show i + 1 ≤ n; omega, by
              show u = _
              rw [anyI_succ]
              rcases hu with ⟨e, g', a1, a2, a3⟩ | ⟨e, a⟩
              · rw [clo_t (by omega) ⟨g', a1, by omega, a3⟩, e]; simp [w3]
              · rw [clo_f (by omega) (fun g' b1 b2 => a g' b1 (by omega)), e, Bool.or_false]; exact hv⟩ (by show n - (i + 1) < n - i; omega)
      · have hin : i = n := by omega
        rw [hin] at hv
        refine aw_loopV (ι := {z : Nat × Int // z.1 ≤ n ∧ z.2 = bif anyI (fun i => preP cu t (planR c p i)) z.1 then 2 else v}) hm0 (T26_ok K) (fun z => [(14, i6 z.1.1), (11, .val (.int .u8 z.1.2))]) (fun _ => []) (fun z => n - z.1.1) ⟨(0, v), Nat.zero_le _, rfl⟩ (fun z => ?_)
        obtain ⟨⟨j, v2⟩, hj, hv2⟩ := z
        simp only at hj hv2
        refine aw_assoc (aw_reg0 (aw_ifsd ((↑j : Int) < (↑n : Int)) (fun h7 => aw_skips (aw_blocks (aw_opens (awr_teste 8 (69 : Nat) (True ∧ (0 : Int) ≤ (↑j : Int) ∧ (↑j : Int) < (↑n : Int)) (by (have := hk j (by omega); simp only [inRange_i64, true_and]; omega)) ((c j).cu) (cu) (fun h8 => awr_end (((True ∧ (0 : Int) ≤ (↑j : Int) ∧ (↑j : Int) < (↑n : Int)) ∧ (0 : Int) ≤ (↑j : Int) ∧ (↑j : Int) < (↑m : Int)) ∧ ((-1000000 : Int) ≤ p j ∧ p j ≤ (1000000 : Int)) ∧ (-1000000 : Int) ≤ (↑t : Int) ∧ (↑t : Int) ≤ (1000000 : Int)) (by (have := hk j (by omega); simp only [inRange_i64, true_and]; omega)) (aw_if (prepsP (c j) (p j) (↑t : Int)) (fun h9 => aw_end0 (blk_normal (seq_normal (aw_end (True ∧ inRange IntKind.i64 ((↑j : Int) + (1 : Int))) (by (have := hk j (by omega); simp only [inRange_i64, true_and]; omega)) (round_t 2 ((True ∧ True ∧ (∀ (i : Nat), i < h.n → True ∧ True) ∧ (∀ (i : Nat), i < h.m → True ∧ True) ∧ True) ∧ (∀ (i : Nat), i < n → True ∧ True ∧ True ∧ True ∧ True ∧ True ∧ True ∧ True) ∧ (∀ (i : Nat), i < m → True ∧ True) ∧ (∀ (i : Nat), i < h.n → True ∧ True) ∧ (True ∧ True) ∧ (∀ (i : Nat), i < n → True ∧ True ∧ True ∧ True ∧ True ∧ True ∧ True ∧ True) ∧ True) (((∀ (i : Nat), i < h.n → True ∧ True) ∧ (∀ (i : Nat), i < h.m → True ∧ True) ∧ True) ∧ True) (by (simp)) (by (simp)) ?_))))) (fun h10 => aw_skip (blk_normal (seq_normal (aw_end (True ∧ inRange IntKind.i64 ((↑j : Int) + (1 : Int))) (by (have := hk j (by omega); simp only [inRange_i64, true_and]; omega)) (round_t 2 ((True ∧ True ∧ (∀ (i : Nat), i < h.n → True ∧ True) ∧ (∀ (i : Nat), i < h.m → True ∧ True) ∧ True) ∧ (∀ (i : Nat), i < n → True ∧ True ∧ True ∧ True ∧ True ∧ True ∧ True ∧ True) ∧ (∀ (i : Nat), i < m → True ∧ True) ∧ (∀ (i : Nat), i < h.n → True ∧ True) ∧ (True ∧ True) ∧ (∀ (i : Nat), i < n → True ∧ True ∧ True ∧ True ∧ True ∧ True ∧ True ∧ True) ∧ True) (((∀ (i : Nat), i < h.n → True ∧ True) ∧ (∀ (i : Nat), i < h.m → True ∧ True) ∧ True) ∧ True) (by (simp)) (by (simp)) ?_))))))) (fun h11 => awr_end0 (aw_noE (aw_skip (blk_normal (seq_normal (aw_end (True ∧ inRange IntKind.i64 ((↑j : Int) + (1 : Int))) (by (have := hk j (by omega); simp only [inRange_i64, true_and]; omega)) (round_t 2 ((True ∧ True ∧ (∀ (i : Nat), i < h.n → True ∧ True) ∧ (∀ (i : Nat), i < h.m → True ∧ True) ∧ True) ∧ (∀ (i : Nat), i < n → True ∧ True ∧ True ∧ True ∧ True ∧ True ∧ True ∧ True) ∧ (∀ (i : Nat), i < m → True ∧ True) ∧ (∀ (i : Nat), i < h.n → True ∧ True) ∧ (True ∧ True) ∧ (∀ (i : Nat), i < n → True ∧ True ∧ True ∧ True ∧ True ∧ True ∧ True ∧ True) ∧ True) (((∀ (i : Nat), i < h.n → True ∧ True) ∧ (∀ (i : Nat), i < h.m → True ∧ True) ∧ True) ∧ True) (by (simp)) (by (simp)) ?_))))))))))) (fun h12 => aw_exits (round_exit (blk_exit (seq_normal (aw_assoc (aw_reg0 (?_)))))))))
        all_goals try simp only [prepsP, decide_eq_true_eq, decide_eq_false_iff_not] at *
        · exact round_v ⟨(j + 1, 2), by show j + 1 ≤ n; omega, by show 2 = _; rw [anyI_succ, pre_t (by omega) (by omega), Bool.or_true]; rfl⟩ (by show n - (j + 1) < n - j; omega)
        · exact round_v ⟨(j + 1, v2), by show j + 1 ≤ n; omega, by show v2 = _; rw [anyI_succ, pre_f (by omega), Bool.or_false]; exact hv2⟩ (by show n - (j + 1) < n - j; omega)
        · exact round_v ⟨(j + 1, v2), by show j + 1 ≤ n; omega, by show v2 = _; rw [anyI_succ, pre_f (by omega), Bool.or_false]; exact hv2⟩ (by show n - (j + 1) < n - j; omega)
        · have hjn : j = n := by omega
          rw [hjn] at hv2
          refine aw_loopV (ι := {z : Nat × Int // z.1 ≤ n ∧ z.2 = bif anyI (fun i => ownP cu t (planR c p i)) z.1 then 1 else v2}) hm0 (T26_ok K) (fun z => [(15, i6 z.1.1), (11, .val (.int .u8 z.1.2))]) (fun _ => []) (fun z => n - z.1.1) ⟨(0, v2), Nat.zero_le _, rfl⟩ (fun z => ?_)
          obtain ⟨⟨k, v3⟩, hk2, hv3⟩ := z
          simp only at hk2 hv3
          refine aw_assoc (aw_reg0 (aw_ifsd ((↑k : Int) < (↑n : Int)) (fun h13 => aw_skips (aw_blocks (aw_opens (awr_teste 8 (94 : Nat) (True ∧ (0 : Int) ≤ (↑k : Int) ∧ (↑k : Int) < (↑n : Int)) (by (have := hk k (by omega); simp only [inRange_i64, true_and]; omega)) ((c k).cu) (cu) (fun h14 => awr_end (((True ∧ (0 : Int) ≤ (↑k : Int) ∧ (↑k : Int) < (↑n : Int)) ∧ (0 : Int) ≤ (↑k : Int) ∧ (↑k : Int) < (↑m : Int)) ∧ ((-1000000 : Int) ≤ p k ∧ p k ≤ (1000000 : Int)) ∧ (-1000000 : Int) ≤ (↑t : Int) ∧ (↑t : Int) ≤ (1000000 : Int)) (by (have := hk k (by omega); simp only [inRange_i64, true_and]; omega)) (aw_if (runsP (c k) (p k) (↑t : Int)) (fun h15 => aw_end0 (blk_normal (seq_normal (aw_end (True ∧ inRange IntKind.i64 ((↑k : Int) + (1 : Int))) (by (have := hk k (by omega); simp only [inRange_i64, true_and]; omega)) (round_t 2 ((True ∧ True ∧ (∀ (i : Nat), i < h.n → True ∧ True) ∧ (∀ (i : Nat), i < h.m → True ∧ True) ∧ True) ∧ (∀ (i : Nat), i < n → True ∧ True ∧ True ∧ True ∧ True ∧ True ∧ True ∧ True) ∧ (∀ (i : Nat), i < m → True ∧ True) ∧ (∀ (i : Nat), i < h.n → True ∧ True) ∧ (True ∧ True) ∧ (∀ (i : Nat), i < n → True ∧ True ∧ True ∧ True ∧ True ∧ True ∧ True ∧ True) ∧ (∀ (i : Nat), i < n → True ∧ True ∧ True ∧ True ∧ True ∧ True ∧ True ∧ True) ∧ True) (((∀ (i : Nat), i < h.n → True ∧ True) ∧ (∀ (i : Nat), i < h.m → True ∧ True) ∧ True) ∧ True) (by (simp)) (by (simp)) ?_))))) (fun h16 => aw_skip (blk_normal (seq_normal (aw_end (True ∧ inRange IntKind.i64 ((↑k : Int) + (1 : Int))) (by (have := hk k (by omega); simp only [inRange_i64, true_and]; omega)) (round_t 2 ((True ∧ True ∧ (∀ (i : Nat), i < h.n → True ∧ True) ∧ (∀ (i : Nat), i < h.m → True ∧ True) ∧ True) ∧ (∀ (i : Nat), i < n → True ∧ True ∧ True ∧ True ∧ True ∧ True ∧ True ∧ True) ∧ (∀ (i : Nat), i < m → True ∧ True) ∧ (∀ (i : Nat), i < h.n → True ∧ True) ∧ (True ∧ True) ∧ (∀ (i : Nat), i < n → True ∧ True ∧ True ∧ True ∧ True ∧ True ∧ True ∧ True) ∧ (∀ (i : Nat), i < n → True ∧ True ∧ True ∧ True ∧ True ∧ True ∧ True ∧ True) ∧ True) (((∀ (i : Nat), i < h.n → True ∧ True) ∧ (∀ (i : Nat), i < h.m → True ∧ True) ∧ True) ∧ True) (by (simp)) (by (simp)) ?_))))))) (fun h17 => awr_end0 (aw_noE (aw_skip (blk_normal (seq_normal (aw_end (True ∧ inRange IntKind.i64 ((↑k : Int) + (1 : Int))) (by (have := hk k (by omega); simp only [inRange_i64, true_and]; omega)) (round_t 2 ((True ∧ True ∧ (∀ (i : Nat), i < h.n → True ∧ True) ∧ (∀ (i : Nat), i < h.m → True ∧ True) ∧ True) ∧ (∀ (i : Nat), i < n → True ∧ True ∧ True ∧ True ∧ True ∧ True ∧ True ∧ True) ∧ (∀ (i : Nat), i < m → True ∧ True) ∧ (∀ (i : Nat), i < h.n → True ∧ True) ∧ (True ∧ True) ∧ (∀ (i : Nat), i < n → True ∧ True ∧ True ∧ True ∧ True ∧ True ∧ True ∧ True) ∧ (∀ (i : Nat), i < n → True ∧ True ∧ True ∧ True ∧ True ∧ True ∧ True ∧ True) ∧ True) (((∀ (i : Nat), i < h.n → True ∧ True) ∧ (∀ (i : Nat), i < h.m → True ∧ True) ∧ True) ∧ True) (by (simp)) (by (simp)) ?_))))))))))) (fun h18 => aw_exits (round_exit (blk_exit (seq_normal (aw_reg0 (aw_ret (end_i (v3) ?_)))))))))
          all_goals try simp only [runsP, decide_eq_true_eq, decide_eq_false_iff_not] at *
          · exact round_v ⟨(k + 1, 1), by show k + 1 ≤ n; omega, by show 1 = _; rw [anyI_succ, own_t (by omega) (by omega), Bool.or_true]; rfl⟩ (by show n - (k + 1) < n - k; omega)
          · exact round_v ⟨(k + 1, v3), by show k + 1 ≤ n; omega, by show v3 = _; rw [anyI_succ, own_f (by omega), Bool.or_false]; exact hv3⟩ (by show n - (k + 1) < n - k; omega)
          · exact round_v ⟨(k + 1, v3), by show k + 1 ≤ n; omega, by show v3 = _; rw [anyI_succ, own_f (by omega), Bool.or_false]; exact hv3⟩ (by show n - (k + 1) < n - k; omega)
          · have hkn : k = n := by omega
            rw [hkn] at hv3
            show v3 = _
            rw [hv3, hv2, hv]
            exact w3_look hb0

end Go.Ev

open Go Go.Ev Go.RowKit
namespace Go.Ev
set_option maxRecDepth 100000
set_option maxHeartbeats 2000000
set_option linter.all false

theorem timeB_late {n : Nat} {x : Nat → Run} (e : (timeB n x).rule = 0) : ∀ i, i < n → lateB (x i) = false := by
  intro i hi
  rcases findI_cases (fun i => lateB (x i)) n with ⟨j, hj, h1, h2, h3⟩ | ⟨h1, h2⟩
  · have : (timeB n x).rule = 1 := by unfold timeB; rw [h3, decide_eq_true (by omega)]; rfl
    omega
  · exact h1 i hi
theorem keepB_keepC {h : Hall} {n : Nat} {c : Nat → Camp} {m : Nat} {p : Nat → Int} (e : keepB h n c m p = true) : m = n ∧ keepC h n c p := by
  have e1 := (keepB_ok e).1
  obtain ⟨v1, v2, v3, v4, v5⟩ := okB_runs (p := p) e1
  have hl := timeB_late (breB_time (keepB_ok e).2)
  refine ⟨okB_m e1, v2, v3, v4.1, v4.2, fun i hi => ?_⟩
  have q1 := v5 i hi
  have q2 := late_n (hl i hi)
  have q1' : campB h.n (c i) = true := q1
  simp only [campB, decide_eq_true_eq] at q1'
  omega
theorem sees_int (h : Hall) (n : Nat) (c : Nat → Camp) (m : Nat) (p : Nat → Int) (cu t : Int) (h0 : 0 ≤ t) (hm : m = n) (ht : t.toNat < h.n) (hv : keepC h n c p) : Alone PG 43 [.agg (hallD h), rowC n c, rowI m p, i6 cu, i6 t] (.val (.int .u8 (lookB h n (planR c p) cu t))) := by
  have := sees_alone h n c m p cu t.toNat hm ht hv
  rwa [Int.toNat_of_nonneg h0] at this
theorem wide_f {h : Hall} {n : Nat} (e : wideB h n = false) : h.n ≤ 110 ∧ h.m ≤ 110 ∧ n ≤ 18 := by
  unfold wideB at e
  have := of_decide_eq_false e
  omega

def R43 : List D → Option (Option Prop × D)
  | [d0, d1, d2, d3, d4] => match hallO d0, campsO d1, intsO d2, inO d3, inO d4 with
    | some (q0, h), some (q1, n, c), some (q2, m, p), some cu, some t => some (some (q0 ∧ q1 ∧ q2 ∧ 0 ≤ t ∧ m = n ∧ t.toNat < h.n ∧ keepC h n c p), .val (.int .u8 (lookB h n (planR c p) cu t)))
    | _, _, _, _, _ => none
  | _ => none
noncomputable def T43 := orCl (aloC 43 R43) T26
theorem T43_ok (K : Cust) : ClOK K PG T43 := tab_cons cf_43 (fun ds p d h hp => by
    unfold R43 at h
    split at h
    · split at h
      · rename_i e0 e1 e2 e3 e4
        obtain rfl := inO_eq e3
        obtain rfl := inO_eq e4
        cases h
        obtain ⟨h1, h2, h3, hi, h4, h5, h6⟩ := hp _ rfl
        exact ⟨_, less_cons (hallO_less e0 h1) (less_cons (campsO_less e1 h2) (less_cons (intsO_less e2 h3) (Less.refl _))), by simp [freeL, freeD, rowC_free, rowI_free, hallD_free], by simp [freeD], sees_int _ _ _ _ _ _ _ hi h4 h5 h6⟩
      · cases h
    · cases h) (T26_ok K)
end Go.Ev

open Go Go.Ev Go.RowKit
namespace Go.Ev
set_option maxRecDepth 100000
set_option linter.all false
def noBig0 (_ : FuncId) : Bool := false
noncomputable def raw0 : Raw := ⟨noBig0, fun _ _ _ _ => none⟩
def alone1 (f : FuncId) : Bool := Nat.beq f 91 || Nat.beq f 74
noncomputable def tab1 : FuncId → List D → List Blk → Nat → Option Out := isoT alone1 (callF tree.find raw0 2000)
noncomputable def rawK : Raw := ⟨noBig0, tab1⟩
theorem known_val : valO (callF (without alone1 tree.find) rawK 3000 13 [] [.dead] 0) = some ⟨none, .val (.bool true), [], []⟩ := by kernel_rfl
def knownR (ds : List D) (_ : List Blk) (_ : Nat) : Option Out := match ds with
  | [] => some ⟨none, .val (.bool true), [], []⟩
  | _ => none
theorem knownR_ok (K : Cust) : ClOK K PG (oneCl 13 knownR) := by
  intro f ds hp nid out h hc
  unfold oneCl at h
  split at h
  · rename_i e
    obtain rfl := Nat.eq_of_beq_eq_true e
    unfold knownR at h
    split at h
    · have h0 : ClOK K PG tab1 := isoT_ok (callF_ok (raw := raw0) (drawn_ok hm0) (FT.found tree tree_good) (fun _ _ _ _ _ h => by cases h) 2000)
      refine isoT_ok (S := fun f => Nat.beq f 13) (callF_ok (raw := rawK) (drawn_ok hm0) (without_ok (S := alone1) (FT.found tree tree_good)) h0 3000) 13 [] hp nid out ?_ hc
      rw [← Option.some.inj h]
      exact known_val
    · cases h
  · cases h
end Go.Ev

open Go Go.Ev Go.RowKit
namespace Go.Ev
set_option maxRecDepth 100000
set_option maxHeartbeats 2000000
set_option linter.all false

noncomputable def T13 := orCl (oneCl 13 knownR) T43
theorem T13_ok (K : Cust) : ClOK K PG T13 := ClOK.or (knownR_ok K) (T43_ok K)
theorem views_f1 {h : Hall} {n : Nat} {c : Nat → Camp} {m : Nat} {p : Nat → Int} {cu : Int} (e : obErr h n c m p = 0) (hc : cu < 0 ∨ cu > 20) : viewE h n c m p cu = 3 ∧ okN (viewK h n c m p cu) h.n = 0 := by
  have q := obErr_ok e
  have q2 : cuB cu = false := decide_eq_false (by omega)
  simp [viewE, viewK, q, q2, okN]
theorem views_f2 {h : Hall} {n : Nat} {c : Nat → Camp} {m : Nat} {p : Nat → Int} {cu : Int} (e : ¬ obErr h n c m p = 0) : viewE h n c m p cu = obErr h n c m p ∧ okN (viewK h n c m p cu) h.n = 0 := by
  have q := obErr_bad e
  simp [viewE, viewK, q, okN]
theorem views_f3 {h : Hall} {n : Nat} {c : Nat → Camp} {m : Nat} {p : Nat → Int} {cu : Int} (e : obErr h n c m p = 0) (h1 : ¬ cu < 0) (h2 : ¬ cu > 20) : viewE h n c m p cu = 0 ∧ okN (viewK h n c m p cu) h.n = h.n ∧ m = n ∧ keepC h n c p := by
  have q := obErr_ok e
  have q2 : cuB cu = true := decide_eq_true (by omega)
  exact ⟨by simp [viewE, q, q2], by simp [viewK, q, q2, okN], keepB_keepC q⟩

theorem views_alone (h : Hall) (n : Nat) (c : Nat → Camp) (m : Nat) (p : Nat → Int) (cu : Int) : Alone PG 7 [.agg (hallD h), rowC n c, .agg [rowI m p, i6 cu]] (bD true) :=
  Alone.ofW (cl := T13) (raw := false) hm0 T13_ok cf_7 fun K w => by
    refine aw_reg0 (aw_assoc (aw_opens (awr_testq 4 (14 : Nat) (True ∧ ((∀ (i : Nat), i < h.n → [i6 (h.st i)] = [i6 (h.st i)]) ∧ ∀ (i : Nat), i < h.m → [i6 (h.en i)] = [i6 (h.en i)]) ∧ ∀ (i : Nat), i < n → campD (c i) = campD (c i)) (by (simp <;> omega)) (wideB h n) (fun h1 => awr_end0 (aw_yes (aw_assoc (aw_reg0 (aw_rets (end_b (true) ?_)))))) (fun h2 => awr_end0 (aw_ifsd ((↑m : Int) > (20 : Int)) (fun h3 => aw_assoc (aw_reg0 (aw_rets (end_b (true) ?_)))) (fun h4 => aw_skips (aw_reg ((((True ∧ ((∀ (i : Nat), i < h.n → [i6 (h.st i)] = [i6 (h.st i)]) ∧ ∀ (i : Nat), i < h.m → [i6 (h.en i)] = [i6 (h.en i)]) ∧ h.n ≤ (100000 : Nat) ∧ h.m ≤ (100000 : Nat)) ∧ (∀ (i : Nat), i < n → campD (c i) = campD (c i)) ∧ n ≤ (100000 : Nat)) ∧ (∀ (i : Nat), i < m → [i6 (p i)] = [i6 (p i)]) ∧ m ≤ (100000 : Nat)) ∧ ((∀ (i : Nat), i < h.n → [i6 (h.st i)] = [i6 (h.st i)]) ∧ ∀ (i : Nat), i < h.m → [i6 (h.en i)] = [i6 (h.en i)]) ∧ (∀ (i : Nat), i < n → campD (c i) = campD (c i)) ∧ (∀ (i : Nat), i < m → [i6 (p i)] = [i6 (p i)]) ∧ n ≤ (100000 : Nat) ∧ m ≤ (100000 : Nat) ∧ h.n ≤ (100000 : Nat) ∧ h.m ≤ (100000 : Nat)) (by (have q := wide_f (by assumption); simp <;> omega)) (aw_reg (True ∧ ((∀ (i : Nat), i < h.n → [i6 (h.st i)] = [i6 (h.st i)]) ∧ ∀ (i : Nat), i < h.m → [i6 (h.en i)] = [i6 (h.en i)]) ∧ (∀ (i : Nat), i < n → campD (c i) = campD (c i)) ∧ (∀ (i : Nat), i < m → [i6 (p i)] = [i6 (p i)]) ∧ h.n ≤ (100000 : Nat) ∧ h.m ≤ (100000 : Nat) ∧ n ≤ (100000 : Nat) ∧ m ≤ (100000 : Nat)) (by (have q := wide_f (by assumption); simp <;> omega)) (aw_assoc (aw_opens (awr_teste 3 (41 : Nat) (True) trivial (obErr h n c m p) ((0 : Int)) (fun h5 => awr_testd 4 (45 : Nat) (True) trivial (cu < (0 : Int)) (fun h6 => awr_end0 (aw_yes (aw_reg0 (aw_assoc (aw_reg0 (aw_yes (aw_assoc (aw_opens (awr_teste 4 (56 : Nat) (True) trivial (viewE h n c m p cu) ((3 : Int)) (fun h7 => awr_teste 5 (61 : Nat) (True) trivial ((↑(okN (viewK h n c m p cu) h.n) : Int)) ((0 : Int)) (fun h8 => awr_end0 (aw_rets (end_b (true) ?_))) (fun h9 => awr_end0 (aw_rets (end_b (false) ?_)))) (fun h10 => awr_end0 (aw_rets (end_b (false) ?_)))))))))))) (fun h11 => awr_end0 (aw_ifsd (cu > (20 : Int)) (fun h12 => aw_reg0 (aw_assoc (aw_reg0 (aw_yes (aw_assoc (aw_opens (awr_teste 4 (56 : Nat) (True) trivial (viewE h n c m p cu) ((3 : Int)) (fun h13 => awr_teste 5 (61 : Nat) (True) trivial ((↑(okN (viewK h n c m p cu) h.n) : Int)) ((0 : Int)) (fun h14 => awr_end0 (aw_rets (end_b (true) ?_))) (fun h15 => awr_end0 (aw_rets (end_b (false) ?_)))) (fun h16 => awr_end0 (aw_rets (end_b (false) ?_)))))))))) (fun h17 => aw_skips (aw_assoc (aw_reg0 (aw_ifsne (obErr h n c m p) ((0 : Int)) (fun h18 => aw_assoc (aw_opens (awr_teste 4 (56 : Nat) (True) trivial (viewE h n c m p cu) (obErr h n c m p) (fun h19 => awr_teste 5 (61 : Nat) (True) trivial ((↑(okN (viewK h n c m p cu) h.n) : Int)) ((0 : Int)) (fun h20 => awr_end0 (aw_rets (end_b (true) ?_))) (fun h21 => awr_end0 (aw_rets (end_b (false) ?_)))) (fun h22 => awr_end0 (aw_rets (end_b (false) ?_)))))) (fun h23 => aw_skips (aw_assoc (aw_opens (awr_testne 3 (66 : Nat) (True) trivial (viewE h n c m p cu) ((0 : Int)) (fun h24 => awr_end0 (aw_yes (aw_assoc (aw_reg0 (aw_rets (end_b (false) ?_)))))) (fun h25 => awr_end0 (aw_ifsne ((↑(okN (viewK h n c m p cu) h.n) : Int)) ((↑h.n : Int)) (fun h26 => aw_assoc (aw_reg0 (aw_rets (end_b (false) ?_)))) (fun h27 => aw_skips (aw_assoc (aw_reg0 (?_))))))))))))))))) (fun h28 => awr_end0 (aw_no (aw_skips (aw_assoc (aw_reg0 (aw_ifsne (obErr h n c m p) ((0 : Int)) (fun h29 => aw_assoc (aw_opens (awr_teste 4 (56 : Nat) (True) trivial (viewE h n c m p cu) (obErr h n c m p) (fun h30 => awr_teste 5 (61 : Nat) (True) trivial ((↑(okN (viewK h n c m p cu) h.n) : Int)) ((0 : Int)) (fun h31 => awr_end0 (aw_rets (end_b (true) ?_))) (fun h32 => awr_end0 (aw_rets (end_b (false) ?_)))) (fun h33 => awr_end0 (aw_rets (end_b (false) ?_)))))) (fun h34 => aw_skips (aw_assoc (aw_opens (awr_testne 3 (66 : Nat) (True) trivial (viewE h n c m p cu) ((0 : Int)) (fun h35 => awr_end0 (aw_yes (aw_assoc (aw_reg0 (aw_rets (end_b (false) ?_)))))) (fun h36 => awr_end0 (aw_ifsne ((↑(okN (viewK h n c m p cu) h.n) : Int)) ((↑h.n : Int)) (fun h37 => aw_assoc (aw_reg0 (aw_rets (end_b (false) ?_)))) (fun h38 => aw_skips (aw_assoc (aw_reg0 (?_)))))))))))))))))))))))))))
    all_goals try first
      | rfl
      | (exfalso; omega)
      | (exfalso; have q := views_f1 (n := n) (c := c) (m := m) (p := p) (cu := cu) (h := h) (by assumption) (by omega); omega)
      | (exfalso; have q := views_f2 (n := n) (c := c) (m := m) (p := p) (cu := cu) (h := h) (by assumption); omega)
      | (exfalso; have q := views_f3 (n := n) (c := c) (m := m) (p := p) (cu := cu) (h := h) (by assumption) (by assumption) (by assumption); omega)
    obtain ⟨g1, g2, g3, g4⟩ := views_f3 (n := n) (c := c) (m := m) (p := p) (cu := cu) (h := h) (by assumption) (by assumption) (by assumption)
    have hwf := wide_f (h := h) (n := n) (by assumption)
    refine aw_loopV (ι := {t : Nat // t ≤ h.n}) hm0 (T13_ok K) (fun z => [(10, i6 z.1)]) (fun _ => []) (fun z => h.n - z.1) ⟨0, Nat.zero_le _⟩ (fun z => ?_)
    obtain ⟨t, ht⟩ := z
    refine aw_assoc (aw_reg0 (aw_ifsd ((↑t : Int) < (↑(okN (viewK h n c m p cu) h.n) : Int)) (fun h28 => aw_skips (aw_blocks (aw_reg ((True ∧ (0 : Int) ≤ (↑t : Int) ∧ (↑t : Int) < (↑(okN (viewK h n c m p cu) h.n) : Int)) ∧ ((∀ (i : Nat), i < h.n → [i6 (h.st i)] = [i6 (h.st i)]) ∧ ∀ (i : Nat), i < h.m → [i6 (h.en i)] = [i6 (h.en i)]) ∧ (∀ (i : Nat), i < n → campD (c i) = campD (c i)) ∧ (∀ (i : Nat), i < m → [i6 (p i)] = [i6 (p i)]) ∧ (0 : Int) ≤ (↑t : Int) ∧ m = n ∧ t < h.n ∧ keepC h n c p) (by ((try simp only [inRange_i64] at *); (try simp only [implies_true, and_self, true_and, and_true]); (repeat' (with_reducible apply And.intro)) <;> first | exact True.intro | exact fun _ _ => rfl | exact fun _ _ => ⟨rfl, rfl⟩ | omega | assumption | (intros; simp [freeL, freeD]; done))) (aw_ifne (lookB h n (planR c p) cu (↑t : Int)) (lookB h n (planR c p) cu (↑t : Int)) (fun h29 => aw_reg0 (aw_ret (blk_ret (seq_ret (round_ret (blk_ret (seq_ret (end_b (false) ?_)))))))) (fun h30 => aw_skip (blk_normal (seq_normal (aw_end (True ∧ inRange IntKind.i64 ((↑t : Int) + (1 : Int))) (by (simp only [inRange_i64, true_and]; omega)) (round_t 14 ((True ∧ True ∧ (∀ (i : Nat), i < h.n → True ∧ True) ∧ (∀ (i : Nat), i < h.m → True ∧ True) ∧ True) ∧ (∀ (i : Nat), i < n → True ∧ True ∧ True ∧ True ∧ True ∧ True ∧ True ∧ True) ∧ ((∀ (i : Nat), i < m → True ∧ True) ∧ True ∧ True) ∧ (∀ (i : Nat), i < okN (viewK h n c m p cu) h.n → True ∧ True) ∧ (True ∧ True ∧ (∀ (i : Nat), i < h.n → True ∧ True) ∧ (∀ (i : Nat), i < h.m → True ∧ True) ∧ True) ∧ (∀ (i : Nat), i < n → True ∧ True ∧ True ∧ True ∧ True ∧ True ∧ True ∧ True) ∧ (∀ (i : Nat), i < m → True ∧ True) ∧ ((∀ (i : Nat), i < okN (viewK h n c m p cu) h.n → True ∧ True) ∧ True ∧ True) ∧ (True ∧ True ∧ (∀ (i : Nat), i < h.n → True ∧ True) ∧ (∀ (i : Nat), i < h.m → True ∧ True) ∧ True) ∧ (True ∧ True ∧ (∀ (i : Nat), i < h.n → True ∧ True) ∧ (∀ (i : Nat), i < h.m → True ∧ True) ∧ True) ∧ (∀ (i : Nat), i < n → True ∧ True ∧ True ∧ True ∧ True ∧ True ∧ True ∧ True) ∧ (∀ (i : Nat), i < n → True ∧ True ∧ True ∧ True ∧ True ∧ True ∧ True ∧ True) ∧ (∀ (i : Nat), i < m → True ∧ True) ∧ (∀ (i : Nat), i < m → True ∧ True) ∧ ((∀ (i : Nat), i < okN (viewK h n c m p cu) h.n → True ∧ True) ∧ True ∧ True) ∧ (∀ (i : Nat), i < okN (viewK h n c m p cu) h.n → True ∧ True) ∧ (True ∧ True ∧ (∀ (i : Nat), i < h.n → True ∧ True) ∧ (∀ (i : Nat), i < h.m → True ∧ True) ∧ True) ∧ (∀ (i : Nat), i < n → True ∧ True ∧ True ∧ True ∧ True ∧ True ∧ True ∧ True) ∧ (∀ (i : Nat), i < m → True ∧ True) ∧ (∀ (i : Nat), i < okN (viewK h n c m p cu) h.n → True ∧ True) ∧ (∀ (i : Nat), i < h.n → True ∧ True) ∧ True) (((∀ (i : Nat), i < h.n → True ∧ True) ∧ (∀ (i : Nat), i < h.m → True ∧ True) ∧ True) ∧ ((∀ (i : Nat), i < m → True ∧ True) ∧ True) ∧ True) (by (simp)) (by (simp)) ?_))))))))) (fun h31 => aw_exits (round_exit (blk_exit (seq_normal (aw_reg0 (aw_ret (end_b (true) ?_)))))))))
    all_goals first
      | rfl
      | (exfalso; omega)
      | (rename_i q; exact absurd rfl q)
      | exact round_v ⟨t + 1, by omega⟩ (by show h.n - (t + 1) < h.n - t; omega)

end Go.Ev

