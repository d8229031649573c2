import Derived.Test.YtmekepomgofiaaaC22
set_option linter.all false
open Go Go.Ev Go.RowKit
namespace Go.Ev
set_option maxRecDepth 100000
set_option maxHeartbeats 2000000
set_option linter.all false
theorem rooms_ref (h : Hall) (n : Nat) (c : Nat → Camp) (m : Nat) (p : Nat → Int) (hk : keepB h n c m p = true) : Alone PG 29 [.agg (hallD h), rowC n c, rowI m p] (rowI n (roomsO h (planR c p) n)) :=
  Alone.ofF (cl := T66_67) hm0 T66_67_ok cf_29 fun K w => by
    refine aw_reg0 (aw_reg0 (aw_assoc (aw_reg0 (?_))))
    have hkp := keepB_prep hk
    have hro := keepB_ro hk
    have hsm := keepB_small hk
    have hnn : h.n ≤ 96 ∧ m = n := by
      have q := (keepB_ok hk).1
      simp only [okB, Bool.and_eq_true, campsB, hallB, decide_eq_true_eq, Bool.not_eq_true'] at q
      omega
    refine aw_loopR (ι := {i : Nat // i ≤ n}) [14] 2 (.cells []) (.arr 0 fun _ => i6 (-1)) blk_empty hm0 (T66_67_ok K) (fun z => [(7, .sl 2 0 z.1 1 none), (8, i6 z.1), (14, .any)]) (fun z => [(2, .arr z.1 fun _ => i6 (-1))]) (fun z => n - z.1) ⟨0, Nat.zero_le _⟩ (fun z => ?_)
    obtain ⟨i, hi⟩ := z
    refine aw_assoc (aw_reg0 (aw_ifsd ((↑i : Int) < (↑n : Int)) (fun h1 => aw_skips (aw_blocks (aw_end (True ∧ i * (1 : Nat) = i ∧ True ∧ i + (1 : Nat) ≤ (1048576 : Nat)) (by (simp only [inRange_i64, true_and]; omega)) (blk_normal (seq_normal (aw_end (True ∧ inRange IntKind.i64 ((↑i : Int) + (1 : Int))) (by (simp only [inRange_i64, true_and]; omega)) (round_g 2 4 ((True ∧ True ∧ (∀ (i : Nat), i < h.n → True ∧ True) ∧ (∀ (i : Nat), i < h.m → True ∧ True) ∧ True) ∧ (∀ (i : Nat), i < n → True ∧ True ∧ True ∧ True ∧ True ∧ True ∧ True ∧ True) ∧ (∀ (i : Nat), i < m → True ∧ True) ∧ True) (((∀ (i : Nat), i < h.n → True ∧ True) ∧ (∀ (i : Nat), i < h.m → True ∧ True) ∧ True) ∧ True) (∀ (j : Nat), j < i + lenG [D.val (Value.int IntKind.i64 (-1 : Int))] → needD (2 : Nat) (catF i (fun (x : Nat) => i6 (-1 : Int)) (getK [D.val (Value.int IntKind.i64 (-1 : Int))]) j)) (by (simp)) (by (simp)) ?_ ?_))))))) (fun h2 => aw_exits (round_exit (blk_exit (seq_normal (aw_assoc (aw_reg0 (?_)))))))))
    · exact fun j hj => by rw [cat_any hj]; split <;> simp [needD]
    · exact round_rb 2 (.arr (i + 1) (catF i (fun _ => i6 (-1)) (getK [i6 (-1)]))) (.arr (i + 1) fun _ => i6 (-1)) (arr_arr rfl fun j hj => by rw [cat_any hj]; split <;> rfl) (round_v ⟨i + 1, by omega⟩ (by show n - (i + 1) < n - i; omega))
    have hin : i = n := by omega
    subst hin
    have hb0 : ∀ j, j < i → 0 ≤ begR (planR c p j) := fun j hj => by have := hkp j hj; show 0 ≤ p j - (c j).pr; omega
    have hrt : (h.ro.toNat : Int) = h.ro := by omega
    refine aw_loopV (ι := {z : Nat × Nat // z.1 ≤ h.n ∧ PlP (planR c p) i z.1 0 z.2}) hm0 (T66_67_ok K) (fun z => [(9, i6 z.1.1)]) (fun z => [(2, .arr i fun t => i6 (rmR h (planR c p) i z.1.2 t))]) (fun z => h.n - z.1.1) ⟨(0, 0), Nat.zero_le _, pl_0 hb0⟩ (fun z => ?_)
    obtain ⟨⟨t, s⟩, ht, hpl⟩ := z
    simp only at ht hpl
    refine aw_assoc (aw_reg0 (aw_ifsd ((↑t : Int) < (↑h.n : Int)) (fun h3 => aw_skips (aw_blocks (aw_reg0 (?_)))) (fun h4 => aw_exits (round_exit (blk_exit (seq_normal (aw_reg0 (aw_ret (end_f (D.sl (2 : Nat) (0 : Nat) i (1 : Nat) none) ?_)))))))))
    · refine aw_loopE (ι := {z : Nat × Nat // z.1 ≤ i ∧ PlP (planR c p) i t z.1 z.2}) hm0 (T66_67_ok K) (fun z => [(10, i6 z.1.1)]) (fun z => [(2, .arr i fun t => i6 (rmR h (planR c p) i z.1.2 t))]) (fun z => i - z.1.1) ⟨(0, s), Nat.zero_le _, hpl⟩ (fun z => ?_)
      obtain ⟨⟨j, s⟩, hj, hpl⟩ := z
      simp only at hj hpl
      have hkj := fun (q : j < i) => hkp j q
      refine aw_assoc (aw_reg0 (aw_ifsd ((↑j : Int) < (↑i : Int)) (fun h4 => aw_skips (aw_blocks (aw_assoc (aw_opens (awr_teste 7 (43 : Nat) (True ∧ (0 : Int) ≤ (↑j : Int) ∧ (↑j : Int) < (↑i : Int)) (by (have q := hkj (by omega); simp only [inRange_i64, true_and]; omega)) ((c j).pr) ((0 : Int)) (fun h5 => awr_end0 (aw_yes (aw_exits (blk_exit (seq_normal (aw_end (True ∧ inRange IntKind.i64 ((↑j : Int) + (1 : Int))) (by (have q := hkj (by omega); simp only [inRange_i64, true_and]; omega)) (round_t 3 ((True ∧ True ∧ (∀ (i : Nat), i < h.n → True ∧ True) ∧ (∀ (i : Nat), i < h.m → True ∧ True) ∧ True) ∧ (∀ (i_1 : Nat), i_1 < i → True ∧ True ∧ True ∧ True ∧ True ∧ True ∧ True ∧ True) ∧ (∀ (i : Nat), i < m → True ∧ True) ∧ (∀ (i_1 : Nat), i_1 < i → True ∧ True ∧ True ∧ True ∧ True ∧ True ∧ True ∧ True) ∧ (∀ (i : Nat), i < h.n → True ∧ True) ∧ True) (((∀ (i : Nat), i < h.n → True ∧ True) ∧ (∀ (i : Nat), i < h.m → True ∧ True) ∧ True) ∧ (∀ (j : Nat), j < i → True) ∧ True) (by (simp)) (by (simp)) ?_))))))) (fun h6 => awr_end (((True ∧ (0 : Int) ≤ (↑j : Int) ∧ (↑j : Int) < (↑m : Int)) ∧ (0 : Int) ≤ (↑j : Int) ∧ (↑j : Int) < (↑i : Int)) ∧ inRange IntKind.i64 (p j - (c j).pr)) (by (have q := hkj (by omega); simp only [inRange_i64, true_and]; omega)) (aw_ifsne (p j - (c j).pr) ((↑t : Int)) (fun h7 => aw_exits (blk_exit (seq_normal (aw_end (True ∧ inRange IntKind.i64 ((↑j : Int) + (1 : Int))) (by (have q := hkj (by omega); simp only [inRange_i64, true_and]; omega)) (round_t 3 ((True ∧ True ∧ (∀ (i : Nat), i < h.n → True ∧ True) ∧ (∀ (i : Nat), i < h.m → True ∧ True) ∧ True) ∧ (∀ (i_1 : Nat), i_1 < i → True ∧ True ∧ True ∧ True ∧ True ∧ True ∧ True ∧ True) ∧ (∀ (i : Nat), i < m → True ∧ True) ∧ (∀ (i_1 : Nat), i_1 < i → True ∧ True ∧ True ∧ True ∧ True ∧ True ∧ True ∧ True) ∧ (∀ (i : Nat), i < h.n → True ∧ True) ∧ True) (((∀ (i : Nat), i < h.n → True ∧ True) ∧ (∀ (i : Nat), i < h.m → True ∧ True) ∧ True) ∧ (∀ (j : Nat), j < i → True) ∧ True) (by (simp)) (by (simp)) ?_))))) (fun h8 => aw_skips (aw_reg0 (?_)))))))))) (fun h9 => aw_exits (round_exit (blk_exit (blk_normal (seq_normal (aw_end (True ∧ inRange IntKind.i64 ((↑t : Int) + (1 : Int))) (by (simp only [inRange_i64, true_and]; omega)) (?_)))))))))
      · exact round_v ⟨(j + 1, s), by show j + 1 ≤ i; omega, pl_skip hpl (.inl (by assumption))⟩ (by show i - (j + 1) < i - j; omega)
      · exact round_v ⟨(j + 1, s), by show j + 1 ≤ i; omega, pl_skip hpl (.inr (by assumption))⟩ (by show i - (j + 1) < i - j; omega)
      · have hji : j < i := by omega
        have hkj' := hkj hji
        have hpj : (planR c p j).c.pr > 0 := by show (c j).pr > 0; omega
        have hbj : begR (planR c p j) = t := by assumption
        obtain ⟨hs1, hs2⟩ := pl_at hpl hji hpj hbj
        have hput := pl_put hpl hji hpj hbj
        have hnone := rm_none hk hs1
        have hfree := rm_free hk hs1
        rw [hs2, hbj] at hfree
        rw [hs2] at hnone
        have htak := fun (room : Nat) (q : room < h.ro.toNat) => rm_tak hk hs1 q (-1)
        have hstep := fun (q : Nat) (q1 : q < h.ro.toNat) => rm_step (h := h) (c := c) (p := p) (n := i) (s := s) q1
        rw [hs2, hbj] at htak hstep
        refine aw_loopE (ι := {z : Nat × Int // (z.2 = -1 ∧ z.1 ≤ h.ro.toNat ∧ ∀ r, r < z.1 → (t : Int) < rmF h (planR c p) i s r) ∨ (∃ q : Nat, z.2 = q ∧ z.1 = q + 1 ∧ q < h.ro.toNat ∧ rmF h (planR c p) i s q ≤ t ∧ ∀ r, r < q → (t : Int) < rmF h (planR c p) i s r)}) hm0 (T66_67_ok K) (fun z => [(11, i6 z.1.1)]) (fun z => [(2, .arr i fun t => i6 (upd (rmR h (planR c p) i s) j z.1.2 t))]) (fun z => h.ro.toNat - z.1.1) ⟨(0, -1), .inl ⟨rfl, Nat.zero_le _, fun r hr => by omega⟩⟩ (fun z => ?_) (by
          show _ = lst _ _ [(2, .arr i fun t => i6 (upd (rmR h (planR c p) i s) j (-1) t))] _
          rw [upd_id hnone]
          kernel_rfl)
        obtain ⟨⟨r, v⟩, hrv⟩ := z
        simp only at hrv
        have fin : ∀ q : Nat, v = q → q < h.ro.toNat → rmF h (planR c p) i s q ≤ t → (∀ r, r < q → (t : Int) < rmF h (planR c p) i s r) → (fun t => i6 (rmR h (planR c p) i (s + 1) t)) = fun t => i6 (upd (rmR h (planR c p) i s) j v t) := fun q e q1 q2 q3 => by rw [hstep q q1 q2 q3, e]
        refine aw_assoc (aw_opens (awr_testd 5 (61 : Nat) (True) trivial ((↑r : Int) < h.ro) (fun h9 => awr_end ((True ∧ (0 : Int) ≤ (↑j : Int) ∧ (↑j : Int) < (↑i : Int)) ∧ j < i) (by (simp only [inRange_i64, true_and]; omega)) (aw_ifsd (upd (rmR h (planR c p) i s) j v j < (0 : Int)) (fun h10 => aw_skips (aw_blocks (aw_reg0 (aw_assoc (aw_reg0 (?_)))))) (fun h11 => aw_exits (round_exit (blk_exit (blk_normal (seq_normal (aw_end (True ∧ inRange IntKind.i64 ((↑j : Int) + (1 : Int))) (by (simp only [inRange_i64, true_and]; omega)) (round_t 3 ((True ∧ True ∧ (∀ (i : Nat), i < h.n → True ∧ True) ∧ (∀ (i : Nat), i < h.m → True ∧ True) ∧ True) ∧ (∀ (i_1 : Nat), i_1 < i → True ∧ True ∧ True ∧ True ∧ True ∧ True ∧ True ∧ True) ∧ (∀ (i : Nat), i < m → True ∧ True) ∧ (∀ (i_1 : Nat), i_1 < i → True ∧ True ∧ True ∧ True ∧ True ∧ True ∧ True ∧ True) ∧ (∀ (i : Nat), i < h.n → True ∧ True) ∧ True) (((∀ (i : Nat), i < h.n → True ∧ True) ∧ (∀ (i : Nat), i < h.m → True ∧ True) ∧ True) ∧ (∀ (j : Nat), j < i → True) ∧ True) (by (simp)) (by (simp)) ?_))))))))) (fun h12 => awr_end0 (aw_no (aw_exits (round_exit (blk_exit (blk_normal (seq_normal (aw_end (True ∧ inRange IntKind.i64 ((↑j : Int) + (1 : Int))) (by (simp only [inRange_i64, true_and]; omega)) (round_t 3 ((True ∧ True ∧ (∀ (i : Nat), i < h.n → True ∧ True) ∧ (∀ (i : Nat), i < h.m → True ∧ True) ∧ True) ∧ (∀ (i_1 : Nat), i_1 < i → True ∧ True ∧ True ∧ True ∧ True ∧ True ∧ True ∧ True) ∧ (∀ (i : Nat), i < m → True ∧ True) ∧ (∀ (i_1 : Nat), i_1 < i → True ∧ True ∧ True ∧ True ∧ True ∧ True ∧ True ∧ True) ∧ (∀ (i : Nat), i < h.n → True ∧ True) ∧ True) (((∀ (i : Nat), i < h.n → True ∧ True) ∧ (∀ (i : Nat), i < h.m → True ∧ True) ∧ True) ∧ (∀ (j : Nat), j < i → True) ∧ True) (by (simp)) (by (simp)) ?_)))))))))))
        · have hv : v < 0 := by have q := h10; rwa [upd_at] at q
          obtain ⟨hv1, hr1, hr2⟩ : v = -1 ∧ r ≤ h.ro.toNat ∧ ∀ r_1, r_1 < r → (t : Int) < rmF h (planR c p) i s r_1 := by
            rcases hrv with q | ⟨q, e, _⟩
            · exact q
            · omega
          have hr3 : r < h.ro.toNat := by omega
          have htk := htak r hr3
          rw [← hv1] at htk
          refine aw_loopV (ι := {z : Nat × Bool // z.1 ≤ i ∧ z.2 = anyI (takB (planR c p) (upd (rmR h (planR c p) i s) j v) j r t) z.1}) hm0 (T66_67_ok K) (fun z => [(13, i6 z.1.1), (12, bD z.1.2)]) (fun _ => []) (fun z => i - z.1.1) ⟨(0, false), Nat.zero_le _, rfl⟩ (fun z => ?_)
          obtain ⟨⟨k, b⟩, hki, hb⟩ := z
          simp only at hki hb
          have hkk := fun (q : k < i) => hkp k q
          refine aw_assoc (aw_reg0 (aw_ifsd ((↑k : Int) < (↑i : Int)) (fun h11 => aw_skips (aw_blocks (aw_open (awr_testq 2 (77 : Nat) (True) trivial (b) (fun h12 => awr_end0 (blk_normal (seq_normal (aw_end (True ∧ inRange IntKind.i64 ((↑k : Int) + (1 : Int))) (by (have q := hkk (by omega); simp only [inRange_i64, true_and]; omega)) (round_t 11 ((True ∧ True ∧ (∀ (i : Nat), i < h.n → True ∧ True) ∧ (∀ (i : Nat), i < h.m → True ∧ True) ∧ True) ∧ (∀ (i_1 : Nat), i_1 < i → True ∧ True ∧ True ∧ True ∧ True ∧ True ∧ True ∧ True) ∧ (∀ (i : Nat), i < m → True ∧ True) ∧ (∀ (i_1 : Nat), i_1 < i → True ∧ True ∧ True ∧ True ∧ True ∧ True ∧ True ∧ True) ∧ (∀ (i : Nat), i < h.n → True ∧ True) ∧ (∀ (i_1 : Nat), i_1 < i → True ∧ True ∧ True ∧ True ∧ True ∧ True ∧ True ∧ True) ∧ (∀ (i_1 : Nat), i_1 < i → True ∧ True ∧ True ∧ True ∧ True ∧ True ∧ True ∧ True) ∧ (True ∧ True ∧ True ∧ True ∧ True ∧ True ∧ True ∧ True) ∧ (True ∧ True ∧ True ∧ True ∧ True ∧ True ∧ True ∧ True) ∧ (∀ (i : Nat), i < m → True ∧ True) ∧ (True ∧ True) ∧ (∀ (i_1 : Nat), i_1 < i → True ∧ True ∧ True ∧ True ∧ True ∧ True ∧ True ∧ True) ∧ (True ∧ True ∧ True ∧ True ∧ True ∧ True ∧ True ∧ True) ∧ (True ∧ True ∧ True ∧ True ∧ True ∧ True ∧ True ∧ True) ∧ True) (((∀ (i : Nat), i < h.n → True ∧ True) ∧ (∀ (i : Nat), i < h.m → True ∧ True) ∧ True) ∧ (∀ (j : Nat), j < i → True) ∧ True) (by (simp)) (by (simp)) ?_))))) (fun h13 => awr_testne 4 (81 : Nat) (True) trivial ((↑k : Int)) ((↑j : Int)) (fun h14 => awr_teste 8 (89 : Nat) ((True ∧ (0 : Int) ≤ (↑k : Int) ∧ (↑k : Int) < (↑i : Int)) ∧ k < i) (by (have q := hkk (by omega); simp only [inRange_i64, true_and]; omega)) (upd (rmR h (planR c p) i s) j v k) ((↑r : Int)) (fun h15 => awr_end (((True ∧ (0 : Int) ≤ (↑k : Int) ∧ (↑k : Int) < (↑i : Int)) ∧ (0 : Int) ≤ (↑k : Int) ∧ (↑k : Int) < (↑m : Int)) ∧ ((-1000000 : Int) ≤ p k ∧ p k ≤ (1000000 : Int)) ∧ (-1000000 : Int) ≤ (↑t : Int) ∧ (↑t : Int) ≤ (1000000 : Int)) (by (have q := hkk (by omega); simp only [inRange_i64, true_and]; omega)) (blk_normal (seq_normal (aw_end (True ∧ inRange IntKind.i64 ((↑k : Int) + (1 : Int))) (by (have q := hkk (by omega); simp only [inRange_i64, true_and]; omega)) (round_t 11 ((True ∧ True ∧ (∀ (i : Nat), i < h.n → True ∧ True) ∧ (∀ (i : Nat), i < h.m → True ∧ True) ∧ True) ∧ (∀ (i_1 : Nat), i_1 < i → True ∧ True ∧ True ∧ True ∧ True ∧ True ∧ True ∧ True) ∧ (∀ (i : Nat), i < m → True ∧ True) ∧ (∀ (i_1 : Nat), i_1 < i → True ∧ True ∧ True ∧ True ∧ True ∧ True ∧ True ∧ True) ∧ (∀ (i : Nat), i < h.n → True ∧ True) ∧ (∀ (i_1 : Nat), i_1 < i → True ∧ True ∧ True ∧ True ∧ True ∧ True ∧ True ∧ True) ∧ (∀ (i_1 : Nat), i_1 < i → True ∧ True ∧ True ∧ True ∧ True ∧ True ∧ True ∧ True) ∧ (True ∧ True ∧ True ∧ True ∧ True ∧ True ∧ True ∧ True) ∧ (True ∧ True ∧ True ∧ True ∧ True ∧ True ∧ True ∧ True) ∧ (∀ (i : Nat), i < m → True ∧ True) ∧ (True ∧ True) ∧ (∀ (i_1 : Nat), i_1 < i → True ∧ True ∧ True ∧ True ∧ True ∧ True ∧ True ∧ True) ∧ (True ∧ True ∧ True ∧ True ∧ True ∧ True ∧ True ∧ True) ∧ (True ∧ True ∧ True ∧ True ∧ True ∧ True ∧ True ∧ True) ∧ True) (((∀ (i : Nat), i < h.n → True ∧ True) ∧ (∀ (i : Nat), i < h.m → True ∧ True) ∧ True) ∧ (∀ (j : Nat), j < i → True) ∧ True) (by (simp)) (by (simp)) ?_))))) (fun h16 => awr_end0 (blk_normal (seq_normal (aw_end (True ∧ inRange IntKind.i64 ((↑k : Int) + (1 : Int))) (by (have q := hkk (by omega); simp only [inRange_i64, true_and]; omega)) (round_t 11 ((True ∧ True ∧ (∀ (i : Nat), i < h.n → True ∧ True) ∧ (∀ (i : Nat), i < h.m → True ∧ True) ∧ True) ∧ (∀ (i_1 : Nat), i_1 < i → True ∧ True ∧ True ∧ True ∧ True ∧ True ∧ True ∧ True) ∧ (∀ (i : Nat), i < m → True ∧ True) ∧ (∀ (i_1 : Nat), i_1 < i → True ∧ True ∧ True ∧ True ∧ True ∧ True ∧ True ∧ True) ∧ (∀ (i : Nat), i < h.n → True ∧ True) ∧ (∀ (i_1 : Nat), i_1 < i → True ∧ True ∧ True ∧ True ∧ True ∧ True ∧ True ∧ True) ∧ (∀ (i_1 : Nat), i_1 < i → True ∧ True ∧ True ∧ True ∧ True ∧ True ∧ True ∧ True) ∧ (True ∧ True ∧ True ∧ True ∧ True ∧ True ∧ True ∧ True) ∧ (True ∧ True ∧ True ∧ True ∧ True ∧ True ∧ True ∧ True) ∧ (∀ (i : Nat), i < m → True ∧ True) ∧ (True ∧ True) ∧ (∀ (i_1 : Nat), i_1 < i → True ∧ True ∧ True ∧ True ∧ True ∧ True ∧ True ∧ True) ∧ (True ∧ True ∧ True ∧ True ∧ True ∧ True ∧ True ∧ True) ∧ (True ∧ True ∧ True ∧ True ∧ True ∧ True ∧ True ∧ True) ∧ True) (((∀ (i : Nat), i < h.n → True ∧ True) ∧ (∀ (i : Nat), i < h.m → True ∧ True) ∧ True) ∧ (∀ (j : Nat), j < i → True) ∧ True) (by (simp)) (by (simp)) ?_)))))) (fun h17 => awr_end0 (blk_normal (seq_normal (aw_end (True ∧ inRange IntKind.i64 ((↑k : Int) + (1 : Int))) (by (have q := hkk (by omega); simp only [inRange_i64, true_and]; omega)) (round_t 11 ((True ∧ True ∧ (∀ (i : Nat), i < h.n → True ∧ True) ∧ (∀ (i : Nat), i < h.m → True ∧ True) ∧ True) ∧ (∀ (i_1 : Nat), i_1 < i → True ∧ True ∧ True ∧ True ∧ True ∧ True ∧ True ∧ True) ∧ (∀ (i : Nat), i < m → True ∧ True) ∧ (∀ (i_1 : Nat), i_1 < i → True ∧ True ∧ True ∧ True ∧ True ∧ True ∧ True ∧ True) ∧ (∀ (i : Nat), i < h.n → True ∧ True) ∧ (∀ (i_1 : Nat), i_1 < i → True ∧ True ∧ True ∧ True ∧ True ∧ True ∧ True ∧ True) ∧ (∀ (i_1 : Nat), i_1 < i → True ∧ True ∧ True ∧ True ∧ True ∧ True ∧ True ∧ True) ∧ (True ∧ True ∧ True ∧ True ∧ True ∧ True ∧ True ∧ True) ∧ (True ∧ True ∧ True ∧ True ∧ True ∧ True ∧ True ∧ True) ∧ (∀ (i : Nat), i < m → True ∧ True) ∧ (True ∧ True) ∧ (∀ (i_1 : Nat), i_1 < i → True ∧ True ∧ True ∧ True ∧ True ∧ True ∧ True ∧ True) ∧ (True ∧ True ∧ True ∧ True ∧ True ∧ True ∧ True ∧ True) ∧ (True ∧ True ∧ True ∧ True ∧ True ∧ True ∧ True ∧ True) ∧ True) (((∀ (i : Nat), i < h.n → True ∧ True) ∧ (∀ (i : Nat), i < h.m → True ∧ True) ∧ True) ∧ (∀ (j : Nat), j < i → True) ∧ True) (by (simp)) (by (simp)) ?_)))))))))) (fun h18 => aw_exits (round_exit (blk_exit (seq_normal (aw_reg0 (aw_if (!b) (fun h19 => aw_end ((True ∧ (0 : Int) ≤ (↑j : Int) ∧ (↑j : Int) < (↑i : Int)) ∧ j + (1 : Nat) ≤ i) (by (simp only [inRange_i64, true_and]; omega)) (blk_normal (seq_normal (aw_end (True ∧ inRange IntKind.i64 ((↑r : Int) + (1 : Int))) (by (simp only [inRange_i64, true_and]; omega)) (?_))))) (fun h20 => aw_skip (blk_normal (seq_normal (aw_end (True ∧ inRange IntKind.i64 ((↑r : Int) + (1 : Int))) (by (simp only [inRange_i64, true_and]; omega)) (?_)))))))))))))
          · exact round_v ⟨(k + 1, true), by show k + 1 ≤ i; omega, by show true = _; rw [any_step, ← hb, h12]; rfl⟩ (by show i - (k + 1) < i - k; omega)
          · refine round_v ⟨(k + 1, prepsP (c k) (p k) t), by show k + 1 ≤ i; omega, ?_⟩ (by show i - (k + 1) < i - k; omega)
            show prepsP (c k) (p k) t = _
            rw [any_step, ← hb, h13, Bool.false_or]
            unfold takB
            rw [decide_eq_true (by omega : k ≠ j), decide_eq_true h15, Bool.true_and, Bool.true_and]
            rfl
          · refine round_v ⟨(k + 1, false), by show k + 1 ≤ i; omega, ?_⟩ (by show i - (k + 1) < i - k; omega)
            show false = _
            rw [any_step, ← hb, h13, Bool.false_or]
            unfold takB
            rw [decide_eq_false h16, Bool.false_and, Bool.and_false]
          · refine round_v ⟨(k + 1, false), by show k + 1 ≤ i; omega, ?_⟩ (by show i - (k + 1) < i - k; omega)
            show false = _
            rw [any_step, ← hb, h13, Bool.false_or]
            unfold takB
            rw [decide_eq_false (by omega : ¬ k ≠ j), Bool.false_and]
          · obtain rfl : k = i := by omega
            have hbf : b = false := by cases b <;> simp_all
            rw [← hb, hbf] at htk
            have hle := of_decide_eq_false htk.symm
            refine round_v ⟨(r + 1, (r : Int)), .inr ⟨r, rfl, rfl, hr3, by omega, hr2⟩⟩ (by show h.ro.toNat - (r + 1) < h.ro.toNat - r; omega) ?_
            show fgt (lessL (11 :: []) _) _ = lst _ [(11, i6 ((r + 1 : Nat) : Int))] [(2, .arr k fun t => i6 (upd (rmR h (planR c p) k s) j (r : Int) t))] _
            rw [show (fun t => i6 (upd (rmR h (planR c p) k s) j (r : Int) t)) = _ from upd_set (a := v)]
            kernel_rfl
          · obtain rfl : k = i := by omega
            have hbt : b = true := by cases b <;> simp_all
            rw [← hb, hbt] at htk
            have hlt := of_decide_eq_true htk.symm
            exact round_v ⟨(r + 1, v), .inl ⟨hv1, by omega, fun q hq => by
              rcases Nat.lt_or_ge q r with a | a
              · exact hr2 q a
              · obtain rfl : q = r := by omega
                exact hlt⟩⟩ (by show h.ro.toNat - (r + 1) < h.ro.toNat - r; omega)
        · have hv : ¬ v < 0 := by have q := h11; rwa [upd_at] at q
          obtain ⟨q, e, q1, q2, q3, q4⟩ : ∃ q : Nat, v = q ∧ r = q + 1 ∧ q < h.ro.toNat ∧ rmF h (planR c p) i s q ≤ t ∧ ∀ r, r < q → (t : Int) < rmF h (planR c p) i s r := by
            rcases hrv with q | q
            · omega
            · exact q
          refine round_v ⟨(j + 1, s + 1), by show j + 1 ≤ i; omega, hput⟩ (by show i - (j + 1) < i - j; omega) ?_
          show fgt (lessL (10 :: []) _) _ = lst _ [(10, i6 ((j + 1 : Nat) : Int))] [(2, .arr i fun t => i6 (rmR h (planR c p) i (s + 1) t))] _
          rw [fin q e q2 q3 q4]
          kernel_rfl
        · obtain ⟨q, e, q1, q2, q3, q4⟩ : ∃ q : Nat, v = q ∧ r = q + 1 ∧ q < h.ro.toNat ∧ rmF h (planR c p) i s q ≤ t ∧ ∀ r, r < q → (t : Int) < rmF h (planR c p) i s r := by
            rcases hrv with ⟨_, q2, q3⟩ | q
            · obtain ⟨r0, a1, a2⟩ := hfree
              have := q3 r0 (by omega)
              omega
            · exact q
          refine round_v ⟨(j + 1, s + 1), by show j + 1 ≤ i; omega, hput⟩ (by show i - (j + 1) < i - j; omega) ?_
          show fgt (lessL (10 :: []) _) _ = lst _ [(10, i6 ((j + 1 : Nat) : Int))] [(2, .arr i fun t => i6 (rmR h (planR c p) i (s + 1) t))] _
          rw [fin q e q2 q3 q4]
          kernel_rfl
      · obtain rfl : j = i := by omega
        exact round_v ⟨(t + 1, s), by show t + 1 ≤ h.n; omega, pl_hour hpl⟩ (by show h.n - (t + 1) < h.n - t; omega)
    · obtain rfl : t = h.n := by omega
      have hse := pl_end hpl fun k hk1 hk2 => by have := hkp k hk1; show p k - (c k).pr < _; omega
      exact frz_ints (m := i) (f := fun t => i6 (rmR h (planR c p) i s t)) (by kernel_rfl) (Nat.le_refl _) (fun j hj => by rw [rm_end hj, hse])

end Go.Ev
