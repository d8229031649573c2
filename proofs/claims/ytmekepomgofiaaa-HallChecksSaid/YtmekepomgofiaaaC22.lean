import Derived.Test.YtmekepomgofiaaaC21
import Derived.Test.YtmekepomgofiaaaC20
import Derived.Test.YtmekepomgofiaaaC14
import Derived.Test.YtmekepomgofiaaaC12
set_option linter.all false
section
open Go Go.Ev Go.RowKit
namespace Go.Ev
set_option maxRecDepth 100000
set_option maxHeartbeats 2000000
set_option linter.all false
theorem keepB_ro {h : Hall} {n : Nat} {c : Nat → Camp} {m : Nat} {p : Nat → Int} (e : keepB h n c m p = true) : 1 ≤ h.ro ∧ h.ro ≤ 4 ∧ n ≤ 16 := by
  have hk := (keepB_ok e).1
  simp only [okB, Bool.and_eq_true, campsB, hallB, decide_eq_true_eq, Bool.not_eq_true'] at hk
  obtain ⟨⟨⟨⟨h1, h2, h3⟩, h4, h5, h6⟩, h7, h8⟩, h9⟩ := hk
  omega
theorem cat_at {a j : Nat} {g : Nat → D} {v : D} (ha : 0 < a) (hj : j < a + 1) : catF a g (getK [v]) j = if j < a then g j else v := by
  unfold catF
  cases h : Nat.beq a 0 with
  | true => have := Nat.eq_of_beq_eq_true h; omega
  | false =>
    simp only
    cases h2 : Nat.ble (j + 1) a with
    | true => have := Nat.le_of_ble_eq_true h2; simp only; rw [if_pos (by omega)]
    | false =>
      have h3 : ¬ j + 1 ≤ a := fun q => by rw [Nat.ble_eq_true_of_le q] at h2; cases h2
      simp only
      rw [if_neg (by omega), show j - a = 0 by omega, getK_eq]
      rfl
def roomsV (x : Nat → Run) (ro n : Nat) (k t : Nat) : Int := if t < n then (roomS x ro (ordO x n) k).2 t else 0
theorem rooms_0 {x : Nat → Run} {ro n : Nat} : (fun t => D.val (.int .i64 (fillI 0 (n : Int) (-1) (fun _ => 0) t))) = fun t => D.val (.int .i64 (roomsV x ro n 0 t)) := by
  funext t
  congr 2
  unfold fillI roomsV
  by_cases q : t < n
  · rw [if_pos ⟨by omega, by omega⟩, if_pos q]
    rfl
  · rw [if_neg (by omega), if_neg q]
theorem rooms_s {x : Nat → Run} {ro n k : Nat} (h : ordO x n k < n) : (fun t => D.val (.int .i64 (roomsV x ro n (k + 1) t))) = updF (fun t => D.val (.int .i64 (roomsV x ro n k t))) (ordO x n k) [D.val (.int .i64 (nextR ro (roomS x ro (ordO x n) k).1 (begR (x (ordO x n k)))))] := by
  funext t
  show _ = (match Nat.beq t (ordO x n k) with | true => _ | false => _)
  cases q : Nat.beq t (ordO x n k) with
  | true =>
    obtain rfl := Nat.eq_of_beq_eq_true q
    simp only [roomsV, if_pos h]
    congr 2
    exact upd_at
  | false =>
    have hne := Nat.ne_of_beq_eq_false q
    simp only [roomsV]
    congr 2
    by_cases q2 : t < n
    · rw [if_pos q2, if_pos q2]
      exact upd_ne hne
    · rw [if_neg q2, if_neg q2]
theorem free_s {x : Nat → Run} {ro n k : Nat} : (fun t => D.val (.int .i64 ((roomS x ro (ordO x n) (k + 1)).1 t))) = updF (fun t => D.val (.int .i64 ((roomS x ro (ordO x n) k).1 t))) (nextR ro (roomS x ro (ordO x n) k).1 (begR (x (ordO x n k)))).toNat [D.val (.int .i64 (x (ordO x n k)).first)] := by
  funext t
  show _ = (match Nat.beq t _ with | true => _ | false => _)
  cases q : Nat.beq t (nextR ro (roomS x ro (ordO x n) k).1 (begR (x (ordO x n k)))).toNat with
  | true =>
    have e := Nat.eq_of_beq_eq_true q
    congr 2
    rw [e]
    exact upd_at
  | false =>
    congr 2
    exact upd_ne (Nat.ne_of_beq_eq_false q)

def roomsO (h : Hall) (x : Nat → Run) (n : Nat) : Nat → Int := roomsV x h.ro.toNat n (ordN x n)
theorem rooms_plan (h : Hall) (n : Nat) (c : Nat → Camp) (m : Nat) (p : Nat → Int) (hn : h.n ≤ 100000 ∧ h.m ≤ 100000 ∧ n ≤ 100000 ∧ m ≤ 100000) : Alone PG 24 [.agg (hallD h), rowC n c, rowI m p] (.tup [rowI (okN (keepB h n c m p) n) (roomsO h (planR c p) n), i6 (obErr h n c m p)]) :=
  Alone.ofF (cl := T66_67) hm0 T66_67_ok cf_24 fun K w => by
    refine aw_reg0 (aw_reg (True ∧ ((∀ (i : Nat), i < h.n → [i6 (h.st i)] = [i6 (h.st i)]) ∧ ∀ (i : Nat), i < h.m → [i6 (h.en i)] = [i6 (h.en i)]) ∧ (∀ (i : Nat), i < n → campD (c i) = campD (c i)) ∧ (∀ (i : Nat), i < m → [i6 (p i)] = [i6 (p i)]) ∧ n ≤ (100000 : Nat) ∧ m ≤ (100000 : Nat) ∧ h.n ≤ (100000 : Nat) ∧ h.m ≤ (100000 : Nat)) (by (simp <;> omega)) (aw_assoc (aw_reg0 (aw_ifsne (obErr h n c m p) ((0 : Int)) (fun h1 => aw_assoc (aw_reg0 (aw_rets (end_f (D.tup [D.val (Value.slice none (0 : Nat) (0 : Nat)), D.val (Value.int IntKind.i64 (obErr h n c m p))]) ?_)))) (fun h2 => aw_skips (aw_reg0 (aw_reg (True ∧ (0 : Int) ≤ (↑(okN (keepB h n c m p) n) : Int) ∧ (↑(okN (keepB h n c m p) n) : Int) ≤ (↑(okN (keepB h n c m p) n) : Int) ∧ (↑(okN (keepB h n c m p) n) : Int) ≤ (1048576 : Int) ∧ (8 : Nat) * okN (keepB h n c m p) n ≤ (16777216 : Nat)) ?_ (aw_assoc (aw_reg0 (?_))))))))))
    · have e := obErr_bad h1
      exact frz_tup (frzL_cons (frz_bad (by exact e)) (frzL_cons (frz_i rfl) frzL_nil))
    · have e := obErr_ok h2
      have en : okN (keepB h n c m p) n = n := by rw [e]; rfl
      have i16 : n ≤ 1000 := (keepB_keepC e).2.2.1
      rw [en]; simp only [true_and]; omega
    · have e := obErr_ok h2
      have hk := keepB_prep e
      have en : okN (keepB h n c m p) n = n := by rw [e]; rfl
      have i16 : n ≤ 1000 := (keepB_keepC e).2.2.1
      have hro := keepB_ro e
      refine aw_loopG (ι := {i : Nat // i ≤ n ∧ ordN (planR c p) i = 0} ⊕ {i : Nat // i ≤ n ∧ 0 < ordN (planR c p) i}) 1 hm0 (T66_67_ok K) (Sum.elim (fun z => [(33, i6 z.1), (10, .val (.slice none 0 0))]) (fun z => [(33, i6 z.1), (10, .sl 5 0 (ordN (planR c p) z.1) 1 none)])) (Sum.elim (fun z => [(4, .arr (okN (keepB h n c m p) n) fun t => .val (.int .i64 (fillI 0 z.1 (-1) (fun _ => 0) t)))]) (fun z => [(4, .arr (okN (keepB h n c m p) n) fun t => .val (.int .i64 (fillI 0 z.1 (-1) (fun _ => 0) t))), (5, .arr (ordN (planR c p) z.1) fun t => .val (.int .i64 (ordF (planR c p) z.1 t)))])) (Sum.elim (fun z => n - z.1) (fun z => n - z.1)) (.inl ⟨0, Nat.zero_le n, rfl⟩) (fun z => ?_) (by
        show _ = lst _ _ [(4, .arr (okN (keepB h n c m p) n) fun t => D.val (.int .i64 (fillI 0 0 (-1) (fun _ => 0) t)))] _
        rw [← fill_0]
        kernel_rfl)
      rcases z with ⟨i, hi, ho⟩ | ⟨i, hi, ho⟩
      · have r3 : (planR c p i).c.pr = (c i).pr := rfl
        refine aw_reg0 (aw_ifsd ((↑i : Int) < (↑(okN (keepB h n c m p) n) : Int)) (fun h3 => aw_skips (aw_blocks (aw_reg (True ∧ (0 : Int) ≤ (↑i : Int) ∧ (↑i : Int) < (↑(okN (keepB h n c m p) n) : Int)) (by (simp only [true_and]; omega)) (aw_reg ((True ∧ (0 : Int) ≤ (↑i : Int) ∧ (↑i : Int) < (↑(okN (keepB h n c m p) n) : Int)) ∧ i + (1 : Nat) ≤ okN (keepB h n c m p) n) (by (simp only [true_and]; omega)) (aw_reg0 (aw_ifd ((planR c p i).c.pr > (0 : Int)) (fun h4 => aw_end0 (blk_normal (seq_normal (aw_end (True ∧ inRange IntKind.i64 ((↑i : Int) + (1 : Int))) (by (simp only [inRange_i64, true_and]; omega)) (round_g 5 8 ((True ∧ True ∧ (∀ (i : Nat), i < h.n → True ∧ True) ∧ (∀ (i : Nat), i < h.m → True ∧ True) ∧ True) ∧ (∀ (i : Nat), i < n → True ∧ True ∧ True ∧ True ∧ True ∧ True ∧ True ∧ True) ∧ (∀ (i : Nat), i < m → True ∧ True) ∧ ((∀ (i : Nat), i < okN (keepB h n c m p) n → True ∧ True ∧ True ∧ True ∧ True ∧ True ∧ True ∧ True ∧ True) ∧ True ∧ True) ∧ (True ∧ True ∧ (∀ (i : Nat), i < h.n → True ∧ True) ∧ (∀ (i : Nat), i < h.m → True ∧ True) ∧ True) ∧ (∀ (i : Nat), i < n → True ∧ True ∧ True ∧ True ∧ True ∧ True ∧ True ∧ True) ∧ (∀ (i : Nat), i < m → True ∧ True) ∧ ((∀ (i : Nat), i < okN (keepB h n c m p) n → True ∧ True ∧ True ∧ True ∧ True ∧ True ∧ True ∧ True ∧ True) ∧ True ∧ True) ∧ (∀ (i : Nat), i < okN (keepB h n c m p) n → True ∧ True ∧ True ∧ True ∧ True ∧ True ∧ True ∧ True ∧ True) ∧ (∀ (i : Nat), i < okN (keepB h n c m p) n → True ∧ True ∧ True ∧ True ∧ True ∧ True ∧ True ∧ True ∧ True) ∧ (∀ (i : Nat), i < okN (keepB h n c m p) n → True ∧ True ∧ True ∧ True ∧ True ∧ True ∧ True ∧ True ∧ True) ∧ True) (((∀ (i : Nat), i < h.n → True ∧ True) ∧ (∀ (i : Nat), i < h.m → True ∧ True) ∧ True) ∧ ((∀ (i : Nat), i < okN (keepB h n c m p) n → True ∧ True ∧ True ∧ True ∧ True ∧ True ∧ True ∧ True ∧ True) ∧ True) ∧ (∀ (j : Nat), j < okN (keepB h n c m p) n → needD (5 : Nat) (updF (fun (t : Nat) => D.val (Value.int IntKind.i64 (fillI (0 : Int) (↑i : Int) (-1 : Int) (fun (x : Nat) => (0 : Int)) t))) i [D.val (Value.int IntKind.i64 (-1 : Int))] j)) ∧ True) (True ∧ True) (by (simp)) ?_ (by (simp)) ?_))))) (fun h5 => aw_skip (blk_normal (seq_normal (aw_end (True ∧ inRange IntKind.i64 ((↑i : Int) + (1 : Int))) (by (simp only [inRange_i64, true_and]; omega)) (round_t 6 ((True ∧ True ∧ (∀ (i : Nat), i < h.n → True ∧ True) ∧ (∀ (i : Nat), i < h.m → True ∧ True) ∧ True) ∧ (∀ (i : Nat), i < n → True ∧ True ∧ True ∧ True ∧ True ∧ True ∧ True ∧ True) ∧ (∀ (i : Nat), i < m → True ∧ True) ∧ ((∀ (i : Nat), i < okN (keepB h n c m p) n → True ∧ True ∧ True ∧ True ∧ True ∧ True ∧ True ∧ True ∧ True) ∧ True ∧ True) ∧ (True ∧ True ∧ (∀ (i : Nat), i < h.n → True ∧ True) ∧ (∀ (i : Nat), i < h.m → True ∧ True) ∧ True) ∧ (∀ (i : Nat), i < n → True ∧ True ∧ True ∧ True ∧ True ∧ True ∧ True ∧ True) ∧ (∀ (i : Nat), i < m → True ∧ True) ∧ ((∀ (i : Nat), i < okN (keepB h n c m p) n → True ∧ True ∧ True ∧ True ∧ True ∧ True ∧ True ∧ True ∧ True) ∧ True ∧ True) ∧ (∀ (i : Nat), i < okN (keepB h n c m p) n → True ∧ True ∧ True ∧ True ∧ True ∧ True ∧ True ∧ True ∧ True) ∧ (∀ (i : Nat), i < okN (keepB h n c m p) n → True ∧ True ∧ True ∧ True ∧ True ∧ True ∧ True ∧ True ∧ True) ∧ (∀ (i : Nat), i < okN (keepB h n c m p) n → True ∧ True ∧ True ∧ True ∧ True ∧ True ∧ True ∧ True ∧ True) ∧ True) (((∀ (i : Nat), i < h.n → True ∧ True) ∧ (∀ (i : Nat), i < h.m → True ∧ True) ∧ True) ∧ ((∀ (i : Nat), i < okN (keepB h n c m p) n → True ∧ True ∧ True ∧ True ∧ True ∧ True ∧ True ∧ True ∧ True) ∧ True) ∧ (∀ (j : Nat), j < okN (keepB h n c m p) n → needD (6 : Nat) (updF (fun (t : Nat) => D.val (Value.int IntKind.i64 (fillI (0 : Int) (↑i : Int) (-1 : Int) (fun (x : Nat) => (0 : Int)) t))) i [D.val (Value.int IntKind.i64 (-1 : Int))] j)) ∧ True) (by (simp)) ?_ ?_))))))))))) (fun h6 => aw_exits (round_exit (blk_exit (seq_normal (aw_reg (True ∧ (∀ (i : Nat), i < okN (keepB h n c m p) n → True ∧ True ∧ True ∧ True ∧ True ∧ True ∧ True ∧ True ∧ True) ∧ ∀ (i : Nat), i < okN (keepB h n c m p) n → runD (planR c p i) = runD (planR c p i)) ?_ (aw_reg (True ∧ (0 : Int) ≤ h.ro ∧ h.ro ≤ h.ro ∧ h.ro ≤ (1048576 : Int) ∧ (8 : Nat) * Int.toNat h.ro ≤ (16777216 : Nat)) (by (simp only [true_and]; omega)) (aw_assoc (aw_reg0 (?_))))))))))
        · refine ⟨by simp, by simp, fun j _ => need_updF _ (by simp [needD]) (by simp [needD]), trivial⟩
        · have o1 := ord_t (x := planR c p) h4
          have o2 : ordN (planR c p) (i + 1) = 1 := by rw [o1.1, ho]
          refine round_rb 5 (.cells [i6 i]) (.arr (ordN (planR c p) (i + 1)) fun t => .val (.int .i64 (ordF (planR c p) (i + 1) t))) (cells_arr o2.symm (fun t ht => by
            obtain rfl : t = 0 := by omega
            rw [o1.2, ho]
            rfl)) ?_
          refine round_v (.inr ⟨i + 1, by omega, by rw [o2]; exact Nat.zero_lt_one⟩) (by show n - (i + 1) < n - i; omega) ?_
          show fgt (lessL (33 :: 10 :: []) _) _ = lst _ [(33, i6 ((i + 1 : Nat) : Int)), (10, .sl 5 0 (ordN (planR c p) (i + 1)) 1 none)] [(4, .arr (okN (keepB h n c m p) n) fun t => D.val (.int .i64 (fillI 0 ((i + 1 : Nat) : Int) (-1) (fun _ => 0) t))), (5, .arr (ordN (planR c p) (i + 1)) fun t => D.val (.int .i64 (ordF (planR c p) (i + 1) t)))] _
          rw [show ((i + 1 : Nat) : Int) = (i : Int) + 1 from rfl, fill_set (by omega) (by omega), o2]
          kernel_rfl
        · refine ⟨by simp, by simp, fun j _ => need_updF _ (by simp [needD]) (by simp [needD]), trivial⟩
        · have o1 := ord_f (x := planR c p) h5
          refine round_v (.inl ⟨i + 1, by omega, by rw [o1.1]; exact ho⟩) (by show n - (i + 1) < n - i; omega) ?_
          show fgt (lessL (33 :: 10 :: []) _) _ = lst _ [(33, i6 ((i + 1 : Nat) : Int)), (10, .val (.slice none 0 0))] [(4, .arr (okN (keepB h n c m p) n) fun t => D.val (.int .i64 (fillI 0 ((i + 1 : Nat) : Int) (-1) (fun _ => 0) t)))] _
          rw [show ((i + 1 : Nat) : Int) = (i : Int) + 1 from rfl, fill_set (by omega) (by omega)]
          kernel_rfl
        · exact ⟨trivial, by simp, fun _ _ => rfl⟩
        · have hin : i = n := by rw [en] at *; omega
          refine aw_loopV (ι := Unit) hm0 (T66_67_ok K) (fun _ => [(58, i6 0)]) (fun _ => []) (fun _ => 0) () (fun _ => ?_)
          refine aw_reg0 (aw_no (aw_exits (round_exit (blk_exit (seq_normal (aw_reg0 (aw_ret (end_f (D.tup [D.sl (4 : Nat) (0 : Nat) (okN (keepB h n c m p) n) (1 : Nat) none, D.val (Value.int IntKind.i64 (0 : Int))]) ?_))))))))
          have hz : ordN (planR c p) n = 0 := hin ▸ ho
          exact frz_tup (frzL_cons (frz_ints (m := okN (keepB h n c m p) n) (f := fun t => D.val (.int .i64 (fillI 0 (i : Int) (-1) (fun _ => 0) t))) (by kernel_rfl) (Nat.le_refl _) (fun j hj => by
            show D.val (.int .i64 (fillI 0 (i : Int) (-1) (fun _ => 0) j)) = D.val (.int .i64 (roomsV (planR c p) h.ro.toNat n (ordN (planR c p) n) j))
            rw [hz, hin]
            exact congrFun rooms_0 j)) (frzL_cons (frz_i h2.symm) frzL_nil))
      · have r3 : (planR c p i).c.pr = (c i).pr := rfl
        have ole := ord_le (x := planR c p) i
        refine aw_reg0 (aw_ifsd ((↑i : Int) < (↑(okN (keepB h n c m p) n) : Int)) (fun h3 => aw_skips (aw_blocks (aw_reg (True ∧ (0 : Int) ≤ (↑i : Int) ∧ (↑i : Int) < (↑(okN (keepB h n c m p) n) : Int)) (by (simp only [true_and]; omega)) (aw_reg ((True ∧ (0 : Int) ≤ (↑i : Int) ∧ (↑i : Int) < (↑(okN (keepB h n c m p) n) : Int)) ∧ i + (1 : Nat) ≤ okN (keepB h n c m p) n) (by (simp only [true_and]; omega)) (aw_reg0 (aw_ifd ((planR c p i).c.pr > (0 : Int)) (fun h4 => aw_end (True ∧ ordN (planR c p) i * (1 : Nat) = ordN (planR c p) i ∧ True ∧ ordN (planR c p) i + (1 : Nat) ≤ (1048576 : Nat)) (by (simp only [true_and]; omega)) (blk_normal (seq_normal (aw_end (True ∧ inRange IntKind.i64 ((↑i : Int) + (1 : Int))) (by (simp only [inRange_i64, true_and]; omega)) (round_g 5 8 ((True ∧ True ∧ (∀ (i : Nat), i < h.n → True ∧ True) ∧ (∀ (i : Nat), i < h.m → True ∧ True) ∧ True) ∧ (∀ (i : Nat), i < n → True ∧ True ∧ True ∧ True ∧ True ∧ True ∧ True ∧ True) ∧ (∀ (i : Nat), i < m → True ∧ True) ∧ ((∀ (i : Nat), i < okN (keepB h n c m p) n → True ∧ True ∧ True ∧ True ∧ True ∧ True ∧ True ∧ True ∧ True) ∧ True ∧ True) ∧ (True ∧ True ∧ (∀ (i : Nat), i < h.n → True ∧ True) ∧ (∀ (i : Nat), i < h.m → True ∧ True) ∧ True) ∧ (∀ (i : Nat), i < n → True ∧ True ∧ True ∧ True ∧ True ∧ True ∧ True ∧ True) ∧ (∀ (i : Nat), i < m → True ∧ True) ∧ ((∀ (i : Nat), i < okN (keepB h n c m p) n → True ∧ True ∧ True ∧ True ∧ True ∧ True ∧ True ∧ True ∧ True) ∧ True ∧ True) ∧ (∀ (i : Nat), i < okN (keepB h n c m p) n → True ∧ True ∧ True ∧ True ∧ True ∧ True ∧ True ∧ True ∧ True) ∧ (∀ (i : Nat), i < okN (keepB h n c m p) n → True ∧ True ∧ True ∧ True ∧ True ∧ True ∧ True ∧ True ∧ True) ∧ (∀ (i : Nat), i < okN (keepB h n c m p) n → True ∧ True ∧ True ∧ True ∧ True ∧ True ∧ True ∧ True ∧ True) ∧ True) (((∀ (i : Nat), i < h.n → True ∧ True) ∧ (∀ (i : Nat), i < h.m → True ∧ True) ∧ True) ∧ ((∀ (i : Nat), i < okN (keepB h n c m p) n → True ∧ True ∧ True ∧ True ∧ True ∧ True ∧ True ∧ True ∧ True) ∧ True) ∧ (∀ (j : Nat), j < okN (keepB h n c m p) n → needD (5 : Nat) (updF (fun (t : Nat) => D.val (Value.int IntKind.i64 (fillI (0 : Int) (↑i : Int) (-1 : Int) (fun (x : Nat) => (0 : Int)) t))) i [D.val (Value.int IntKind.i64 (-1 : Int))] j)) ∧ True) (∀ (j : Nat), j < ordN (planR c p) i + lenG [D.val (Value.int IntKind.i64 (↑i : Int))] → needD (5 : Nat) (catF (ordN (planR c p) i) (fun (t : Nat) => D.val (Value.int IntKind.i64 (ordF (planR c p) i t))) (getK [D.val (Value.int IntKind.i64 (↑i : Int))]) j)) (by (simp)) ?_ ?_ ?_))))) (fun h5 => aw_skip (blk_normal (seq_normal (aw_end (True ∧ inRange IntKind.i64 ((↑i : Int) + (1 : Int))) (by (simp only [inRange_i64, true_and]; omega)) (round_t 6 ((True ∧ True ∧ (∀ (i : Nat), i < h.n → True ∧ True) ∧ (∀ (i : Nat), i < h.m → True ∧ True) ∧ True) ∧ (∀ (i : Nat), i < n → True ∧ True ∧ True ∧ True ∧ True ∧ True ∧ True ∧ True) ∧ (∀ (i : Nat), i < m → True ∧ True) ∧ ((∀ (i : Nat), i < okN (keepB h n c m p) n → True ∧ True ∧ True ∧ True ∧ True ∧ True ∧ True ∧ True ∧ True) ∧ True ∧ True) ∧ (True ∧ True ∧ (∀ (i : Nat), i < h.n → True ∧ True) ∧ (∀ (i : Nat), i < h.m → True ∧ True) ∧ True) ∧ (∀ (i : Nat), i < n → True ∧ True ∧ True ∧ True ∧ True ∧ True ∧ True ∧ True) ∧ (∀ (i : Nat), i < m → True ∧ True) ∧ ((∀ (i : Nat), i < okN (keepB h n c m p) n → True ∧ True ∧ True ∧ True ∧ True ∧ True ∧ True ∧ True ∧ True) ∧ True ∧ True) ∧ (∀ (i : Nat), i < okN (keepB h n c m p) n → True ∧ True ∧ True ∧ True ∧ True ∧ True ∧ True ∧ True ∧ True) ∧ (∀ (i : Nat), i < okN (keepB h n c m p) n → True ∧ True ∧ True ∧ True ∧ True ∧ True ∧ True ∧ True ∧ True) ∧ (∀ (i : Nat), i < okN (keepB h n c m p) n → True ∧ True ∧ True ∧ True ∧ True ∧ True ∧ True ∧ True ∧ True) ∧ True) (((∀ (i : Nat), i < h.n → True ∧ True) ∧ (∀ (i : Nat), i < h.m → True ∧ True) ∧ True) ∧ ((∀ (i : Nat), i < okN (keepB h n c m p) n → True ∧ True ∧ True ∧ True ∧ True ∧ True ∧ True ∧ True ∧ True) ∧ True) ∧ (∀ (j : Nat), j < okN (keepB h n c m p) n → needD (6 : Nat) (updF (fun (t : Nat) => D.val (Value.int IntKind.i64 (fillI (0 : Int) (↑i : Int) (-1 : Int) (fun (x : Nat) => (0 : Int)) t))) i [D.val (Value.int IntKind.i64 (-1 : Int))] j)) ∧ (∀ (j : Nat), j < ordN (planR c p) i → True) ∧ True) (by (simp)) ?_ ?_))))))))))) (fun h6 => aw_exits (round_exit (blk_exit (seq_normal (aw_reg (True ∧ (∀ (j : Nat), j < ordN (planR c p) i → ∃ (v : Value), D.val (Value.int IntKind.i64 (ordF (planR c p) i j)) = D.val v) ∧ ordN (planR c p) i * (1 : Nat) = ordN (planR c p) i ∧ (∀ (i : Nat), i < okN (keepB h n c m p) n → True ∧ True ∧ True ∧ True ∧ True ∧ True ∧ True ∧ True ∧ True) ∧ (∀ (j : Nat), j < ordN (planR c p) i → Value.int IntKind.i64 (ordF (planR c p) i j) = Value.int IntKind.i64 (valI (Value.int IntKind.i64 (ordF (planR c p) i j)))) ∧ (∀ (i : Nat), i < okN (keepB h n c m p) n → runD (planR c p i) = runD (planR c p i)) ∧ (ordN (planR c p) i ≤ (19 : Nat) ∧ okN (keepB h n c m p) n ≤ (1000000 : Nat)) ∧ (∀ (i : Nat), i < okN (keepB h n c m p) n → smallR (planR c p i)) ∧ ∀ (t : Nat), t < ordN (planR c p) i → (0 : Int) ≤ valI (Value.int IntKind.i64 (ordF (planR c p) i t)) ∧ valI (Value.int IntKind.i64 (ordF (planR c p) i t)) < (↑(okN (keepB h n c m p) n) : Int)) ?_ (aw_reg (True ∧ (0 : Int) ≤ h.ro ∧ h.ro ≤ h.ro ∧ h.ro ≤ (1048576 : Int) ∧ (8 : Nat) * Int.toNat h.ro ≤ (16777216 : Nat)) (by (simp only [true_and]; omega)) (aw_assoc (aw_reg0 (?_))))))))))
        · refine ⟨by simp, by simp, fun j _ => need_updF _ (by simp [needD]) (by simp [needD]), trivial⟩
        · exact fun j hj => by
            rw [cat_at ho hj]
            split <;> simp [needD]
        · have o1 := ord_t (x := planR c p) h4
          refine round_rb 5 (.arr (ordN (planR c p) i + 1) (catF (ordN (planR c p) i) (fun t => .val (.int .i64 (ordF (planR c p) i t))) (getK [i6 i]))) (.arr (ordN (planR c p) (i + 1)) fun t => .val (.int .i64 (ordF (planR c p) (i + 1) t))) (arr_arr o1.1.symm (fun t ht => by
            rw [o1.1] at ht
            rw [cat_at ho ht, o1.2]
            by_cases q : t < ordN (planR c p) i
            · simp only [if_pos q]
            · simp only [if_neg q])) ?_
          have o3 := o1.1
          refine round_v (.inr ⟨i + 1, by omega, by rw [o3]; omega⟩) (by show n - (i + 1) < n - i; omega) ?_
          show fgt (lessL (33 :: 10 :: []) _) _ = lst _ [(33, i6 ((i + 1 : Nat) : Int)), (10, .sl 5 0 (ordN (planR c p) (i + 1)) 1 none)] [(4, .arr (okN (keepB h n c m p) n) fun t => D.val (.int .i64 (fillI 0 ((i + 1 : Nat) : Int) (-1) (fun _ => 0) t))), (5, .arr (ordN (planR c p) (i + 1)) fun t => D.val (.int .i64 (ordF (planR c p) (i + 1) t)))] _
          rw [show ((i + 1 : Nat) : Int) = (i : Int) + 1 from rfl, fill_set (by omega) (by omega), o3]
          kernel_rfl
        · refine ⟨by simp, by simp, fun j _ => need_updF _ (by simp [needD]) (by simp [needD]), by simp, trivial⟩
        · obtain ⟨o3, o4⟩ := ord_f (x := planR c p) h5
          refine round_v (.inr ⟨i + 1, by omega, by rw [o3]; exact ho⟩) (by show n - (i + 1) < n - i; omega) ?_
          show fgt (lessL (33 :: 10 :: []) _) _ = lst _ [(33, i6 ((i + 1 : Nat) : Int)), (10, .sl 5 0 (ordN (planR c p) (i + 1)) 1 none)] [(4, .arr (okN (keepB h n c m p) n) fun t => D.val (.int .i64 (fillI 0 ((i + 1 : Nat) : Int) (-1) (fun _ => 0) t))), (5, .arr (ordN (planR c p) (i + 1)) fun t => D.val (.int .i64 (ordF (planR c p) (i + 1) t)))] _
          rw [show ((i + 1 : Nat) : Int) = (i : Int) + 1 from rfl, fill_set (by omega) (by omega), o4, o3]
          kernel_rfl
        · refine ⟨trivial, fun j _ => ⟨_, rfl⟩, by omega, by simp, fun _ _ => rfl, fun _ _ => rfl, ⟨by omega, by rw [en]; omega⟩, fun j hj => keepB_small e j (by rw [en] at hj; exact hj), fun t ht => ?_⟩
          obtain ⟨j, q1, q2, q3⟩ := ord_val i t ht
          show 0 ≤ ordF (planR c p) i t ∧ ordF (planR c p) i t < okN (keepB h n c m p) n
          rw [en, q2]
          omega
        · have hin : i = n := by rw [en] at *; omega
          obtain ⟨hP, hR⟩ := keepB_rooms e hro.1
          subst hin
          refine aw_loopV (ι := {k : Nat // k ≤ ordN (planR c p) i}) hm0 (T66_67_ok K) (fun z => [(58, i6 z.1)]) (fun z => [(4, .arr (okN (keepB h i c m p) i) fun t => .val (.int .i64 (roomsV (planR c p) h.ro.toNat i z.1 t))), (7, .arr h.ro.toNat fun t => .val (.int .i64 ((roomS (planR c p) h.ro.toNat (ordO (planR c p) i) z.1).1 t)))]) (fun z => ordN (planR c p) i - z.1) ⟨0, Nat.zero_le _⟩ (fun z => ?_) (by
            show _ = lst _ _ [(4, .arr (okN (keepB h i c m p) i) fun t => D.val (.int .i64 (roomsV (planR c p) h.ro.toNat i 0 t))), (7, .arr h.ro.toNat fun t => D.val (.int .i64 ((roomS (planR c p) h.ro.toNat (ordO (planR c p) i) 0).1 t)))] _
            rw [← rooms_0]
            kernel_rfl)
          obtain ⟨k, hk⟩ := z
          refine aw_reg0 (aw_ifsd ((↑k : Int) < (↑(ordN (planR c p) i) : Int)) (fun h7 => aw_skips (aw_blocks (aw_reg ((True ∧ (0 : Int) ≤ (↑k : Int) ∧ (↑k : Int) < (↑(ordN (planR c p) i) : Int)) ∧ k < ordN (planR c p) i) (by (simp only [inRange_i64, true_and]; omega)) (aw_reg (True ∧ (((0 : Nat) + Int.toNat h.ro * (1 : Nat) ≤ Int.toNat h.ro ∧ ∀ (j : Nat), j < Int.toNat h.ro → True) ∧ ∀ (i_1 : Nat), i_1 < okN (keepB h i c m p) i → True ∧ True ∧ True ∧ True ∧ True ∧ True ∧ True ∧ True ∧ True) ∧ (∀ (i_1 : Nat), i_1 < Int.toNat h.ro → [D.val (Value.int IntKind.i64 ((roomS (planR c p) (Int.toNat h.ro) (ordO (planR c p) i) k).fst i_1))] = [i6 ((roomS (planR c p) (Int.toNat h.ro) (ordO (planR c p) i) k).fst i_1)]) ∧ (∀ (i_1 : Nat), i_1 < okN (keepB h i c m p) i → runD (planR c p i_1) = runD (planR c p i_1)) ∧ Int.toNat h.ro ≤ (1000000 : Nat) ∧ ((0 : Int) ≤ sortI (keyI (planR c p)) (fun (j : Nat) => valI (Value.int IntKind.i64 (ordF (planR c p) i j))) (ordN (planR c p) i) k ∧ sortI (keyI (planR c p)) (fun (j : Nat) => valI (Value.int IntKind.i64 (ordF (planR c p) i j))) (ordN (planR c p) i) k < (↑(okN (keepB h i c m p) i) : Int)) ∧ ∀ (i_1 : Nat), i_1 < okN (keepB h i c m p) i → smallR (planR c p i_1)) ?_ (aw_end (((((True ∧ (0 : Int) ≤ sortI (keyI (planR c p)) (fun (j : Nat) => valI (Value.int IntKind.i64 (ordF (planR c p) i j))) (ordN (planR c p) i) k ∧ sortI (keyI (planR c p)) (fun (j : Nat) => valI (Value.int IntKind.i64 (ordF (planR c p) i j))) (ordN (planR c p) i) k < (↑(okN (keepB h i c m p) i) : Int)) ∧ (0 : Int) ≤ sortI (keyI (planR c p)) (fun (j : Nat) => valI (Value.int IntKind.i64 (ordF (planR c p) i j))) (ordN (planR c p) i) k ∧ sortI (keyI (planR c p)) (fun (j : Nat) => valI (Value.int IntKind.i64 (ordF (planR c p) i j))) (ordN (planR c p) i) k < (↑(okN (keepB h i c m p) i) : Int)) ∧ Int.toNat (sortI (keyI (planR c p)) (fun (j : Nat) => valI (Value.int IntKind.i64 (ordF (planR c p) i j))) (ordN (planR c p) i) k) + (1 : Nat) ≤ okN (keepB h i c m p) i) ∧ (0 : Int) ≤ findI (fun (i_1 : Nat) => decide ((roomS (planR c p) (Int.toNat h.ro) (ordO (planR c p) i) k).fst i_1 ≤ begR (planR c p (Int.toNat (sortI (keyI (planR c p)) (fun (j : Nat) => valI (Value.int IntKind.i64 (ordF (planR c p) i j))) (ordN (planR c p) i) k))))) (Int.toNat h.ro) ∧ findI (fun (i_1 : Nat) => decide ((roomS (planR c p) (Int.toNat h.ro) (ordO (planR c p) i) k).fst i_1 ≤ begR (planR c p (Int.toNat (sortI (keyI (planR c p)) (fun (j : Nat) => valI (Value.int IntKind.i64 (ordF (planR c p) i j))) (ordN (planR c p) i) k))))) (Int.toNat h.ro) < (↑(Int.toNat h.ro) : Int)) ∧ Int.toNat (findI (fun (i_1 : Nat) => decide ((roomS (planR c p) (Int.toNat h.ro) (ordO (planR c p) i) k).fst i_1 ≤ begR (planR c p (Int.toNat (sortI (keyI (planR c p)) (fun (j : Nat) => valI (Value.int IntKind.i64 (ordF (planR c p) i j))) (ordN (planR c p) i) k))))) (Int.toNat h.ro)) + (1 : Nat) ≤ Int.toNat h.ro) ?_ (blk_normal (seq_normal (aw_end (True ∧ inRange IntKind.i64 ((↑k : Int) + (1 : Int))) (by (simp only [inRange_i64, true_and]; omega)) (round_t 8 ((True ∧ True ∧ (∀ (i : Nat), i < h.n → True ∧ True) ∧ (∀ (i : Nat), i < h.m → True ∧ True) ∧ True) ∧ (∀ (i_1 : Nat), i_1 < i → True ∧ True ∧ True ∧ True ∧ True ∧ True ∧ True ∧ True) ∧ (∀ (i : Nat), i < m → True ∧ True) ∧ ((∀ (i_1 : Nat), i_1 < okN (keepB h i c m p) i → True ∧ True ∧ True ∧ True ∧ True ∧ True ∧ True ∧ True ∧ True) ∧ True ∧ True) ∧ (True ∧ True ∧ (∀ (i : Nat), i < h.n → True ∧ True) ∧ (∀ (i : Nat), i < h.m → True ∧ True) ∧ True) ∧ (∀ (i_1 : Nat), i_1 < i → True ∧ True ∧ True ∧ True ∧ True ∧ True ∧ True ∧ True) ∧ (∀ (i : Nat), i < m → True ∧ True) ∧ ((∀ (i_1 : Nat), i_1 < okN (keepB h i c m p) i → True ∧ True ∧ True ∧ True ∧ True ∧ True ∧ True ∧ True ∧ True) ∧ True ∧ True) ∧ (∀ (i_1 : Nat), i_1 < okN (keepB h i c m p) i → True ∧ True ∧ True ∧ True ∧ True ∧ True ∧ True ∧ True ∧ True) ∧ (∀ (i_1 : Nat), i_1 < okN (keepB h i c m p) i → True ∧ True ∧ True ∧ True ∧ True ∧ True ∧ True ∧ True ∧ True) ∧ (∀ (i_1 : Nat), i_1 < okN (keepB h i c m p) i → True ∧ True ∧ True ∧ True ∧ True ∧ True ∧ True ∧ True ∧ True) ∧ (True ∧ Nat.le (Nat.succ ((2 : Nat) + (1 : Nat))) (8 : Nat) ∧ True) ∧ True) (((∀ (i : Nat), i < h.n → True ∧ True) ∧ (∀ (i : Nat), i < h.m → True ∧ True) ∧ True) ∧ ((∀ (i_1 : Nat), i_1 < okN (keepB h i c m p) i → True ∧ True ∧ True ∧ True ∧ True ∧ True ∧ True ∧ True ∧ True) ∧ True) ∧ (∀ (j : Nat), j < okN (keepB h i c m p) i → needD (8 : Nat) (updF (fun (t : Nat) => D.val (Value.int IntKind.i64 (roomsV (planR c p) (Int.toNat h.ro) i k t))) (Int.toNat (sortI (keyI (planR c p)) (fun (j : Nat) => valI (Value.int IntKind.i64 (ordF (planR c p) i j))) (ordN (planR c p) i) k)) [D.val (Value.int IntKind.i64 (findI (fun (i_2 : Nat) => decide ((roomS (planR c p) (Int.toNat h.ro) (ordO (planR c p) i) k).fst i_2 ≤ begR (planR c p (Int.toNat (sortI (keyI (planR c p)) (fun (j : Nat) => valI (Value.int IntKind.i64 (ordF (planR c p) i j))) (ordN (planR c p) i) k))))) (Int.toNat h.ro)))] j)) ∧ (∀ (j : Nat), j < ordN (planR c p) i → True) ∧ (∀ (j : Nat), j < Int.toNat h.ro → needD (8 : Nat) (updF (fun (t : Nat) => D.val (Value.int IntKind.i64 ((roomS (planR c p) (Int.toNat h.ro) (ordO (planR c p) i) k).fst t))) (Int.toNat (findI (fun (i_2 : Nat) => decide ((roomS (planR c p) (Int.toNat h.ro) (ordO (planR c p) i) k).fst i_2 ≤ begR (planR c p (Int.toNat (sortI (keyI (planR c p)) (fun (j : Nat) => valI (Value.int IntKind.i64 (ordF (planR c p) i j))) (ordN (planR c p) i) k))))) (Int.toNat h.ro))) [D.val (Value.int IntKind.i64 (planR c p (Int.toNat (sortI (keyI (planR c p)) (fun (j : Nat) => valI (Value.int IntKind.i64 (ordF (planR c p) i j))) (ordN (planR c p) i) k))).first)] j)) ∧ True) (by (simp)) ?_ ?_))))))))) (fun h8 => aw_exits (round_exit (blk_exit (seq_normal (aw_reg0 (aw_ret (end_f (D.tup [D.sl (4 : Nat) (0 : Nat) (okN (keepB h i c m p) i) (1 : Nat) none, D.val (Value.int IntKind.i64 (0 : Int))]) ?_))))))))
          · have hkm : k < ordN (planR c p) i := by omega
            obtain ⟨v1, v2, v3⟩ := ordO_val hkm
            exact ⟨trivial, ⟨⟨by omega, by simp⟩, by simp⟩, fun _ _ => rfl, fun _ _ => rfl, by omega, ⟨(by rw [v2]; omega : 0 ≤ sortI (keyI (planR c p)) (ordF (planR c p) i) (ordN (planR c p) i) k), (by rw [v2, en]; omega : sortI (keyI (planR c p)) (ordF (planR c p) i) (ordN (planR c p) i) k < okN (keepB h i c m p) i)⟩, fun j hj => keepB_small e j (by rw [en] at hj; exact hj)⟩
          · have hkm : k < ordN (planR c p) i := by omega
            obtain ⟨v1, v2, v3⟩ := ordO_val hkm
            obtain ⟨-, r, q1, q2, q3⟩ := room_step hP hkm (room_all hP hR k hk) (room_free hP hR hkm (room_all hP hR k hk))
            have s0 : 0 ≤ sortI (keyI (planR c p)) (ordF (planR c p) i) (ordN (planR c p) i) k := by rw [v2]; omega
            have s1 : sortI (keyI (planR c p)) (ordF (planR c p) i) (ordN (planR c p) i) k < okN (keepB h i c m p) i := by rw [v2, en]; omega
            have s2 : (sortI (keyI (planR c p)) (ordF (planR c p) i) (ordN (planR c p) i) k).toNat + 1 ≤ okN (keepB h i c m p) i := by omega
            have f0 : 0 ≤ nextR h.ro.toNat (roomS (planR c p) h.ro.toNat (ordO (planR c p) i) k).1 (begR (planR c p (ordO (planR c p) i k))) := by rw [q2]; omega
            have f1 : nextR h.ro.toNat (roomS (planR c p) h.ro.toNat (ordO (planR c p) i) k).1 (begR (planR c p (ordO (planR c p) i k))) < (h.ro.toNat : Int) := by rw [q2]; omega
            have f2 : (nextR h.ro.toNat (roomS (planR c p) h.ro.toNat (ordO (planR c p) i) k).1 (begR (planR c p (ordO (planR c p) i k)))).toNat + 1 ≤ h.ro.toNat := by omega
            exact ⟨⟨⟨⟨⟨trivial, s0, s1⟩, s0, s1⟩, s2⟩, f0, f1⟩, f2⟩
          · exact ⟨by simp, by simp, fun j _ => need_updF _ (by simp [needD]) (by simp [needD]), by simp, fun j _ => need_updF _ (by simp [needD]) (by simp [needD]), trivial⟩
          · have hkm : k < ordN (planR c p) i := by omega
            obtain ⟨v1, v2, v3⟩ := ordO_val hkm
            refine round_v ⟨k + 1, by omega⟩ (by show ordN (planR c p) i - (k + 1) < ordN (planR c p) i - k; omega) ?_
            show fgt (lessL (58 :: []) _) _ = lst _ [(58, i6 ((k + 1 : Nat) : Int))] [(4, .arr (okN (keepB h i c m p) i) fun t => D.val (.int .i64 (roomsV (planR c p) h.ro.toNat i (k + 1) t))), (7, .arr h.ro.toNat fun t => D.val (.int .i64 ((roomS (planR c p) h.ro.toNat (ordO (planR c p) i) (k + 1)).1 t)))] _
            rw [rooms_s v1, free_s]
            kernel_rfl
          · have hke : k = ordN (planR c p) i := by omega
            subst hke
            exact frz_tup (frzL_cons (frz_ints (m := okN (keepB h i c m p) i) (f := fun t => D.val (.int .i64 (roomsV (planR c p) h.ro.toNat i (ordN (planR c p) i) t))) (by kernel_rfl) (Nat.le_refl _) (fun j hj => rfl)) (frzL_cons (frz_i h2.symm) frzL_nil))

end Go.Ev
end
section
open Go Go.Ev Go.RowKit
namespace Go.Ev
set_option linter.all false
/-- every run that prepares stands somewhere in the order -/
theorem ordO_all {x : Nat → Run} {n j : Nat} (hj : j < n) (hp : (x j).c.pr > 0) : ∃ t, t < ordN x n ∧ ordO x n t = j := by
  obtain ⟨l, r, f, a⟩ := sort_spec (key := keyI x) (c := ordF x n) (n := ordN x n) (fun s t h1 h2 => ord_asc n s t h1 h2) (ordN x n) (Nat.le_refl _)
  obtain ⟨t', h1, h2⟩ := ord_all n j hj hp
  obtain ⟨t, h3, h4⟩ := a t' h1
  exact ⟨t, h3, by unfold ordO; rw [h4, h2, Int.toNat_natCast]⟩
end Go.Ev
end
section
open Go Go.Ev Go.RowKit
namespace Go.Ev
set_option linter.all false
theorem tunB_all {h : Hall} {n : Nat} {x : Nat → Run} (e : (tunB h n x).rule = 0) (i k : Nat) (hik : i < k) (hk : k < n) : clashB h (x i) (x k) = false := by
  rcases fst2_cases (tunP h x) (fun _ => n) n with ⟨j, l, _, _, _, _, _, q⟩ | ⟨q, _⟩
  · have : (tunB h n x).rule = 4 := by unfold tunB; rw [q]
    omega
  · have := q i (by omega) k hk
    unfold tunP at this
    rw [decide_eq_true hik, Bool.true_and] at this
    exact this
theorem breB_parts {h : Hall} {n : Nat} {x : Nat → Run} (e : (breB h n x).rule = 0) : (hourB 2 (staffP h) n x).rule = 0 ∧ (hourB 3 (weakP h) n x).rule = 0 ∧ (tunB h n x).rule = 0 := by
  unfold breB at e
  by_cases q1 : (timeB n x).rule ≠ 0
  · rw [if_pos q1] at e; exact absurd e q1
  · rw [if_neg q1] at e
    by_cases q2 : (hourB 2 (staffP h) n x).rule ≠ 0
    · rw [if_pos q2] at e; exact absurd e q2
    · rw [if_neg q2] at e
      by_cases q3 : (hourB 3 (weakP h) n x).rule ≠ 0
      · rw [if_pos q3] at e; exact absurd e q3
      · rw [if_neg q3] at e
        by_cases q4 : (tunB h n x).rule ≠ 0
        · rw [if_pos q4] at e; exact absurd e q4
        · exact ⟨Classical.not_not.1 q2, Classical.not_not.1 q3, Classical.not_not.1 q4⟩
/-- at an hour no two runs -/
theorem keepB_one {h : Hall} {n : Nat} {c : Nat → Camp} {m : Nat} {p : Nat → Int} (e : keepB h n c m p = true) {i k : Nat} (hi : i < n) (hk : k < n) {t : Int} (h1 : runsP (c i) (p i) t = true) (h2 : runsP (c k) (p k) t = true) : i = k := by
  have hc := (keepB_keepC e).2
  obtain ⟨-, -, c0, -, -⟩ := hc
  have ht := (breB_parts (keepB_ok e).2).2.2
  have a1 : p i ≤ t ∧ t - p i < (c i).ho := of_decide_eq_true h1
  have a2 : p k ≤ t ∧ t - p k < (c k).ho := of_decide_eq_true h2
  have no : ∀ i k, i < k → k < n → (p i ≤ t ∧ t - p i < (c i).ho) → (p k ≤ t ∧ t - p k < (c k).ho) → False := fun i k hik hk b1 b2 => by
    have q := of_decide_eq_false (tunB_all ht i k hik hk)
    apply q
    have g : 0 ≤ (bif decide ((planR c p i).c.cu = (planR c p k).c.cu) then 0 else h.cl) := by
      cases decide ((planR c p i).c.cu = (planR c p k).c.cu) <;> simp <;> omega
    generalize (bif decide ((planR c p i).c.cu = (planR c p k).c.cu) then 0 else h.cl) = gg at *
    show p i < p k + (c k).ho + gg ∧ p k < p i + (c i).ho + gg
    omega
  rcases Nat.lt_trichotomy i k with q | q | q
  · exact (no i k q hk a1 a2).elim
  · exact q
  · exact (no k i q hi a2 a1).elim
theorem enW_none {c : Nat → Camp} {p : Nat → Int} {t : Nat} : ∀ n, (∀ i, i < n → runsP (c i) (p i) t = false) → enW (planR c p) n t = 0
  | 0, _ => rfl
  | n + 1, h => by
    have q := of_decide_eq_false (h n (by omega))
    show (if p n ≤ (t : Int) ∧ (t : Int) < p n + (c n).ho then (c n).en else enW (planR c p) n t) = 0
    rw [if_neg (by omega)]
    exact enW_none n fun i hi => h i (by omega)
theorem enW_at {c : Nat → Camp} {p : Nat → Int} {t i : Nat} (hi : runsP (c i) (p i) t = true) : ∀ n, i < n → (∀ k, k < n → runsP (c k) (p k) t = true → k = i) → enW (planR c p) n t = (c i).en
  | 0, h, _ => by omega
  | n + 1, h, hu => by
    show (if p n ≤ (t : Int) ∧ (t : Int) < p n + (c n).ho then (c n).en else enW (planR c p) n t) = (c i).en
    by_cases q : n = i
    · subst q
      have := of_decide_eq_true hi
      rw [if_pos (by omega)]
    · have : ¬ runsP (c n) (p n) t = true := fun h2 => q (hu n (by omega) h2)
      have q2 : ¬ (p n ≤ (t : Int) ∧ (t : Int) - p n < (c n).ho) := fun h2 => this (decide_eq_true h2)
      rw [if_neg (by omega)]
      exact enW_at hi n (by omega) fun k hk => hu k (by omega)
end Go.Ev
end
section
open Go Go.Ev Go.RowKit
namespace Go.Ev
set_option maxRecDepth 100000
set_option linter.all false
def noBig0 (_ : FuncId) : Bool := false
noncomputable def raw0 : Raw := ⟨noBig0, fun _ _ _ _ => none⟩
def alone1 (f : FuncId) : Bool := Nat.beq f 91 || Nat.beq f 74
noncomputable def tab1 : FuncId → List D → List Blk → Nat → Option Out := isoT alone1 (callF tree.find raw0 2000)
noncomputable def rawK : Raw := ⟨noBig0, tab1⟩
theorem known_val : valO (callF (without alone1 tree.find) rawK 3000 13 [] [.dead] 0) = some ⟨none, .val (.bool true), [], []⟩ := by kernel_rfl
def knownR (ds : List D) (_ : List Blk) (_ : Nat) : Option Out := match ds with
  | [] => some ⟨none, .val (.bool true), [], []⟩
  | _ => none
theorem knownR_ok (K : Cust) : ClOK K PG (oneCl 13 knownR) := by
  intro f ds hp nid out h hc
  unfold oneCl at h
  split at h
  · rename_i e
    obtain rfl := Nat.eq_of_beq_eq_true e
    unfold knownR at h
    split at h
    · have h0 : ClOK K PG tab1 := isoT_ok (callF_ok (raw := raw0) (drawn_ok hm0) (FT.found tree tree_good) (fun _ _ _ _ _ h => by cases h) 2000)
      refine isoT_ok (S := fun f => Nat.beq f 13) (callF_ok (raw := rawK) (drawn_ok hm0) (without_ok (S := alone1) (FT.found tree tree_good)) h0 3000) 13 [] hp nid out ?_ hc
      rw [← Option.some.inj h]
      exact known_val
    · cases h
  · cases h
end Go.Ev
end
section
open Go Go.Ev Go.RowKit
namespace Go.Ev
set_option maxRecDepth 100000
set_option maxHeartbeats 2000000
set_option linter.all false
def R24 : List D → Option (Option Prop × D)
  | [d0, d1, d2] => match hallO d0, campsO d1, intsO d2 with
    | some (q0, h), some (q1, n, c), some (q2, m, p) => some (some (q0 ∧ q1 ∧ q2 ∧ (h.n ≤ 100000 ∧ h.m ≤ 100000 ∧ n ≤ 100000 ∧ m ≤ 100000)), .tup [rowI (okN (keepB h n c m p) n) (roomsO h (planR c p) n), i6 (obErr h n c m p)])
    | _, _, _ => none
  | _ => none
noncomputable def T24 := orCl (aloC 24 R24) T66_67
theorem T24_ok (K : Cust) : ClOK K PG T24 := tab_cons cf_24 (fun ds p d h hp => by
    unfold R24 at h
    split at h
    · split at h
      · rename_i e0 e1 e2
        cases h
        obtain ⟨h1, h2, h3, h4⟩ := hp _ rfl
        exact ⟨_, less_cons (hallO_less e0 h1) (less_cons (campsO_less e1 h2) (less_cons (intsO_less e2 h3) (Less.refl _))), by simp [freeL, freeD, rowC_free, rowI_free, hallD_free], by simp [freeD, freeL, rowI_free], rooms_plan _ _ _ _ _ h4⟩
      · cases h
    · cases h) (T66_67_ok K)
def R23 : List D → Option (Option Prop × D)
  | [d0, d1, d2] => match hallO d0, campsO d1, intsO d2 with
    | some (q0, h), some (q1, n, c), some (q2, m, p) => some (some (q0 ∧ q1 ∧ q2 ∧ (h.n ≤ 100000 ∧ h.m ≤ 100000 ∧ n ≤ 100000 ∧ m ≤ 100000)), .tup [rowI (okN (keepB h n c m p) h.n) (enW (planR c p) n), rowI (okN (keepB h n c m p) h.n) (prepI (planR c p) n), i6 (obErr h n c m p)])
    | _, _, _ => none
  | _ => none
noncomputable def T23 := orCl (aloC 23 R23) T24
theorem T23_ok (K : Cust) : ClOK K PG T23 := tab_cons cf_23 (fun ds p d h hp => by
    unfold R23 at h
    split at h
    · split at h
      · rename_i e0 e1 e2
        cases h
        obtain ⟨h1, h2, h3, h4⟩ := hp _ rfl
        exact ⟨_, less_cons (hallO_less e0 h1) (less_cons (campsO_less e1 h2) (less_cons (intsO_less e2 h3) (Less.refl _))), by simp [freeL, freeD, rowC_free, rowI_free, hallD_free], by simp [freeD, freeL, rowI_free], use_plan _ _ _ _ _ h4⟩
      · cases h
    · cases h) (T24_ok K)
noncomputable def T13r := orCl (oneCl 13 knownR) T23
theorem T13r_ok (K : Cust) : ClOK K PG T13r := ClOK.or (knownR_ok K) (T23_ok K)
end Go.Ev
end
section
open Go Go.Ev Go.RowKit
namespace Go.Ev
set_option linter.all false
/-! ### Rooms hour by hour -/
theorem ordO_lex {x : Nat → Run} {n : Nat} : ∀ s t, s < t → t < ordN x n → begR (x (ordO x n s)) < begR (x (ordO x n t)) ∨ begR (x (ordO x n s)) = begR (x (ordO x n t)) ∧ ordO x n s < ordO x n t := fun s t h1 h2 => by
  obtain ⟨l, r, f, a⟩ := sort_spec (key := keyI x) (c := ordF x n) (n := ordN x n) (fun s t h1 h2 => ord_asc n s t h1 h2) (ordN x n) (Nat.le_refl _)
  have key : ∀ t, t < ordN x n → keyI x (sortI (keyI x) (ordF x n) (ordN x n) t) = begR (x (ordO x n t)) := fun t ht => rfl
  rcases l s t h1 h2 with q | ⟨q1, q2⟩
  · rw [key s (by omega), key t h2] at q
    exact .inl q
  · rw [key s (by omega), key t h2] at q1
    rw [(ordO_val (show s < ordN x n by omega)).2.1, (ordO_val h2).2.1] at q2
    exact .inr ⟨q1, by omega⟩
/-- behind the run i of an hour the first s of the order have their rooms -/
structure PlP (x : Nat → Run) (n : Nat) (hour i s : Nat) : Prop where
  le : s ≤ ordN x n
  lo : ∀ t, t < s → begR (x (ordO x n t)) < hour ∨ begR (x (ordO x n t)) = hour ∧ ordO x n t < i
  hi : ∀ t, s ≤ t → t < ordN x n → (hour : Int) < begR (x (ordO x n t)) ∨ begR (x (ordO x n t)) = hour ∧ i ≤ ordO x n t
theorem pl_0 {x : Nat → Run} {n : Nat} (h : ∀ i, i < n → 0 ≤ begR (x i)) : PlP x n 0 0 0 :=
  ⟨Nat.zero_le _, fun t h => by omega, fun t _ ht => by have := h _ (ordO_val ht).1; omega⟩
theorem pl_skip {x : Nat → Run} {n hour i s : Nat} (h : PlP x n hour i s) (hno : (x i).c.pr = 0 ∨ begR (x i) ≠ hour) : PlP x n hour (i + 1) s :=
  ⟨h.le, fun t ht => by have := h.lo t ht; omega, fun t h1 h2 => by
    rcases h.hi t h1 h2 with q | ⟨q1, q2⟩
    · exact .inl q
    · have : ordO x n t ≠ i := fun e => by
        have h3 := (ordO_val h2).2.2
        rw [e] at q1 h3
        omega
      exact .inr ⟨q1, by omega⟩⟩
theorem pl_at {x : Nat → Run} {n hour i s : Nat} (h : PlP x n hour i s) (hi : i < n) (hp : (x i).c.pr > 0) (hb : begR (x i) = hour) : s < ordN x n ∧ ordO x n s = i := by
  obtain ⟨t, h1, h2⟩ := ordO_all hi hp
  have a1 : s ≤ t := by
    apply Nat.le_of_not_lt
    intro q
    have := h.lo t q
    rw [h2] at this
    omega
  rcases Nat.eq_or_lt_of_le a1 with q | q
  · subst q; exact ⟨h1, h2⟩
  · have l := ordO_lex s t q h1
    have m := h.hi s (Nat.le_refl _) (by omega)
    rw [h2] at l
    omega
theorem pl_put {x : Nat → Run} {n hour i s : Nat} (h : PlP x n hour i s) (hi : i < n) (hp : (x i).c.pr > 0) (hb : begR (x i) = hour) : PlP x n hour (i + 1) (s + 1) := by
  obtain ⟨h1, h2⟩ := pl_at h hi hp hb
  refine ⟨by omega, fun t ht => ?_, fun t ht hm => ?_⟩
  · rcases Nat.lt_or_ge t s with q | q
    · have := h.lo t q; omega
    · obtain rfl : t = s := by omega
      rw [h2]; omega
  · have l := ordO_lex s t (by omega) hm
    rw [h2] at l
    omega
theorem pl_hour {x : Nat → Run} {n hour s : Nat} (h : PlP x n hour n s) : PlP x n (hour + 1) 0 s :=
  ⟨h.le, fun t ht => by have := h.lo t ht; omega, fun t h1 h2 => by
    have := h.hi t h1 h2
    have := (ordO_val h2).1
    omega⟩
theorem pl_end {x : Nat → Run} {n hours s : Nat} (h : PlP x n hours 0 s) (hb : ∀ i, i < n → (x i).c.pr > 0 → begR (x i) < hours) : s = ordN x n := by
  apply Nat.le_antisymm h.le
  apply Nat.le_of_not_lt
  intro q
  have := h.hi s (Nat.le_refl _) q
  have h3 := ordO_val q
  have := hb _ h3.1 h3.2.2
  omega
/-- is the room taken at the hour? -/
def takB (x : Nat → Run) (R : Nat → Int) (i : Nat) (room hour : Int) (k : Nat) : Bool := decide (k ≠ i) && (decide (R k = room) && decide (hour < (x k).first ∧ (x k).first - hour ≤ (x k).c.pr))
theorem tak_iff {x : Nat → Run} {ro n m k : Nat} {o : Nat → Nat} (ho : OrdP x n m o) (hk : k < m) (hi : RoomP x ro o k) {room : Nat} (hr : room < ro) :
    anyI (takB x (roomS x ro o k).2 (o k) room (begR (x (o k)))) n = decide (begR (x (o k)) < (roomS x ro o k).1 room) := by
  cases e : anyI (takB x (roomS x ro o k).2 (o k) room (begR (x (o k)))) n with
  | true =>
    obtain ⟨j, hj, h1⟩ := anyI_iff.1 e
    simp only [takB, Bool.and_eq_true, decide_eq_true_eq] at h1
    obtain ⟨-, q1, q2, q3⟩ := h1
    symm
    apply decide_eq_true
    apply Classical.byContradiction
    intro hno
    by_cases q : ∃ t, t < k ∧ o t = j
    · obtain ⟨t, ht, rfl⟩ := q
      obtain ⟨r, a1, a2, a3⟩ := hi.has t ht
      have : r = room := by omega
      subst this
      omega
    · have := hi.none' j fun t ht e => q ⟨t, ht, e⟩
      omega
  | false =>
    symm
    apply decide_eq_false
    intro hlt
    rcases hi.held room hr with h | ⟨t, h1, h2, h3⟩
    · have := (ho.pos k hk).1; omega
    · have q := anyI_false.1 e (o t) (ho.lt t (by omega))
      have hne : o t ≠ o k := fun e => by have := ho.inj t k (by omega) hk e; omega
      have ha := ho.asc t k h1 hk
      have : takB x (roomS x ro o k).2 (o k) room (begR (x (o k))) (o t) = true := by
        simp only [takB, Bool.and_eq_true, decide_eq_true_eq]
        refine ⟨hne, h3, by omega, ?_⟩
        unfold begR at ha ⊢
        omega
      rw [this] at q
      cases q
theorem any_step {p : Nat → Bool} {k : Nat} : anyI p (k + 1) = (anyI p k || p k) := by
  unfold anyI
  rw [List.range_succ, List.any_append]
  simp
end Go.Ev
end
section
open Go Go.Ev Go.RowKit
namespace Go.Ev
set_option linter.all false
noncomputable def rmR (h : Hall) (x : Nat → Run) (n s : Nat) : Nat → Int := (roomS x h.ro.toNat (ordO x n) s).2
noncomputable def rmF (h : Hall) (x : Nat → Run) (n s : Nat) : Nat → Int := (roomS x h.ro.toNat (ordO x n) s).1
theorem rm_end {h : Hall} {x : Nat → Run} {n t : Nat} (ht : t < n) : roomsO h x n t = rmR h x n (ordN x n) t := if_pos ht
theorem upd_id {f : Nat → Int} {i : Nat} {v : Int} (h : f i = v) : upd f i v = f := by
  funext j
  unfold upd
  split
  · rename_i e; rw [e, h]
  · rfl
theorem upd_set {f : Nat → Int} {i : Nat} {a b : Int} : (fun t => D.val (.int .i64 (upd f i b t))) = updF (fun t => D.val (.int .i64 (upd f i a t))) i [D.val (.int .i64 b)] := by
  funext t
  show _ = (match Nat.beq t i with | true => _ | false => _)
  cases q : Nat.beq t i with
  | true =>
    obtain rfl := Nat.eq_of_beq_eq_true q
    congr 2
    exact upd_at
  | false =>
    have hne := Nat.ne_of_beq_eq_false q
    congr 2
    show upd f i b t = upd f i a t
    rw [upd_ne hne, upd_ne hne]
theorem tak_upd {x : Nat → Run} {R : Nat → Int} {i k : Nat} {a room hour : Int} : takB x (upd R i a) i room hour k = takB x R i room hour k := by
  unfold takB
  by_cases q : k = i
  · subst q; simp
  · rw [upd_ne q]
/-- all that the walk asks of a state of the rooms -/
structure RmP (h : Hall) (c : Nat → Camp) (p : Nat → Int) (n hour i s : Nat) : Prop where
  pl : PlP (planR c p) n hour i s
theorem rm_none {h : Hall} {c : Nat → Camp} {p : Nat → Int} {n m : Nat} (e : keepB h n c m p = true) {s : Nat} (hs : s < ordN (planR c p) n) : rmR h (planR c p) n s (ordO (planR c p) n s) = -1 := by
  have hro := keepB_ro e
  obtain ⟨hP, hR⟩ := keepB_rooms e hro.1
  have hA := room_all hP hR s (by omega)
  exact hA.none' _ fun t ht e => by have := hP.inj t s (by omega) hs e; omega
theorem rm_free {h : Hall} {c : Nat → Camp} {p : Nat → Int} {n m : Nat} (e : keepB h n c m p = true) {s : Nat} (hs : s < ordN (planR c p) n) : ∃ r, r < h.ro.toNat ∧ rmF h (planR c p) n s r ≤ begR (planR c p (ordO (planR c p) n s)) := by
  have hro := keepB_ro e
  obtain ⟨hP, hR⟩ := keepB_rooms e hro.1
  exact room_free hP hR hs (room_all hP hR s (by omega))
theorem rm_tak {h : Hall} {c : Nat → Camp} {p : Nat → Int} {n m : Nat} (e : keepB h n c m p = true) {s : Nat} (hs : s < ordN (planR c p) n) {room : Nat} (hr : room < h.ro.toNat) (a : Int) :
    anyI (takB (planR c p) (upd (rmR h (planR c p) n s) (ordO (planR c p) n s) a) (ordO (planR c p) n s) room (begR (planR c p (ordO (planR c p) n s)))) n = decide (begR (planR c p (ordO (planR c p) n s)) < rmF h (planR c p) n s room) := by
  have hro := keepB_ro e
  obtain ⟨hP, hR⟩ := keepB_rooms e hro.1
  refine Eq.trans ?_ (tak_iff hP hs (room_all hP hR s (by omega)) hr)
  unfold anyI
  congr 1
  funext k
  exact tak_upd
theorem rm_step {h : Hall} {c : Nat → Camp} {p : Nat → Int} {n s q : Nat} (hq : q < h.ro.toNat) (h1 : rmF h (planR c p) n s q ≤ begR (planR c p (ordO (planR c p) n s))) (h2 : ∀ r, r < q → begR (planR c p (ordO (planR c p) n s)) < rmF h (planR c p) n s r) :
    rmR h (planR c p) n (s + 1) = upd (rmR h (planR c p) n s) (ordO (planR c p) n s) q := by
  show upd _ _ (nextR _ _ _) = _
  have : nextR h.ro.toNat (rmF h (planR c p) n s) (begR (planR c p (ordO (planR c p) n s))) = q := findI_at hq (decide_eq_true h1) fun j hj => decide_eq_false (by have := h2 j hj; omega)
  congr 1
end Go.Ev
end
section
namespace Go.Ev
/-! ### Loops at whose beginning a block is told anew (an empty literal that grows) -/
section
variable {K : Cust} {P : Program} {w0 : World} {ρ0 : List Own} {hp0 : List Blk} {cl : FuncId → List D → List Blk → Nat → Option Out} {s : St} {Q : Ex → St → Prop}
theorem aw_loopR {ι : Type} (more : List Nat) (id : Nat) (xp x' : Blk) (hx : ∀ (K : Cust) (w : World) (M : World) (ρ : List Own) (o : Own), RepB K w M ρ o xp → RepB K w M ρ o x') (hm : P.follows .mixedOrders = true) (hcl : ClOK K P cl) {b r : ACode} {j : Nat} (car : ι → List (Nat × D)) (bl : ι → List (Nat × Blk)) (μ : ι → Nat) (i : ι)
    (round : ∀ i, AW cl (LoopA K P w0 ρ0 hp0) b (lst b (car i) (bl i) s) (RoundP K w0 ρ0 hp0 (fun i => lst b (car i) (bl i) s) μ i (blkP j (seqP cl (LoopA K P w0 ρ0 hp0) r Q))))
    (he : reb id x' (fgt (more ++ lessL (csL (car i)) (dstC b)) s) = lst b (car i) (bl i) s := by kernel_rfl) (ep : getG s.hp id = some xp := by kernel_rfl) (hb : Nat.ble s.base id = true := by kernel_rfl) : AW cl (LoopA K P w0 ρ0 hp0) (.seq (.block j (.loop b)) r) s Q := by
  rw [getG_eq] at ep
  have epd : s.hp.getD id .dead = xp := by rw [List.getD_eq_getElem?_getD, ep]; rfl
  exact aw_loopW hm hcl (fun i => lst b (car i) (bl i) s) μ i round
    (he ▸ (Wk.fgt (more ++ lessL (csL (car i)) (dstC b)) s).trans (Wk.reblk (s := fgt (more ++ lessL (csL (car i)) (dstC b)) s) (x' := x') (Nat.le_of_ble_eq_true hb) fun w M ρ o hr => hx K w M ρ o (epd ▸ hr)))
/-- a loop before which some slots are forgotten -/
theorem aw_loopF {ι : Type} (more : List Nat) (hm : P.follows .mixedOrders = true) (hcl : ClOK K P cl) {b r : ACode} {j : Nat} (car : ι → List (Nat × D)) (bl : ι → List (Nat × Blk)) (μ : ι → Nat) (i : ι)
    (round : ∀ i, AW cl (LoopA K P w0 ρ0 hp0) b (lst b (car i) (bl i) (fgt more s)) (RoundP K w0 ρ0 hp0 (fun i => lst b (car i) (bl i) (fgt more s)) μ i (blkP j (seqP cl (LoopA K P w0 ρ0 hp0) r Q))))
    (he : fgt (lessL (csL (car i)) (dstC b)) (fgt more s) = lst b (car i) (bl i) (fgt more s) := by kernel_rfl) : AW cl (LoopA K P w0 ρ0 hp0) (.seq (.block j (.loop b)) r) s Q :=
  aw_loopW hm hcl (fun i => lst b (car i) (bl i) (fgt more s)) μ i round ((Wk.fgt more s).trans (he ▸ Wk.fgt _ _))
theorem cat_any {a j : Nat} {f : Nat → D} {v : D} (h : j < a + 1) : catF a f (getK [v]) j = if j < a then f j else v := by
  unfold catF
  cases h0 : Nat.beq a 0 with
  | true =>
    obtain rfl := Nat.eq_of_beq_eq_true h0
    obtain rfl : j = 0 := by omega
    rfl
  | false =>
    cases h1 : Nat.ble (j + 1) a with
    | true => simp only [h1]; rw [if_pos (by have := Nat.le_of_ble_eq_true h1; omega)]
    | false =>
      have h3 : ¬ j + 1 ≤ a := fun q => by rw [Nat.ble_eq_true_of_le q] at h1; cases h1
      have : j = a := by omega
      subst this
      simp only [h1, Nat.sub_self]
      rw [if_neg (by omega)]
      rfl
end
end Go.Ev
end
