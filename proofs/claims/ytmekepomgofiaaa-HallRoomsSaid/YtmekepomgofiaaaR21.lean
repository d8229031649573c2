import Derived.Test.YtmekepomgofiaaaR20
import Derived.Test.YtmekepomgofiaaaR19
import Derived.Test.YtmekepomgofiaaaR14
import Derived.Test.YtmekepomgofiaaaR12
set_option linter.all false
section
open Go Go.Ev Go.RowKit
namespace Go.Ev
set_option maxRecDepth 100000
set_option maxHeartbeats 2000000
set_option linter.all false
theorem keepB_ro {h : Hall} {n : Nat} {c : Nat → Camp} {m : Nat} {p : Nat → Int} (e : keepB h n c m p = true) : 1 ≤ h.ro ∧ h.ro ≤ 4 ∧ n ≤ 16 := by
  have hk := (keepB_ok e).1
  simp only [okB, Bool.and_eq_true, campsB, hallB, decide_eq_true_eq, Bool.not_eq_true'] at hk
  obtain ⟨⟨⟨⟨h1, h2, h3⟩, h4, h5, h6⟩, h7, h8⟩, h9⟩ := hk
  omega
theorem cat_at {a j : Nat} {g : Nat → D} {v : D} (ha : 0 < a) (hj : j < a + 1) : catF a g (getK [v]) j = if j < a then g j else v := by
  unfold catF
  cases h : Nat.beq a 0 with
  | true => have := Nat.eq_of_beq_eq_true h; omega
  | false =>
    simp only
    cases h2 : Nat.ble (j + 1) a with
    | true => have := Nat.le_of_ble_eq_true h2; simp only; rw [if_pos (by omega)]
    | false =>
      have h3 : ¬ j + 1 ≤ a := fun q => by rw [Nat.ble_eq_true_of_le q] at h2; cases h2
      simp only
      rw [if_neg (by omega), show j - a = 0 by omega, getK_eq]
      rfl
def roomsV (x : Nat → Run) (ro n : Nat) (k t : Nat) : Int := if t < n then (roomS x ro (ordO x n) k).2 t else 0
theorem rooms_0 {x : Nat → Run} {ro n : Nat} : (fun t => D.val (.int .i64 (fillI 0 (n : Int) (-1) (fun _ => 0) t))) = fun t => D.val (.int .i64 (roomsV x ro n 0 t)) := by
  funext t
  congr 2
  unfold fillI roomsV
  by_cases q : t < n
  · rw [if_pos ⟨by omega, by omega⟩, if_pos q]
    rfl
  · rw [if_neg (by omega), if_neg q]
theorem rooms_s {x : Nat → Run} {ro n k : Nat} (h : ordO x n k < n) : (fun t => D.val (.int .i64 (roomsV x ro n (k + 1) t))) = updF (fun t => D.val (.int .i64 (roomsV x ro n k t))) (ordO x n k) [D.val (.int .i64 (nextR ro (roomS x ro (ordO x n) k).1 (begR (x (ordO x n k)))))] := by
  funext t
  show _ = (match Nat.beq t (ordO x n k) with | true => _ | false => _)
  cases q : Nat.beq t (ordO x n k) with
  | true =>
    obtain rfl := Nat.eq_of_beq_eq_true q
    simp only [roomsV, if_pos h]
    congr 2
    exact upd_at
  | false =>
    have hne := Nat.ne_of_beq_eq_false q
    simp only [roomsV]
    congr 2
    by_cases q2 : t < n
    · rw [if_pos q2, if_pos q2]
      exact upd_ne hne
    · rw [if_neg q2, if_neg q2]
theorem free_s {x : Nat → Run} {ro n k : Nat} : (fun t => D.val (.int .i64 ((roomS x ro (ordO x n) (k + 1)).1 t))) = updF (fun t => D.val (.int .i64 ((roomS x ro (ordO x n) k).1 t))) (nextR ro (roomS x ro (ordO x n) k).1 (begR (x (ordO x n k)))).toNat [D.val (.int .i64 (x (ordO x n k)).first)] := by
  funext t
  show _ = (match Nat.beq t _ with | true => _ | false => _)
  cases q : Nat.beq t (nextR ro (roomS x ro (ordO x n) k).1 (begR (x (ordO x n k)))).toNat with
  | true =>
    have e := Nat.eq_of_beq_eq_true q
    congr 2
    rw [e]
    exact upd_at
  | false =>
    congr 2
    exact upd_ne (Nat.ne_of_beq_eq_false q)

def roomsO (h : Hall) (x : Nat → Run) (n : Nat) : Nat → Int := roomsV x h.ro.toNat n (ordN x n)
theorem rooms_plan (h : Hall) (n : Nat) (c : Nat → Camp) (m : Nat) (p : Nat → Int) (hn : h.n ≤ 100000 ∧ h.m ≤ 100000 ∧ n ≤ 100000 ∧ m ≤ 100000) : Alone PG 24 [.agg (hallD h), rowC n c, rowI m p] (.tup [rowI (okN (keepB h n c m p) n) (roomsO h (planR c p) n), i6 (obErr h n c m p)]) :=
  Alone.ofF (cl := T66_67) hm0 T66_67_ok cf_24 fun K w => by
    refine aw_reg0 (aw_reg (True ∧ ((∀ (i : Nat), i < h.n → [i6 (h.st i)] = [i6 (h.st i)]) ∧ ∀ (i : Nat), i < h.m → [i6 (h.en i)] = [i6 (h.en i)]) ∧ (∀ (i : Nat), i < n → campD (c i) = campD (c i)) ∧ (∀ (i : Nat), i < m → [i6 (p i)] = [i6 (p i)]) ∧ n ≤ (100000 : Nat) ∧ m ≤ (100000 : Nat) ∧ h.n ≤ (100000 : Nat) ∧ h.m ≤ (100000 : Nat)) (by (simp <;> omega)) (aw_assoc (aw_reg0 (aw_ifsne (obErr h n c m p) ((0 : Int)) (fun h1 => aw_assoc (aw_reg0 (aw_rets (end_f (D.tup [D.val (Value.slice none (0 : Nat) (0 : Nat)), D.val (Value.int IntKind.i64 (obErr h n c m p))]) ?_)))) (fun h2 => aw_skips (aw_reg0 (aw_reg (True ∧ (0 : Int) ≤ (↑(okN (keepB h n c m p) n) : Int) ∧ (↑(okN (keepB h n c m p) n) : Int) ≤ (↑(okN (keepB h n c m p) n) : Int) ∧ (↑(okN (keepB h n c m p) n) : Int) ≤ (1048576 : Int) ∧ (8 : Nat) * okN (keepB h n c m p) n ≤ (16777216 : Nat)) ?_ (aw_assoc (aw_reg0 (?_))))))))))
    · have e := obErr_bad h1
      exact frz_tup (frzL_cons (frz_bad (by exact e)) (frzL_cons (frz_i rfl) frzL_nil))
    · have e := obErr_ok h2
      have en : okN (keepB h n c m p) n = n := by rw [e]; rfl
      have i16 : n ≤ 1000 := (keepB_keepC e).2.2.1
      rw [en]; simp only [true_and]; omega
    · have e := obErr_ok h2
      have hk := keepB_prep e
      have en : okN (keepB h n c m p) n = n := by rw [e]; rfl
      have i16 : n ≤ 1000 := (keepB_keepC e).2.2.1
      have hro := keepB_ro e
      refine aw_loopG (ι := {i : Nat // i ≤ n ∧ ordN (planR c p) i = 0} ⊕ {i : Nat // i ≤ n ∧ 0 < ordN (planR c p) i}) 1 hm0 (T66_67_ok K) (Sum.elim (fun z => [(33, i6 z.1), (10, .val (.slice none 0 0))]) (fun z => [(33, i6 z.1), (10, .sl 5 0 (ordN (planR c p) z.1) 1 none)])) (Sum.elim (fun z => [(4, .arr (okN (keepB h n c m p) n) fun t => .val (.int .i64 (fillI 0 z.1 (-1) (fun _ => 0) t)))]) (fun z => [(4, .arr (okN (keepB h n c m p) n) fun t => .val (.int .i64 (fillI 0 z.1 (-1) (fun _ => 0) t))), (5, .arr (ordN (planR c p) z.1) fun t => .val (.int .i64 (ordF (planR c p) z.1 t)))])) (Sum.elim (fun z => n - z.1) (fun z => n - z.1)) (.inl ⟨0, Nat.zero_le n, rfl⟩) (fun z => ?_) (by
        show _ = lst _ _ [(4, .arr (okN (keepB h n c m p) n) fun t => D.val (.int .i64 (fillI 0 0 (-1) (fun _ => 0) t)))] _
        rw [← fill_0]
        kernel_rfl)
      rcases z with ⟨i, hi, ho⟩ | ⟨i, hi, ho⟩
      · have r3 : (planR c p i).c.pr = (c i).pr := rfl
        refine aw_reg0 (aw_ifsd ((↑i : Int) < (↑(okN (keepB h n c m p) n) : Int)) (fun h3 => aw_skips (aw_blocks (aw_reg (True ∧ (0 : Int) ≤ (↑i : Int) ∧ (↑i : Int) < (↑(okN (keepB h n c m p) n) : Int)) (by (simp only [true_and]; omega)) (aw_reg ((True ∧ (0 : Int) ≤ (↑i : Int) ∧ (↑i : Int) < (↑(okN (keepB h n c m p) n) : Int)) ∧ i + (1 : Nat) ≤ okN (keepB h n c m p) n) (by (simp only [true_and]; omega)) (aw_reg0 (aw_ifd ((planR c p i).c.pr > (0 : Int)) (fun h4 => aw_end0 (blk_normal (seq_normal (aw_end (True ∧ inRange IntKind.i64 ((↑i : Int) + (1 : Int))) (by (simp only [inRange_i64, true_and]; omega)) (round_g 5 8 ((True ∧ True ∧ (∀ (i : Nat), i < h.n → True ∧ True) ∧ (∀ (i : Nat), i < h.m → True ∧ True) ∧ True) ∧ (∀ (i : Nat), i < n → True ∧ True ∧ True ∧ True ∧ True ∧ True ∧ True ∧ True) ∧ (∀ (i : Nat), i < m → True ∧ True) ∧ ((∀ (i : Nat), i < okN (keepB h n c m p) n → True ∧ True ∧ True ∧ True ∧ True ∧ True ∧ True ∧ True ∧ True) ∧ True ∧ True) ∧ (True ∧ True ∧ (∀ (i : Nat), i < h.n → True ∧ True) ∧ (∀ (i : Nat), i < h.m → True ∧ True) ∧ True) ∧ (∀ (i : Nat), i < n → True ∧ True ∧ True ∧ True ∧ True ∧ True ∧ True ∧ True) ∧ (∀ (i : Nat), i < m → True ∧ True) ∧ ((∀ (i : Nat), i < okN (keepB h n c m p) n → True ∧ True ∧ True ∧ True ∧ True ∧ True ∧ True ∧ True ∧ True) ∧ True ∧ True) ∧ (∀ (i : Nat), i < okN (keepB h n c m p) n → True ∧ True ∧ True ∧ True ∧ True ∧ True ∧ True ∧ True ∧ True) ∧ (∀ (i : Nat), i < okN (keepB h n c m p) n → True ∧ True ∧ True ∧ True ∧ True ∧ True ∧ True ∧ True ∧ True) ∧ (∀ (i : Nat), i < okN (keepB h n c m p) n → True ∧ True ∧ True ∧ True ∧ True ∧ True ∧ True ∧ True ∧ True) ∧ True) (((∀ (i : Nat), i < h.n → True ∧ True) ∧ (∀ (i : Nat), i < h.m → True ∧ True) ∧ True) ∧ ((∀ (i : Nat), i < okN (keepB h n c m p) n → True ∧ True ∧ True ∧ True ∧ True ∧ True ∧ True ∧ True ∧ True) ∧ True) ∧ (∀ (j : Nat), j < okN (keepB h n c m p) n → needD (5 : Nat) (updF (fun (t : Nat) => D.val (Value.int IntKind.i64 (fillI (0 : Int) (↑i : Int) (-1 : Int) (fun (x : Nat) => (0 : Int)) t))) i [D.val (Value.int IntKind.i64 (-1 : Int))] j)) ∧ True) (True ∧ True) (by (simp)) ?_ (by (simp)) ?_))))) (fun h5 => aw_skip (blk_normal (seq_normal (aw_end (True ∧ inRange IntKind.i64 ((↑i : Int) + (1 : Int))) (by (simp only [inRange_i64, true_and]; omega)) (round_t 6 ((True ∧ True ∧ (∀ (i : Nat), i < h.n → True ∧ True) ∧ (∀ (i : Nat), i < h.m → True ∧ True) ∧ True) ∧ (∀ (i : Nat), i < n → True ∧ True ∧ True ∧ True ∧ True ∧ True ∧ True ∧ True) ∧ (∀ (i : Nat), i < m → True ∧ True) ∧ ((∀ (i : Nat), i < okN (keepB h n c m p) n → True ∧ True ∧ True ∧ True ∧ True ∧ True ∧ True ∧ True ∧ True) ∧ True ∧ True) ∧ (True ∧ True ∧ (∀ (i : Nat), i < h.n → True ∧ True) ∧ (∀ (i : Nat), i < h.m → True ∧ True) ∧ True) ∧ (∀ (i : Nat), i < n → True ∧ True ∧ True ∧ True ∧ True ∧ True ∧ True ∧ True) ∧ (∀ (i : Nat), i < m → True ∧ True) ∧ ((∀ (i : Nat), i < okN (keepB h n c m p) n → True ∧ True ∧ True ∧ True ∧ True ∧ True ∧ True ∧ True ∧ True) ∧ True ∧ True) ∧ (∀ (i : Nat), i < okN (keepB h n c m p) n → True ∧ True ∧ True ∧ True ∧ True ∧ True ∧ True ∧ True ∧ True) ∧ (∀ (i : Nat), i < okN (keepB h n c m p) n → True ∧ True ∧ True ∧ True ∧ True ∧ True ∧ True ∧ True ∧ True) ∧ (∀ (i : Nat), i < okN (keepB h n c m p) n → True ∧ True ∧ True ∧ True ∧ True ∧ True ∧ True ∧ True ∧ True) ∧ True) (((∀ (i : Nat), i < h.n → True ∧ True) ∧ (∀ (i : Nat), i < h.m → True ∧ True) ∧ True) ∧ ((∀ (i : Nat), i < okN (keepB h n c m p) n → True ∧ True ∧ True ∧ True ∧ True ∧ True ∧ True ∧ True ∧ True) ∧ True) ∧ (∀ (j : Nat), j < okN (keepB h n c m p) n → needD (6 : Nat) (updF (fun (t : Nat) => D.val (Value.int IntKind.i64 (fillI (0 : Int) (↑i : Int) (-1 : Int) (fun (x : Nat) => (0 : Int)) t))) i [D.val (Value.int IntKind.i64 (-1 : Int))] j)) ∧ True) (by (simp)) ?_ ?_))))))))))) (fun h6 => aw_exits (round_exit (blk_exit (seq_normal (aw_reg (True ∧ (∀ (i : Nat), i < okN (keepB h n c m p) n → True ∧ True ∧ True ∧ True ∧ True ∧ True ∧ True ∧ True ∧ True) ∧ ∀ (i : Nat), i < okN (keepB h n c m p) n → runD (planR c p i) = runD (planR c p i)) ?_ (aw_reg (True ∧ (0 : Int) ≤ h.ro ∧ h.ro ≤ h.ro ∧ h.ro ≤ (1048576 : Int) ∧ (8 : Nat) * Int.toNat h.ro ≤ (16777216 : Nat)) (by (simp only [true_and]; omega)) (aw_assoc (aw_reg0 (?_))))))))))
        · refine ⟨by simp, by simp, fun j _ => need_updF _ (by simp [needD]) (by simp [needD]), trivial⟩
        · have o1 := ord_t (x := planR c p) h4
          have o2 : ordN (planR c p) (i + 1) = 1 := by rw [o1.1, ho]
          refine round_rb 5 (.cells [i6 i]) (.arr (ordN (planR c p) (i + 1)) fun t => .val (.int .i64 (ordF (planR c p) (i + 1) t))) (cells_arr o2.symm (fun t ht => by
            obtain rfl : t = 0 := by omega
            rw [o1.2, ho]
            rfl)) ?_
          refine round_v (.inr ⟨i + 1, by omega, by rw [o2]; exact Nat.zero_lt_one⟩) (by show n - (i + 1) < n - i; omega) ?_
          show fgt (lessL (33 :: 10 :: []) _) _ = lst _ [(33, i6 ((i + 1 : Nat) : Int)), (10, .sl 5 0 (ordN (planR c p) (i + 1)) 1 none)] [(4, .arr (okN (keepB h n c m p) n) fun t => D.val (.int .i64 (fillI 0 ((i + 1 : Nat) : Int) (-1) (fun _ => 0) t))), (5, .arr (ordN (planR c p) (i + 1)) fun t => D.val (.int .i64 (ordF (planR c p) (i + 1) t)))] _
          rw [show ((i + 1 : Nat) : Int) = (i : Int) + 1 from rfl, fill_set (by omega) (by omega), o2]
          kernel_rfl
        · refine ⟨by simp, by simp, fun j _ => need_updF _ (by simp [needD]) (by simp [needD]), trivial⟩
        · have o1 := ord_f (x := planR c p) h5
          refine round_v (.inl ⟨i + 1, by omega, by rw [o1.1]; exact ho⟩) (by show n - (i + 1) < n - i; omega) ?_
          show fgt (lessL (33 :: 10 :: []) _) _ = lst _ [(33, i6 ((i + 1 : Nat) : Int)), (10, .val (.slice none 0 0))] [(4, .arr (okN (keepB h n c m p) n) fun t => D.val (.int .i64 (fillI 0 ((i + 1 : Nat) : Int) (-1) (fun _ => 0) t)))] _
          rw [show ((i + 1 : Nat) : Int) = (i : Int) + 1 from rfl, fill_set (by omega) (by omega)]
          kernel_rfl
        · exact ⟨trivial, by simp, fun _ _ => rfl⟩
        · have hin : i = n := by rw [en] at *; omega
          refine aw_loopV (ι := Unit) hm0 (T66_67_ok K) (fun _ => [(58, i6 0)]) (fun _ => []) (fun _ => 0) () (fun _ => ?_)
          refine aw_reg0 (aw_no (aw_exits (round_exit (blk_exit (seq_normal (aw_reg0 (aw_ret (end_f (D.tup [D.sl (4 : Nat) (0 : Nat) (okN (keepB h n c m p) n) (1 : Nat) none, D.val (Value.int IntKind.i64 (0 : Int))]) ?_))))))))
          have hz : ordN (planR c p) n = 0 := hin ▸ ho
          exact frz_tup (frzL_cons (frz_ints (m := okN (keepB h n c m p) n) (f := fun t => D.val (.int .i64 (fillI 0 (i : Int) (-1) (fun _ => 0) t))) (by kernel_rfl) (Nat.le_refl _) (fun j hj => by
            show D.val (.int .i64 (fillI 0 (i : Int) (-1) (fun _ => 0) j)) = D.val (.int .i64 (roomsV (planR c p) h.ro.toNat n (ordN (planR c p) n) j))
            rw [hz, hin]
            exact congrFun rooms_0 j)) (frzL_cons (frz_i h2.symm) frzL_nil))
      · have r3 : (planR c p i).c.pr = (c i).pr := rfl
        have ole := ord_le (x := planR c p) i
        refine aw_reg0 (aw_ifsd ((↑i : Int) < (↑(okN (keepB h n c m p) n) : Int)) (fun h3 => aw_skips (aw_blocks (aw_reg (True ∧ (0 : Int) ≤ (↑i : Int) ∧ (↑i : Int) < (↑(okN (keepB h n c m p) n) : Int)) (by (simp only [true_and]; omega)) (aw_reg ((True ∧ (0 : Int) ≤ (↑i : Int) ∧ (↑i : Int) < (↑(okN (keepB h n c m p) n) : Int)) ∧ i + (1 : Nat) ≤ okN (keepB h n c m p) n) (by (simp only [true_and]; omega)) (aw_reg0 (aw_ifd ((planR c p i).c.pr > (0 : Int)) (fun h4 => aw_end (True ∧ ordN (planR c p) i * (1 : Nat) = ordN (planR c p) i ∧ True ∧ ordN (planR c p) i + (1 : Nat) ≤ (1048576 : Nat)) (by (simp only [true_and]; omega)) (blk_normal (seq_normal (aw_end (True ∧ inRange IntKind.i64 ((↑i : Int) + (1 : Int))) (by (simp only [inRange_i64, true_and]; omega)) (round_g 5 8 ((True ∧ True ∧ (∀ (i : Nat), i < h.n → True ∧ True) ∧ (∀ (i : Nat), i < h.m → True ∧ True) ∧ True) ∧ (∀ (i : Nat), i < n → True ∧ True ∧ True ∧ True ∧ True ∧ True ∧ True ∧ True) ∧ (∀ (i : Nat), i < m → True ∧ True) ∧ ((∀ (i : Nat), i < okN (keepB h n c m p) n → True ∧ True ∧ True ∧ True ∧ True ∧ True ∧ True ∧ True ∧ True) ∧ True ∧ True) ∧ (True ∧ True ∧ (∀ (i : Nat), i < h.n → True ∧ True) ∧ (∀ (i : Nat), i < h.m → True ∧ True) ∧ True) ∧ (∀ (i : Nat), i < n → True ∧ True ∧ True ∧ True ∧ True ∧ True ∧ True ∧ True) ∧ (∀ (i : Nat), i < m → True ∧ True) ∧ ((∀ (i : Nat), i < okN (keepB h n c m p) n → True ∧ True ∧ True ∧ True ∧ True ∧ True ∧ True ∧ True ∧ True) ∧ True ∧ True) ∧ (∀ (i : Nat), i < okN (keepB h n c m p) n → True ∧ True ∧ True ∧ True ∧ True ∧ True ∧ True ∧ True ∧ True) ∧ (∀ (i : Nat), i < okN (keepB h n c m p) n → True ∧ True ∧ True ∧ True ∧ True ∧ True ∧ True ∧ True ∧ True) ∧ (∀ (i : Nat), i < okN (keepB h n c m p) n → True ∧ True ∧ True ∧ True ∧ True ∧ True ∧ True ∧ True ∧ True) ∧ True) (((∀ (i : Nat), i < h.n → True ∧ True) ∧ (∀ (i : Nat), i < h.m → True ∧ True) ∧ True) ∧ ((∀ (i : Nat), i < okN (keepB h n c m p) n → True ∧ True ∧ True ∧ True ∧ True ∧ True ∧ True ∧ True ∧ True) ∧ True) ∧ (∀ (j : Nat), j < okN (keepB h n c m p) n → needD (5 : Nat) (updF (fun (t : Nat) => D.val (Value.int IntKind.i64 (fillI (0 : Int) (↑i : Int) (-1 : Int) (fun (x : Nat) => (0 : Int)) t))) i [D.val (Value.int IntKind.i64 (-1 : Int))] j)) ∧ True) (∀ (j : Nat), j < ordN (planR c p) i + lenG [D.val (Value.int IntKind.i64 (↑i : Int))] → needD (5 : Nat) (catF (ordN (planR c p) i) (fun (t : Nat) => D.val (Value.int IntKind.i64 (ordF (planR c p) i t))) (getK [D.val (Value.int IntKind.i64 (↑i : Int))]) j)) (by (simp)) ?_ ?_ ?_))))) (fun h5 => aw_skip (blk_normal (seq_normal (aw_end (True ∧ inRange IntKind.i64 ((↑i : Int) + (1 : Int))) (by (simp only [inRange_i64, true_and]; omega)) (round_t 6 ((True ∧ True ∧ (∀ (i : Nat), i < h.n → True ∧ True) ∧ (∀ (i : Nat), i < h.m → True ∧ True) ∧ True) ∧ (∀ (i : Nat), i < n → True ∧ True ∧ True ∧ True ∧ True ∧ True ∧ True ∧ True) ∧ (∀ (i : Nat), i < m → True ∧ True) ∧ ((∀ (i : Nat), i < okN (keepB h n c m p) n → True ∧ True ∧ True ∧ True ∧ True ∧ True ∧ True ∧ True ∧ True) ∧ True ∧ True) ∧ (True ∧ True ∧ (∀ (i : Nat), i < h.n → True ∧ True) ∧ (∀ (i : Nat), i < h.m → True ∧ True) ∧ True) ∧ (∀ (i : Nat), i < n → True ∧ True ∧ True ∧ True ∧ True ∧ True ∧ True ∧ True) ∧ (∀ (i : Nat), i < m → True ∧ True) ∧ ((∀ (i : Nat), i < okN (keepB h n c m p) n → True ∧ True ∧ True ∧ True ∧ True ∧ True ∧ True ∧ True ∧ True) ∧ True ∧ True) ∧ (∀ (i : Nat), i < okN (keepB h n c m p) n → True ∧ True ∧ True ∧ True ∧ True ∧ True ∧ True ∧ True ∧ True) ∧ (∀ (i : Nat), i < okN (keepB h n c m p) n → True ∧ True ∧ True ∧ True ∧ True ∧ True ∧ True ∧ True ∧ True) ∧ (∀ (i : Nat), i < okN (keepB h n c m p) n → True ∧ True ∧ True ∧ True ∧ True ∧ True ∧ True ∧ True ∧ True) ∧ True) (((∀ (i : Nat), i < h.n → True ∧ True) ∧ (∀ (i : Nat), i < h.m → True ∧ True) ∧ True) ∧ ((∀ (i : Nat), i < okN (keepB h n c m p) n → True ∧ True ∧ True ∧ True ∧ True ∧ True ∧ True ∧ True ∧ True) ∧ True) ∧ (∀ (j : Nat), j < okN (keepB h n c m p) n → needD (6 : Nat) (updF (fun (t : Nat) => D.val (Value.int IntKind.i64 (fillI (0 : Int) (↑i : Int) (-1 : Int) (fun (x : Nat) => (0 : Int)) t))) i [D.val (Value.int IntKind.i64 (-1 : Int))] j)) ∧ (∀ (j : Nat), j < ordN (planR c p) i → True) ∧ True) (by (simp)) ?_ ?_))))))))))) (fun h6 => aw_exits (round_exit (blk_exit (seq_normal (aw_reg (True ∧ (∀ (j : Nat), j < ordN (planR c p) i → ∃ (v : Value), D.val (Value.int IntKind.i64 (ordF (planR c p) i j)) = D.val v) ∧ ordN (planR c p) i * (1 : Nat) = ordN (planR c p) i ∧ (∀ (i : Nat), i < okN (keepB h n c m p) n → True ∧ True ∧ True ∧ True ∧ True ∧ True ∧ True ∧ True ∧ True) ∧ (∀ (j : Nat), j < ordN (planR c p) i → Value.int IntKind.i64 (ordF (planR c p) i j) = Value.int IntKind.i64 (valI (Value.int IntKind.i64 (ordF (planR c p) i j)))) ∧ (∀ (i : Nat), i < okN (keepB h n c m p) n → runD (planR c p i) = runD (planR c p i)) ∧ (ordN (planR c p) i ≤ (19 : Nat) ∧ okN (keepB h n c m p) n ≤ (1000000 : Nat)) ∧ (∀ (i : Nat), i < okN (keepB h n c m p) n → smallR (planR c p i)) ∧ ∀ (t : Nat), t < ordN (planR c p) i → (0 : Int) ≤ valI (Value.int IntKind.i64 (ordF (planR c p) i t)) ∧ valI (Value.int IntKind.i64 (ordF (planR c p) i t)) < (↑(okN (keepB h n c m p) n) : Int)) ?_ (aw_reg (True ∧ (0 : Int) ≤ h.ro ∧ h.ro ≤ h.ro ∧ h.ro ≤ (1048576 : Int) ∧ (8 : Nat) * Int.toNat h.ro ≤ (16777216 : Nat)) (by (simp only [true_and]; omega)) (aw_assoc (aw_reg0 (?_))))))))))
        · refine ⟨by simp, by simp, fun j _ => need_updF _ (by simp [needD]) (by simp [needD]), trivial⟩
        · exact fun j hj => by
            rw [cat_at ho hj]
            split <;> simp [needD]
        · have o1 := ord_t (x := planR c p) h4
          refine round_rb 5 (.arr (ordN (planR c p) i + 1) (catF (ordN (planR c p) i) (fun t => .val (.int .i64 (ordF (planR c p) i t))) (getK [i6 i]))) (.arr (ordN (planR c p) (i + 1)) fun t => .val (.int .i64 (ordF (planR c p) (i + 1) t))) (arr_arr o1.1.symm (fun t ht => by
            rw [o1.1] at ht
            rw [cat_at ho ht, o1.2]
            by_cases q : t < ordN (planR c p) i
            · simp only [if_pos q]
            · simp only [if_neg q])) ?_
          have o3 := o1.1
          refine round_v (.inr ⟨i + 1, by omega, by rw [o3]; omega⟩) (by show n - (i + 1) < n - i; omega) ?_
          show fgt (lessL (33 :: 10 :: []) _) _ = lst _ [(33, i6 ((i + 1 : Nat) : Int)), (10, .sl 5 0 (ordN (planR c p) (i + 1)) 1 none)] [(4, .arr (okN (keepB h n c m p) n) fun t => D.val (.int .i64 (fillI 0 ((i + 1 : Nat) : Int) (-1) (fun _ => 0) t))), (5, .arr (ordN (planR c p) (i + 1)) fun t => D.val (.int .i64 (ordF (planR c p) (i + 1) t)))] _
          rw [show ((i + 1 : Nat) : Int) = (i : Int) + 1 from rfl, fill_set (by omega) (by omega), o3]
          kernel_rfl
        · refine ⟨by simp, by simp, fun j _ => need_updF _ (by simp [needD]) (by simp [needD]), by simp, trivial⟩
        · obtain ⟨o3, o4⟩ := ord_f (x := planR c p) h5
          refine round_v (.inr ⟨i + 1, by omega, by rw [o3]; exact ho⟩) (by show n - (i + 1) < n - i; omega) ?_
          show fgt (lessL (33 :: 10 :: []) _) _ = lst _ [(33, i6 ((i + 1 : Nat) : Int)), (10, .sl 5 0 (ordN (planR c p) (i + 1)) 1 none)] [(4, .arr (okN (keepB h n c m p) n) fun t => D.val (.int .i64 (fillI 0 ((i + 1 : Nat) : Int) (-1) (fun _ => 0) t))), (5, .arr (ordN (planR c p) (i + 1)) fun t => D.val (.int .i64 (ordF (planR c p) (i + 1) t)))] _
          rw [show ((i + 1 : Nat) : Int) = (i : Int) + 1 from rfl, fill_set (by omega) (by omega), o4, o3]
          kernel_rfl
        · refine ⟨trivial, fun j _ => ⟨_, rfl⟩, by omega, by simp, fun _ _ => rfl, fun _ _ => rfl, ⟨by omega, by rw [en]; omega⟩, fun j hj => keepB_small e j (by rw [en] at hj; exact hj), fun t ht => ?_⟩
          obtain ⟨j, q1, q2, q3⟩ := ord_val i t ht
          show 0 ≤ ordF (planR c p) i t ∧ ordF (planR c p) i t < okN (keepB h n c m p) n
          rw [en, q2]
          omega
        · have hin : i = n := by rw [en] at *; omega
          obtain ⟨hP, hR⟩ := keepB_rooms e hro.1
          subst hin
          refine aw_loopV (ι := {k : Nat // k ≤ ordN (planR c p) i}) hm0 (T66_67_ok K) (fun z => [(58, i6 z.1)]) (fun z => [(4, .arr (okN (keepB h i c m p) i) fun t => .val (.int .i64 (roomsV (planR c p) h.ro.toNat i z.1 t))), (7, .arr h.ro.toNat fun t => .val (.int .i64 ((roomS (planR c p) h.ro.toNat (ordO (planR c p) i) z.1).1 t)))]) (fun z => ordN (planR c p) i - z.1) ⟨0, Nat.zero_le _⟩ (fun z => ?_) (by
            show _ = lst _ _ [(4, .arr (okN (keepB h i c m p) i) fun t => D.val (.int .i64 (roomsV (planR c p) h.ro.toNat i 0 t))), (7, .arr h.ro.toNat fun t => D.val (.int .i64 ((roomS (planR c p) h.ro.toNat (ordO (planR c p) i) 0).1 t)))] _
            rw [← rooms_0]
            kernel_rfl)
          obtain ⟨k, hk⟩ := z
          refine aw_reg0 (aw_ifsd ((↑k : Int) < (↑(ordN (planR c p) i) : Int)) (fun h7 => aw_skips (aw_blocks (aw_reg ((True ∧ (0 : Int) ≤ (↑k : Int) ∧ (↑k : Int) < (↑(ordN (planR c p) i) : Int)) ∧ k < ordN (planR c p) i) (by (simp only [inRange_i64, true_and]; omega)) (aw_reg (True ∧ (((0 : Nat) + Int.toNat h.ro * (1 : Nat) ≤ Int.toNat h.ro ∧ ∀ (j : Nat), j < Int.toNat h.ro → True) ∧ ∀ (i_1 : Nat), i_1 < okN (keepB h i c m p) i → True ∧ True ∧ True ∧ True ∧ True ∧ True ∧ True ∧ True ∧ True) ∧ (∀ (i_1 : Nat), i_1 < Int.toNat h.ro → [D.val (Value.int IntKind.i64 ((roomS (planR c p) (Int.toNat h.ro) (ordO (planR c p) i) k).fst i_1))] = [i6 ((roomS (planR c p) (Int.toNat h.ro) (ordO (planR c p) i) k).fst i_1)]) ∧ (∀ (i_1 : Nat), i_1 < okN (keepB h i c m p) i → runD (planR c p i_1) = runD (planR c p i_1)) ∧ Int.toNat h.ro ≤ (1000000 : Nat) ∧ ((0 : Int) ≤ sortI (keyI (planR c p)) (fun (j : Nat) => valI (Value.int IntKind.i64 (ordF (planR c p) i j))) (ordN (planR c p) i) k ∧ sortI (keyI (planR c p)) (fun (j : Nat) => valI (Value.int IntKind.i64 (ordF (planR c p) i j))) (ordN (planR c p) i) k < (↑(okN (keepB h i c m p) i) : Int)) ∧ ∀ (i_1 : Nat), i_1 < okN (keepB h i c m p) i → smallR (planR c p i_1)) ?_ (aw_end (((((True ∧ (0 : Int) ≤ sortI (keyI (planR c p)) (fun (j : Nat) => valI (Value.int IntKind.i64 (ordF (planR c p) i j))) (ordN (planR c p) i) k ∧ sortI (keyI (planR c p)) (fun (j : Nat) => valI (Value.int IntKind.i64 (ordF (planR c p) i j))) (ordN (planR c p) i) k < (↑(okN (keepB h i c m p) i) : Int)) ∧ (0 : Int) ≤ sortI (keyI (planR c p)) (fun (j : Nat) => valI (Value.int IntKind.i64 (ordF (planR c p) i j))) (ordN (planR c p) i) k ∧ sortI (keyI (planR c p)) (fun (j : Nat) => valI (Value.int IntKind.i64 (ordF (planR c p) i j))) (ordN (planR c p) i) k < (↑(okN (keepB h i c m p) i) : Int)) ∧ Int.toNat (sortI (keyI (planR c p)) (fun (j : Nat) => valI (Value.int IntKind.i64 (ordF (planR c p) i j))) (ordN (planR c p) i) k) + (1 : Nat) ≤ okN (keepB h i c m p) i) ∧ (0 : Int) ≤ findI (fun (i_1 : Nat) => decide ((roomS (planR c p) (Int.toNat h.ro) (ordO (planR c p) i) k).fst i_1 ≤ begR (planR c p (Int.toNat (sortI (keyI (planR c p)) (fun (j : Nat) => valI (Value.int IntKind.i64 (ordF (planR c p) i j))) (ordN (planR c p) i) k))))) (Int.toNat h.ro) ∧ findI (fun (i_1 : Nat) => decide ((roomS (planR c p) (Int.toNat h.ro) (ordO (planR c p) i) k).fst i_1 ≤ begR (planR c p (Int.toNat (sortI (keyI (planR c p)) (fun (j : Nat) => valI (Value.int IntKind.i64 (ordF (planR c p) i j))) (ordN (planR c p) i) k))))) (Int.toNat h.ro) < (↑(Int.toNat h.ro) : Int)) ∧ Int.toNat (findI (fun (i_1 : Nat) => decide ((roomS (planR c p) (Int.toNat h.ro) (ordO (planR c p) i) k).fst i_1 ≤ begR (planR c p (Int.toNat (sortI (keyI (planR c p)) (fun (j : Nat) => valI (Value.int IntKind.i64 (ordF (planR c p) i j))) (ordN (planR c p) i) k))))) (Int.toNat h.ro)) + (1 : Nat) ≤ Int.toNat h.ro) ?_ (blk_normal (seq_normal (aw_end (True ∧ inRange IntKind.i64 ((↑k : Int) + (1 : Int))) (by (simp only [inRange_i64, true_and]; omega)) (round_t 8 ((True ∧ True ∧ (∀ (i : Nat), i < h.n → True ∧ True) ∧ (∀ (i : Nat), i < h.m → True ∧ True) ∧ True) ∧ (∀ (i_1 : Nat), i_1 < i → True ∧ True ∧ True ∧ True ∧ True ∧ True ∧ True ∧ True) ∧ (∀ (i : Nat), i < m → True ∧ True) ∧ ((∀ (i_1 : Nat), i_1 < okN (keepB h i c m p) i → True ∧ True ∧ True ∧ True ∧ True ∧ True ∧ True ∧ True ∧ True) ∧ True ∧ True) ∧ (True ∧ True ∧ (∀ (i : Nat), i < h.n → True ∧ True) ∧ (∀ (i : Nat), i < h.m → True ∧ True) ∧ True) ∧ (∀ (i_1 : Nat), i_1 < i → True ∧ True ∧ True ∧ True ∧ True ∧ True ∧ True ∧ True) ∧ (∀ (i : Nat), i < m → True ∧ True) ∧ ((∀ (i_1 : Nat), i_1 < okN (keepB h i c m p) i → True ∧ True ∧ True ∧ True ∧ True ∧ True ∧ True ∧ True ∧ True) ∧ True ∧ True) ∧ (∀ (i_1 : Nat), i_1 < okN (keepB h i c m p) i → True ∧ True ∧ True ∧ True ∧ True ∧ True ∧ True ∧ True ∧ True) ∧ (∀ (i_1 : Nat), i_1 < okN (keepB h i c m p) i → True ∧ True ∧ True ∧ True ∧ True ∧ True ∧ True ∧ True ∧ True) ∧ (∀ (i_1 : Nat), i_1 < okN (keepB h i c m p) i → True ∧ True ∧ True ∧ True ∧ True ∧ True ∧ True ∧ True ∧ True) ∧ (True ∧ Nat.le (Nat.succ ((2 : Nat) + (1 : Nat))) (8 : Nat) ∧ True) ∧ True) (((∀ (i : Nat), i < h.n → True ∧ True) ∧ (∀ (i : Nat), i < h.m → True ∧ True) ∧ True) ∧ ((∀ (i_1 : Nat), i_1 < okN (keepB h i c m p) i → True ∧ True ∧ True ∧ True ∧ True ∧ True ∧ True ∧ True ∧ True) ∧ True) ∧ (∀ (j : Nat), j < okN (keepB h i c m p) i → needD (8 : Nat) (updF (fun (t : Nat) => D.val (Value.int IntKind.i64 (roomsV (planR c p) (Int.toNat h.ro) i k t))) (Int.toNat (sortI (keyI (planR c p)) (fun (j : Nat) => valI (Value.int IntKind.i64 (ordF (planR c p) i j))) (ordN (planR c p) i) k)) [D.val (Value.int IntKind.i64 (findI (fun (i_2 : Nat) => decide ((roomS (planR c p) (Int.toNat h.ro) (ordO (planR c p) i) k).fst i_2 ≤ begR (planR c p (Int.toNat (sortI (keyI (planR c p)) (fun (j : Nat) => valI (Value.int IntKind.i64 (ordF (planR c p) i j))) (ordN (planR c p) i) k))))) (Int.toNat h.ro)))] j)) ∧ (∀ (j : Nat), j < ordN (planR c p) i → True) ∧ (∀ (j : Nat), j < Int.toNat h.ro → needD (8 : Nat) (updF (fun (t : Nat) => D.val (Value.int IntKind.i64 ((roomS (planR c p) (Int.toNat h.ro) (ordO (planR c p) i) k).fst t))) (Int.toNat (findI (fun (i_2 : Nat) => decide ((roomS (planR c p) (Int.toNat h.ro) (ordO (planR c p) i) k).fst i_2 ≤ begR (planR c p (Int.toNat (sortI (keyI (planR c p)) (fun (j : Nat) => valI (Value.int IntKind.i64 (ordF (planR c p) i j))) (ordN (planR c p) i) k))))) (Int.toNat h.ro))) [D.val (Value.int IntKind.i64 (planR c p (Int.toNat (sortI (keyI (planR c p)) (fun (j : Nat) => valI (Value.int IntKind.i64 (ordF (planR c p) i j))) (ordN (planR c p) i) k))).first)] j)) ∧ True) (by (simp)) ?_ ?_))))))))) (fun h8 => aw_exits (round_exit (blk_exit (seq_normal (aw_reg0 (aw_ret (end_f (D.tup [D.sl (4 : Nat) (0 : Nat) (okN (keepB h i c m p) i) (1 : Nat) none, D.val (Value.int IntKind.i64 (0 : Int))]) ?_))))))))
          · have hkm : k < ordN (planR c p) i := by omega
            obtain ⟨v1, v2, v3⟩ := ordO_val hkm
            exact ⟨trivial, ⟨⟨by omega, by simp⟩, by simp⟩, fun _ _ => rfl, fun _ _ => rfl, by omega, ⟨(by rw [v2]; omega : 0 ≤ sortI (keyI (planR c p)) (ordF (planR c p) i) (ordN (planR c p) i) k), (by rw [v2, en]; omega : sortI (keyI (planR c p)) (ordF (planR c p) i) (ordN (planR c p) i) k < okN (keepB h i c m p) i)⟩, fun j hj => keepB_small e j (by rw [en] at hj; exact hj)⟩
          · have hkm : k < ordN (planR c p) i := by omega
            obtain ⟨v1, v2, v3⟩ := ordO_val hkm
            obtain ⟨-, r, q1, q2, q3⟩ := room_step hP hkm (room_all hP hR k hk) (room_free hP hR hkm (room_all hP hR k hk))
            have s0 : 0 ≤ sortI (keyI (planR c p)) (ordF (planR c p) i) (ordN (planR c p) i) k := by rw [v2]; omega
            have s1 : sortI (keyI (planR c p)) (ordF (planR c p) i) (ordN (planR c p) i) k < okN (keepB h i c m p) i := by rw [v2, en]; omega
            have s2 : (sortI (keyI (planR c p)) (ordF (planR c p) i) (ordN (planR c p) i) k).toNat + 1 ≤ okN (keepB h i c m p) i := by omega
            have f0 : 0 ≤ nextR h.ro.toNat (roomS (planR c p) h.ro.toNat (ordO (planR c p) i) k).1 (begR (planR c p (ordO (planR c p) i k))) := by rw [q2]; omega
            have f1 : nextR h.ro.toNat (roomS (planR c p) h.ro.toNat (ordO (planR c p) i) k).1 (begR (planR c p (ordO (planR c p) i k))) < (h.ro.toNat : Int) := by rw [q2]; omega
            have f2 : (nextR h.ro.toNat (roomS (planR c p) h.ro.toNat (ordO (planR c p) i) k).1 (begR (planR c p (ordO (planR c p) i k)))).toNat + 1 ≤ h.ro.toNat := by omega
            exact ⟨⟨⟨⟨⟨trivial, s0, s1⟩, s0, s1⟩, s2⟩, f0, f1⟩, f2⟩
          · exact ⟨by simp, by simp, fun j _ => need_updF _ (by simp [needD]) (by simp [needD]), by simp, fun j _ => need_updF _ (by simp [needD]) (by simp [needD]), trivial⟩
          · have hkm : k < ordN (planR c p) i := by omega
            obtain ⟨v1, v2, v3⟩ := ordO_val hkm
            refine round_v ⟨k + 1, by omega⟩ (by show ordN (planR c p) i - (k + 1) < ordN (planR c p) i - k; omega) ?_
            show fgt (lessL (58 :: []) _) _ = lst _ [(58, i6 ((k + 1 : Nat) : Int))] [(4, .arr (okN (keepB h i c m p) i) fun t => D.val (.int .i64 (roomsV (planR c p) h.ro.toNat i (k + 1) t))), (7, .arr h.ro.toNat fun t => D.val (.int .i64 ((roomS (planR c p) h.ro.toNat (ordO (planR c p) i) (k + 1)).1 t)))] _
            rw [rooms_s v1, free_s]
            kernel_rfl
          · have hke : k = ordN (planR c p) i := by omega
            subst hke
            exact frz_tup (frzL_cons (frz_ints (m := okN (keepB h i c m p) i) (f := fun t => D.val (.int .i64 (roomsV (planR c p) h.ro.toNat i (ordN (planR c p) i) t))) (by kernel_rfl) (Nat.le_refl _) (fun j hj => rfl)) (frzL_cons (frz_i h2.symm) frzL_nil))

end Go.Ev
end
section
open Go Go.Ev Go.RowKit
namespace Go.Ev
set_option linter.all false
/-! ### Rooms: what the choice keeps -/
theorem room_apart {x : Nat → Run} {ro n m : Nat} {o : Nat → Nat} (ho : OrdP x n m o) (hro : ∀ k, k < m → cntN (prepAt x (begR (x (o k)))) n ≤ ro) : ∀ k, k ≤ m → ∀ s t, s < t → t < k → (roomS x ro o k).2 (o s) = (roomS x ro o k).2 (o t) → (x (o s)).first ≤ begR (x (o t))
  | 0, _, s, t, _, h, _ => by omega
  | k + 1, hk, s, t, hst, ht, e => by
    have hi := room_all ho hro k (by omega)
    obtain ⟨-, r, q1, q2, q3⟩ := room_step ho (show k < m by omega) hi (room_free ho hro (by omega) hi)
    have hR : (roomS x ro o (k + 1)).2 = upd (roomS x ro o k).2 (o k) r := by
      show upd _ _ (nextR ro (roomS x ro o k).1 (begR (x (o k)))) = _
      rw [q2]
    have hne : ∀ t, t < k → o t ≠ o k := fun t ht e => by
      have := ho.inj t k (by omega) (by omega) e
      omega
    rw [hR] at e
    by_cases q : t = k
    · subst q
      rw [upd_at, upd_ne (hne s hst)] at e
      obtain ⟨w, a1, a2, a3⟩ := hi.has s hst
      have : w = r := by omega
      subst this
      omega
    · rw [upd_ne (hne s (by omega)), upd_ne (hne t (by omega))] at e
      exact room_apart ho hro k (by omega) s t hst (by omega) e
/-- every run that prepares stands somewhere in the order -/
theorem ordO_all {x : Nat → Run} {n j : Nat} (hj : j < n) (hp : (x j).c.pr > 0) : ∃ t, t < ordN x n ∧ ordO x n t = j := by
  obtain ⟨l, r, f, a⟩ := sort_spec (key := keyI x) (c := ordF x n) (n := ordN x n) (fun s t h1 h2 => ord_asc n s t h1 h2) (ordN x n) (Nat.le_refl _)
  obtain ⟨t', h1, h2⟩ := ord_all n j hj hp
  obtain ⟨t, h3, h4⟩ := a t' h1
  exact ⟨t, h3, by unfold ordO; rw [h4, h2, Int.toNat_natCast]⟩
theorem rooms_range {h : Hall} {n : Nat} {c : Nat → Camp} {m : Nat} {p : Nat → Int} (e : keepB h n c m p = true) {i : Nat} (hi : i < n) : roomsO h (planR c p) n i < h.ro ∧ (roomsO h (planR c p) n i < 0 ↔ (c i).pr = 0) := by
  have hro := keepB_ro e
  obtain ⟨hP, hR⟩ := keepB_rooms e hro.1
  have hA := room_all hP hR _ (Nat.le_refl _)
  have hk := keepB_prep e i hi
  have e1 : roomsO h (planR c p) n i = (roomS (planR c p) h.ro.toNat (ordO (planR c p) n) (ordN (planR c p) n)).2 i := if_pos hi
  rw [e1]
  by_cases q : (c i).pr > 0
  · obtain ⟨t, h1, h2⟩ := ordO_all (x := planR c p) hi q
    obtain ⟨r, a1, a2, a3⟩ := hA.has t h1
    rw [h2] at a2
    rw [a2]
    exact ⟨by omega, by omega⟩
  · have := hA.none' i fun t ht e2 => q (by
      have := (ordO_val (x := planR c p) ht).2.2
      rw [e2] at this
      exact this)
    rw [this]
    exact ⟨by omega, by omega⟩
/-- two runs that prepare in one room don't do so at one time -/
theorem rooms_apart {h : Hall} {n : Nat} {c : Nat → Camp} {m : Nat} {p : Nat → Int} (e : keepB h n c m p = true) {i k : Nat} (hi : i < n) (hk : k < i) (h0 : 0 ≤ roomsO h (planR c p) n i) (hs : roomsO h (planR c p) n i = roomsO h (planR c p) n k) :
    ¬ (p i - (c i).pr < p k ∧ p k - (c k).pr < p i) := by
  have hro := keepB_ro e
  obtain ⟨hP, hR⟩ := keepB_rooms e hro.1
  have hkn : k < n := by omega
  have q1 := (rooms_range e hi).2
  have q2 := (rooms_range e hkn).2
  have p1 := keepB_prep e i hi
  have p2 := keepB_prep e k hkn
  obtain ⟨t, h1, h2⟩ := ordO_all (x := planR c p) hi (show (c i).pr > 0 by omega)
  obtain ⟨s, h3, h4⟩ := ordO_all (x := planR c p) hkn (show (c k).pr > 0 by omega)
  have e1 : roomsO h (planR c p) n i = (roomS (planR c p) h.ro.toNat (ordO (planR c p) n) (ordN (planR c p) n)).2 i := if_pos hi
  have e2 : roomsO h (planR c p) n k = (roomS (planR c p) h.ro.toNat (ordO (planR c p) n) (ordN (planR c p) n)).2 k := if_pos hkn
  rw [e1, e2] at hs
  have ap := room_apart hP hR _ (Nat.le_refl _)
  rcases Nat.lt_trichotomy s t with q | q | q
  · have := ap s t q h1 (by rw [h2, h4]; exact hs.symm)
    rw [h2, h4] at this
    have this' : p k ≤ p i - (c i).pr := this
    omega
  · rw [q] at h4; omega
  · have := ap t s q h3 (by rw [h2, h4]; exact hs)
    rw [h2, h4] at this
    have this' : p i ≤ p k - (c k).pr := this
    omega
end Go.Ev
end
section
open Go Go.Ev Go.RowKit
namespace Go.Ev
set_option linter.all false
/-! ### The energy of an hour, and how many runs there are -/
theorem hourB_all {rule : Int} {pp : Run → Int → Bool} {n : Nat} {x : Nat → Run} (hr : rule ≠ 0) (e : (hourB rule pp n x).rule = 0) (i : Nat) (hi : i < n) (t : Int) (h1 : (x i).first ≤ t) (h2 : t - (x i).first < (x i).c.ho) : pp (x i) t = false := by
  rcases fst2_cases (fun i k => pp (x i) ((x i).first + k)) (fun i => (x i).c.ho.toNat) n with ⟨j, k, _, _, _, _, _, q⟩ | ⟨q, _⟩
  · have : (hourB rule pp n x).rule = rule := by unfold hourB; rw [q]
    exact absurd (this.symm.trans e) hr
  · have := q i hi (t - (x i).first).toNat (by omega)
    have e2 : (x i).first + ((t - (x i).first).toNat : Int) = t := by omega
    simp only [e2] at this
    exact this
theorem tunB_all {h : Hall} {n : Nat} {x : Nat → Run} (e : (tunB h n x).rule = 0) (i k : Nat) (hik : i < k) (hk : k < n) : clashB h (x i) (x k) = false := by
  rcases fst2_cases (tunP h x) (fun _ => n) n with ⟨j, l, _, _, _, _, _, q⟩ | ⟨q, _⟩
  · have : (tunB h n x).rule = 4 := by unfold tunB; rw [q]
    omega
  · have := q i (by omega) k hk
    unfold tunP at this
    rw [decide_eq_true hik, Bool.true_and] at this
    exact this
theorem breB_parts {h : Hall} {n : Nat} {x : Nat → Run} (e : (breB h n x).rule = 0) : (hourB 2 (staffP h) n x).rule = 0 ∧ (hourB 3 (weakP h) n x).rule = 0 ∧ (tunB h n x).rule = 0 := by
  unfold breB at e
  by_cases q1 : (timeB n x).rule ≠ 0
  · rw [if_pos q1] at e; exact absurd e q1
  · rw [if_neg q1] at e
    by_cases q2 : (hourB 2 (staffP h) n x).rule ≠ 0
    · rw [if_pos q2] at e; exact absurd e q2
    · rw [if_neg q2] at e
      by_cases q3 : (hourB 3 (weakP h) n x).rule ≠ 0
      · rw [if_pos q3] at e; exact absurd e q3
      · rw [if_neg q3] at e
        by_cases q4 : (tunB h n x).rule ≠ 0
        · rw [if_pos q4] at e; exact absurd e q4
        · exact ⟨Classical.not_not.1 q2, Classical.not_not.1 q3, Classical.not_not.1 q4⟩
/-- at an hour no two runs -/
theorem keepB_one {h : Hall} {n : Nat} {c : Nat → Camp} {m : Nat} {p : Nat → Int} (e : keepB h n c m p = true) {i k : Nat} (hi : i < n) (hk : k < n) {t : Int} (h1 : runsP (c i) (p i) t = true) (h2 : runsP (c k) (p k) t = true) : i = k := by
  have hc := (keepB_keepC e).2
  obtain ⟨-, -, c0, -, -⟩ := hc
  have ht := (breB_parts (keepB_ok e).2).2.2
  have a1 : p i ≤ t ∧ t - p i < (c i).ho := of_decide_eq_true h1
  have a2 : p k ≤ t ∧ t - p k < (c k).ho := of_decide_eq_true h2
  have no : ∀ i k, i < k → k < n → (p i ≤ t ∧ t - p i < (c i).ho) → (p k ≤ t ∧ t - p k < (c k).ho) → False := fun i k hik hk b1 b2 => by
    have q := of_decide_eq_false (tunB_all ht i k hik hk)
    apply q
    have g : 0 ≤ (bif decide ((planR c p i).c.cu = (planR c p k).c.cu) then 0 else h.cl) := by
      cases decide ((planR c p i).c.cu = (planR c p k).c.cu) <;> simp <;> omega
    generalize (bif decide ((planR c p i).c.cu = (planR c p k).c.cu) then 0 else h.cl) = gg at *
    show p i < p k + (c k).ho + gg ∧ p k < p i + (c i).ho + gg
    omega
  rcases Nat.lt_trichotomy i k with q | q | q
  · exact (no i k q hk a1 a2).elim
  · exact q
  · exact (no k i q hi a2 a1).elim
theorem enW_none {c : Nat → Camp} {p : Nat → Int} {t : Nat} : ∀ n, (∀ i, i < n → runsP (c i) (p i) t = false) → enW (planR c p) n t = 0
  | 0, _ => rfl
  | n + 1, h => by
    have q := of_decide_eq_false (h n (by omega))
    show (if p n ≤ (t : Int) ∧ (t : Int) < p n + (c n).ho then (c n).en else enW (planR c p) n t) = 0
    rw [if_neg (by omega)]
    exact enW_none n fun i hi => h i (by omega)
theorem enW_at {c : Nat → Camp} {p : Nat → Int} {t i : Nat} (hi : runsP (c i) (p i) t = true) : ∀ n, i < n → (∀ k, k < n → runsP (c k) (p k) t = true → k = i) → enW (planR c p) n t = (c i).en
  | 0, h, _ => by omega
  | n + 1, h, hu => by
    show (if p n ≤ (t : Int) ∧ (t : Int) < p n + (c n).ho then (c n).en else enW (planR c p) n t) = (c i).en
    by_cases q : n = i
    · subst q
      have := of_decide_eq_true hi
      rw [if_pos (by omega)]
    · have : ¬ runsP (c n) (p n) t = true := fun h2 => q (hu n (by omega) h2)
      have q2 : ¬ (p n ≤ (t : Int) ∧ (t : Int) - p n < (c n).ho) := fun h2 => this (decide_eq_true h2)
      rw [if_neg (by omega)]
      exact enW_at hi n (by omega) fun k hk => hu k (by omega)
theorem cnt_none {q : Nat → Bool} : ∀ n, (∀ i, i < n → q i = false) → cntN q n = 0
  | 0, _ => rfl
  | n + 1, h => by simp [cntN, cnt_none n (fun i hi => h i (by omega)), h n (by omega)]
theorem cnt_one {q : Nat → Bool} {i : Nat} (hi : q i = true) : ∀ n, i < n → (∀ k, k < n → q k = true → k = i) → cntN q n = 1
  | 0, h, _ => by omega
  | n + 1, h, hu => by
    by_cases e : n = i
    · subst e
      have := cnt_none (q := q) n (fun k hk => by
        cases w : q k with
        | false => rfl
        | true => have := hu k (by omega) w; omega)
      simp [cntN, this, hi]
    · have : q n = false := by
        cases w : q n with
        | false => rfl
        | true => exact absurd (hu n (by omega) w) e
      simp [cntN, this, cnt_one hi n (by omega) fun k hk => hu k (by omega)]
/-- what an hour is like: no run and no energy, or one run, its energy, at most the hall's, and staff -/
theorem hour_facts {h : Hall} {n : Nat} {c : Nat → Camp} {m : Nat} {p : Nat → Int} (e : keepB h n c m p = true) {t : Nat} :
    (cntN (fun i => runsP (c i) (p i) t) n = 0 ∧ enW (planR c p) n t = 0) ∨ (cntN (fun i => runsP (c i) (p i) t) n = 1 ∧ enW (planR c p) n t ≤ h.en t ∧ ¬ h.st t = 0) := by
  by_cases q : ∃ i, i < n ∧ runsP (c i) (p i) t = true
  · obtain ⟨i, hi, hr⟩ := q
    have hu : ∀ k, k < n → runsP (c k) (p k) t = true → k = i := fun k hk h2 => keepB_one e hk hi h2 hr
    obtain ⟨b1, b2, -⟩ := breB_parts (keepB_ok e).2
    have a1 : p i ≤ (t : Int) ∧ (t : Int) - p i < (c i).ho := of_decide_eq_true hr
    have s1 := hourB_all (by decide) b1 i hi t a1.1 a1.2
    have s2 := of_decide_eq_false (hourB_all (by decide) b2 i hi t a1.1 a1.2)
    refine .inr ⟨cnt_one (q := fun i => runsP (c i) (p i) t) hr n hi hu, ?_, fun h0 => ?_⟩
    · rw [enW_at hr n hi hu]
      have s2' : ¬ h.en t < (c i).en := s2
      omega
    · have : staffP h (planR c p i) t = true := staffP_t h0
      rw [this] at s1
      cases s1
  · have hn : ∀ i, i < n → runsP (c i) (p i) t = false := fun i hi => by
      cases w : runsP (c i) (p i) t with
      | false => rfl
      | true => exact absurd ⟨i, hi, w⟩ q
    exact .inl ⟨cnt_none n hn, enW_none n hn⟩
end Go.Ev
end
section
open Go Go.Ev Go.RowKit
namespace Go.Ev
set_option maxRecDepth 100000
set_option linter.all false
def noBig0 (_ : FuncId) : Bool := false
noncomputable def raw0 : Raw := ⟨noBig0, fun _ _ _ _ => none⟩
def alone1 (f : FuncId) : Bool := Nat.beq f 91 || Nat.beq f 74
noncomputable def tab1 : FuncId → List D → List Blk → Nat → Option Out := isoT alone1 (callF tree.find raw0 2000)
noncomputable def rawK : Raw := ⟨noBig0, tab1⟩
theorem known_val : valO (callF (without alone1 tree.find) rawK 3000 13 [] [.dead] 0) = some ⟨none, .val (.bool true), [], []⟩ := by kernel_rfl
def knownR (ds : List D) (_ : List Blk) (_ : Nat) : Option Out := match ds with
  | [] => some ⟨none, .val (.bool true), [], []⟩
  | _ => none
theorem knownR_ok (K : Cust) : ClOK K PG (oneCl 13 knownR) := by
  intro f ds hp nid out h hc
  unfold oneCl at h
  split at h
  · rename_i e
    obtain rfl := Nat.eq_of_beq_eq_true e
    unfold knownR at h
    split at h
    · have h0 : ClOK K PG tab1 := isoT_ok (callF_ok (raw := raw0) (drawn_ok hm0) (FT.found tree tree_good) (fun _ _ _ _ _ h => by cases h) 2000)
      refine isoT_ok (S := fun f => Nat.beq f 13) (callF_ok (raw := rawK) (drawn_ok hm0) (without_ok (S := alone1) (FT.found tree tree_good)) h0 3000) 13 [] hp nid out ?_ hc
      rw [← Option.some.inj h]
      exact known_val
    · cases h
  · cases h
end Go.Ev
end
