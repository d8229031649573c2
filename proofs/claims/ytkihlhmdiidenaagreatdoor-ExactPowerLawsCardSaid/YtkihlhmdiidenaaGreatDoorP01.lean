/-
  Contracts of the functions that the law calls, for every input (FdP).
-/
import Derived.Test.YtkihlhmdiidenaaGreatDoorJ27
set_option linter.all false
namespace Go.Proofs.YtkihlhmdiidenaaGreatDoor
open Go.RowKit
open Vx

theorem parse_siz (s : ByteArray) : siz (parseV s).1 ≤ 4100 := by
  unfold parseV
  split
  · exact Nat.le_trans (show siz 0 ≤ 3 by decide +kernel) (by omega)
  · rename_i h0
    have hsz : s.data.toList.length ≤ 2000 := by
      rw [size_data]; omega
    split
    · exact Nat.le_trans (show siz 0 ≤ 3 by decide +kernel) (by omega)
    · rename_i q hq
      have ht := trim_len s.data.toList [45]
      have c1 := cut_len (Lib.trimPrefix s.data.toList [45]) [47]
      have c2 := cut_len (Lib.trimPrefix s.data.toList [45]) [46]
      unfold parseL at hq
      split at hq
      · split at hq
        · rename_i h1
          obtain rfl := Option.some.inj hq
          refine Nat.le_trans (siz_mk _ _) ?_
          have n1 := len_valL (dig_all (whole_dig h1.1))
          have n2 := len_valL (dig_all (whole_dig h1.2.1))
          rw [sgn_natAbs]
          omega
        · cases hq
      · split at hq
        · rename_i h1 h2
          obtain rfl := Option.some.inj hq
          refine Nat.le_trans (siz_mk _ _) ?_
          have hb : (Lib.cut (Lib.trimPrefix s.data.toList [45]) [46]).2.1.all digC = true := by
            rcases hf : (Lib.cut (Lib.trimPrefix s.data.toList [45]) [46]).2.2 with _ | _
            · rw [cut_none _ _ hf]; rfl
            · exact dig_all (h2.2 hf)
          have hab : ((Lib.cut (Lib.trimPrefix s.data.toList [45]) [46]).1 ++ (Lib.cut (Lib.trimPrefix s.data.toList [45]) [46]).2.1).all digC = true := by
            rw [List.all_append, hb, dig_all (whole_dig h2.1)]; rfl
          have n1 := len_valL hab
          rw [List.length_append] at n1
          have n2 := len_pow_le 10 (Lib.cut (Lib.trimPrefix s.data.toList [45]) [46]).2.1.length
          have n3 : len 10 = 1 := by decide +kernel
          rw [n3] at n2
          rw [sgn_natAbs]
          omega
        · cases hq
theorem add_val {w : World} {vx vy : Value} {x y q : Rat} (hq : x + y = q) (hx : IsNum w vx x) (hy : IsNum w vy y) (hs : siz x ≤ 536870912) (ht : siz y ≤ 536870912) :
    Calls Tryz.prog 14 #[vx, vy] w (NumRet w q) := by rw [← hq]; exact numAdd_any hx hy (Nat.le_trans hs (by omega)) (Nat.le_trans ht (by omega))
theorem sub_val {w : World} {vx vy : Value} {x y q : Rat} (hq : x - y = q) (hx : IsNum w vx x) (hy : IsNum w vy y) (hs : siz x ≤ 536870912) (ht : siz y ≤ 536870912) :
    Calls Tryz.prog 16 #[vx, vy] w (NumRet w q) := by rw [← hq]; exact numSub_any hx hy (Nat.le_trans hs (by omega)) (Nat.le_trans ht (by omega))
theorem mul_val' {w : World} {vx vy : Value} {x y q : Rat} (hq : x * y = q) (hx : IsNum w vx x) (hy : IsNum w vy y) (hs : siz x ≤ 536870912) (ht : siz y ≤ 536870912) :
    Calls Tryz.prog 15 #[vx, vy] w (NumRet w q) := by rw [← hq]; exact numMul_any hx hy (Nat.le_trans hs (by omega)) (Nat.le_trans ht (by omega))
theorem neg_val {w : World} {vx : Value} {x q : Rat} (hq : -x = q) (hx : IsNum w vx x) (hs : siz x ≤ 536870912) :
    Calls Tryz.prog 17 #[vx] w (NumRet w q) := by rw [← hq]; exact numNeg_any hx (Nat.le_trans hs (by omega))
theorem zero_at {q : Rat} (h : q = 0) (w : World) : IsNum w (.agg #[.bool false, .slice none 0 0, .slice none 0 0]) q := by rw [h]; exact zero_num w
theorem Held0.drew {wB wS w : World} {G : Nat} (h : Held0 wB G wS w) (hG : G ≤ wB.heap.size) : Held0 wB G wS w.drew := h.call hG ⟨rfl, rfl, rfl, Nat.le_refl _, fun _ _ => rfl⟩
theorem div_val {w : World} {vx vy : Value} {x y q : Rat} {c : Int} (hq : x / y = q) (hc : (if y = 0 then 10 else 0) = c) (hx : IsNum w vx x) (hy : IsNum w vy y) (hs : siz x ≤ 536870912) (ht : siz y ≤ 536870912) :
    Calls Tryz.prog 19 #[vx, vy] w (NumErrRet w q c) := by rw [← hq, ← hc]; exact numDiv_any hx hy (Nat.le_trans hs (by omega)) (Nat.le_trans ht (by omega))
theorem sign_val {w : World} {vx : Value} {x : Rat} {n : Int} (hn : x.num.sign = n) (hx : IsNum w vx x) : Calls Tryz.prog 20 #[vx] w (IntRet w n) := by rw [← hn]; exact numSign_any hx
theorem cell_keep {w w' : World} {b : Nat} {v : Value} (h : w.cell? ⟨b, 0, none⟩ = some v) (hb : Below w.heap.size w w') : w'.cell? ⟨b, 0, none⟩ = some v := (hb.cell (p := ⟨b, 0, none⟩) (World.block_lt_of_cell? w _ h)).trans h
theorem number_val {w : World} {s : ByteArray} {mx : Int} {q : Rat} (hM : w.cell? ⟨1, 0, none⟩ = some (.int .i64 mx)) (hq : (parseV s).1 = q) :
    Calls Tryz.prog 12 #[.string s] w (NumRet w q) := number_to hM hq

theorem long_three {w : World} {sa sb sc : ByteArray} {r : Bool} (h : [sa, sb, sc].any (fun s => decide (120 < s.size)) = r) :
    Calls Tryz.prog 10 #[.slice (some ⟨w.heap.size, 0, none⟩) 3 3] (w.alloc (.cells #[.string sa, .string sb, .string sc] 9)) (fun e w' => e = .returned (.bool r) ∧ w' = w.alloc (.cells #[.string sa, .string sb, .string sc] 9)) := by
  have hg : (w.alloc (.cells #[.string sa, .string sb, .string sc] 9)).heap[w.heap.size]? = some (.cells #[.string sa, .string sb, .string sc] 9 (0, 0)) := heap_alloc_new w _
  rw [← h]
  refine long_any (l := [sa, sb, sc]) (o := 0) ?_ (by simp)
  intro i s hi
  match i, hi with
  | 0, hi => obtain rfl := Option.some.inj hi; exact cell_of_row _ _ 0 _ _ _ hg
  | 1, hi => obtain rfl := Option.some.inj hi; exact cell_of_row _ _ 1 _ _ _ hg
  | 2, hi => obtain rfl := Option.some.inj hi; exact cell_of_row _ _ 2 _ _ _ hg
  | _ + 3, hi => exact absurd hi (by simp)
end Go.Proofs.YtkihlhmdiidenaaGreatDoor
