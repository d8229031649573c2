/-
  Contracts of the functions that the law calls, for every input (Txe Ro).
-/
import Derived.Test.YtfppimacnhcflaaGreatDoorB24
import Derived.Deep.LoopGhost
import Derived.OwnWalk
import Derived.Test.YtfppimacnhcflaaGreatDoorB07
set_option linter.all false
namespace Go.Proofs.YtfppimacnhcflaaGreatDoor
open Go.RowKit
open Vx

theorem digs_append (a b n : Nat) : digs (a + b) n = digs a (n / 10 ^ b) ++ digs b n := by
  induction b generalizing n with
  | zero => simp [digs]
  | succ b ih => rw [← Nat.add_assoc, digs, ih, digs, Nat.div_div_eq_div_mul, Nat.pow_succ, Nat.mul_comm 10, List.append_assoc]
theorem digs_mod (k n : Nat) : digs k (n % 10 ^ k) = digs k n := by
  induction k generalizing n with
  | zero => rfl
  | succ k ih =>
    rw [digs, digs]
    have e1 : n % 10 ^ (k + 1) / 10 = n / 10 % 10 ^ k := by
      rw [Nat.pow_succ, Nat.mul_comm, Nat.mod_mul_right_div_self]
    have e2 : n % 10 ^ (k + 1) % 10 = n % 10 := by
      rw [Nat.pow_succ, Nat.mod_mul_left_mod]
    rw [e1, e2, ih]
/-- digits without zeros at the beginning -/
def dropZ (l : List UInt8) : List UInt8 := l.dropWhile (· == 48)
theorem dropZ_succ {k n : Nat} (h : n < 10 ^ k) : dropZ (digs (k + 1) n) = dropZ (digs k n) := by
  rw [digs_front, Nat.div_eq_of_lt h]
  rfl
theorem dropZ_add {k n : Nat} (h : n < 10 ^ k) (j : Nat) : dropZ (digs (k + j) n) = dropZ (digs k n) := by
  induction j with
  | zero => rfl
  | succ j ih =>
    rw [← Nat.add_assoc, dropZ_succ, ih]
    exact Nat.lt_of_lt_of_le h (Nat.pow_le_pow_right (by omega) (by omega))
theorem dropZ_any {k m n : Nat} (h1 : n < 10 ^ k) (h2 : n < 10 ^ m) : dropZ (digs k n) = dropZ (digs m n) := by
  rcases Nat.le_total k m with h | h
  · obtain ⟨j, rfl⟩ := Nat.exists_eq_add_of_le h
    exact (dropZ_add h1 j).symm
  · obtain ⟨j, rfl⟩ := Nat.exists_eq_add_of_le h
    exact dropZ_add h2 j
theorem lt_ten (n : Nat) : n < 10 ^ (20 * len n) := by
  refine Nat.lt_of_lt_of_le (lt_len n) ?_
  rw [Nat.pow_mul]
  exact Nat.pow_le_pow_left (by unfold W; decide) _
/-- the decimal digits of a number -/
def dec (n : Nat) : List UInt8 := if dropZ (digs (20 * len n) n) = [] then [48] else dropZ (digs (20 * len n) n)
theorem dec_of {k n : Nat} (h : n < 10 ^ k) : dec n = if dropZ (digs k n) = [] then [48] else dropZ (digs k n) := by
  unfold dec
  rw [dropZ_any (lt_ten n) h]

/-- the cells of j chunks, the lowest one first -/
def chunkCells (n : Nat) : Nat → List Value
  | 0 => []
  | j + 1 => chunkCells n j ++ Lib.byteCells (digs 19 (n / 10 ^ (19 * j)))
/-- What holds in the first loop of digits. -/
def DigRel (w : World) (n j x : Nat) (cv rv : Value) (wr : World) : Prop :=
  Hid (x = n / 10 ^ (19 * j)) ∧ rv = trimv (some ⟨w.heap.size, 0, none⟩) (len n) x ∧ (∃ cs, Row wr w.heap.size cs ∧ cs.length = len n ∧ Hid (seg cs 0 (len x) = x)) ∧
    wr.ownsRow (w.heap.size + 1) 179 19 cv j (chunkCells n j) ∧ Below w.heap.size w wr
theorem infoChunk : (Tryz.prog.info? 179).map (fun i => (i.zero, i.size, i.bytes)) = some (some (.agg (row8 (List.replicate 19 0))), 19, 19) := by kernel_rfl

theorem chunk_bound {n j : Nat} (h : 0 < n / 10 ^ (19 * j)) : j ≤ 2 * len n := by
  have h1 : 10 ^ (19 * j) ≤ n := by
    rcases Nat.lt_or_ge n (10 ^ (19 * j)) with h2 | h2
    · rw [Nat.div_eq_of_lt h2] at h; omega
    · exact h2
  have h2 := lt_len n
  rw [W_pow, ← Nat.pow_mul] at h2
  have h3 : (2 : Nat) ^ (63 * j) ≤ 10 ^ (19 * j) := by
    rw [Nat.pow_mul, Nat.pow_mul]
    exact Nat.pow_le_pow_left (by decide) _
  have h4 : (2 : Nat) ^ (63 * j) < 2 ^ (64 * len n) := by omega
  have := (Nat.pow_lt_pow_iff_right (by omega)).1 h4
  omega
theorem row8_toList (l : List UInt8) : (row8 l).toList = Lib.byteCells l := by simp [row8, Lib.byteCells]
theorem ten19 : (10000000000000000000 : Nat) = 10 ^ 19 := by decide
theorem chunk_get {n j p : Nat} (hp : p < j) {i : Nat} (hi : i < 19) : (chunkCells n j)[19 * p + i]? = (Lib.byteCells (digs 19 (n / 10 ^ (19 * p))))[i]? := by
  have hl : ∀ k, (chunkCells n k).length = 19 * k := by
    intro k
    induction k with
    | zero => rfl
    | succ k ih => rw [chunkCells, List.length_append, ih, Lib.byteCells_length, digs_len]; omega
  induction j with
  | zero => omega
  | succ j ih =>
    rw [chunkCells]
    rcases Nat.lt_or_ge p j with h | h
    · rw [List.getElem?_append_left (by rw [hl]; omega)]
      exact ih h
    · obtain rfl : p = j := by omega
      rw [List.getElem?_append_right (by rw [hl]; omega), hl, Nat.add_sub_cancel_left]
theorem seg_short {cs : List Nat} (h : ∀ d ∈ cs, d < W) {n z : Nat} (hz : seg cs 0 n = z) : seg cs 0 (len z) = z := by
  have h1 : len z ≤ n := len_le (by rw [← hz]; exact seg_lt h 0 n)
  obtain ⟨k, rfl⟩ := Nat.exists_eq_add_of_le h1
  have h2 := seg_split cs 0 (len z) k
  rw [hz] at h2
  have h3 := seg_lt h 0 (len z)
  have h4 := lt_len z
  generalize seg cs (0 + len z) k = q at h2
  have h5 : z % W ^ len z = seg cs 0 (len z) := by
    have : z % W ^ len z = (seg cs 0 (len z) + W ^ len z * q) % W ^ len z := congrArg (· % W ^ len z) h2
    rw [this, Nat.add_mul_mod_self_left, Nat.mod_eq_of_lt h3]
  rw [← h5, Nat.mod_eq_of_lt h4]
theorem byteCells_one (l : List UInt8) : ∀ u ∈ Lib.byteCells l, u.oneCell' = true := by
  intro u hu
  simp [Lib.byteCells] at hu
  obtain ⟨b, _, rfl⟩ := hu
  rfl
theorem chain3 {w wo w2 w3 : World} (h1 : Below w.heap.size w wo) (h2 : Below wo.heap.size wo w2) (h3 : Below wo.heap.size w2 w3) : Below w.heap.size w w3 := chain h1 (h2.trans h3)
theorem foldl_set (l : List Value) : ∀ (k : Nat) (cs : Array Value), k + l.length ≤ cs.size →
    ((l.zipIdx k).foldl (fun cs (x : Value × Nat) => cs.setIfInBounds x.2 x.1) cs).toList = cs.toList.take k ++ l ++ cs.toList.drop (k + l.length) := by
  induction l with
  | nil => intro k cs _; simp
  | cons v l ih =>
    intro k cs h
    simp only [List.length_cons] at h
    rw [List.zipIdx_cons, List.foldl_cons, ih (k + 1) _ (by simp; omega)]
    simp only [Array.toList_setIfInBounds, List.length_cons]
    have h1 : k < cs.toList.length := by simp; omega
    rw [List.take_set, List.drop_set_of_lt (by omega)]
    have h2 : (cs.toList.take (k + 1)).set k v = cs.toList.take k ++ [v] := by
      rw [List.take_succ_eq_append_getElem h1, List.set_append_right _ _ (by simp; omega)]
      simp [show min k cs.size = k by omega]
    rw [h2, show k + 1 + l.length = k + (l.length + 1) by omega]
    simp
theorem fold_row {R Z : Array Value} (hR : R.size = 19) (hZ : Z.size = 19) : Array.foldl (fun (cs : Array Value) (x : Value × Nat) => cs.setIfInBounds x.2 x.1) Z R.zipIdx 0 19 = R := by
  have h := foldl_set R.toList 0 Z (by simp; omega)
  have e : (19 : Nat) = R.zipIdx.size := by simp [hR]
  rw [e]
  apply Array.ext'
  rw [← Array.foldl_toList, Array.toList_zipIdx, h]
  simp [hR, hZ]

set_option maxRecDepth 100000 in
set_option maxHeartbeats 2000000 in
theorem digits_pos {w : World} {n : Nat} {va : Value} (ha : Nt w va n) (hs : len n ≤ 1099511627776) (h0 : 0 < n) :
    Calls Tryz.prog 137 #[va] w (fun e w' => e = .returned (.string ⟨(dec n).toArray⟩) ∧ Below w.heap.size w w') := by
  obtain ⟨i0, hi, hz0, hz1, hz2⟩ := info_parts infoChunk
  go_enter Tryz.func137, Tryz.ntmps137
  go_wp2_with fail
  refine (copied_any ha (Nat.le_trans hs (by decide))).mono ?_
  rintro e w1 (⟨hn0, _⟩ | ⟨_, cs0, rfl, hr0, hl0, hseg0, b1⟩)
  · omega
  go_wp2_with fail
  have hst : DigRel w n 0 n (.slice none 0 0) (.slice (some ⟨w.heap.size, 0, none⟩) (len n) (len n)) w1 := by
    refine ⟨by show _ = _; rw [Nat.mul_zero, Nat.pow_zero, Nat.div_one], by rw [trimv, if_neg (by omega)], ⟨cs0, hr0, hl0, hseg0⟩, ⟨rfl, .inl ⟨rfl, rfl⟩⟩, b1⟩
  clear hr0 hl0 hseg0 b1
  go_loopg [3, 4] n (fun k cv rv wr => ∃ j, j + k ≤ n ∧ j ≤ 2 * len n + 1 ∧ DigRel w n j k cv rv wr)
  case atStart => exact ⟨0, by omega, by omega, hst⟩
  case round =>
    obtain ⟨j, hj, hjm, HX, rfl, ⟨cs, hr, hcl, HSG⟩, hown, hb⟩ := hrel
    clear hst
    rcases Nat.eq_zero_or_pos gk with hx | hx
    · subst hx
      obtain ⟨wo, rfl⟩ : ∃ wo : World, wo = wr := ⟨_, rfl⟩
      have hj0 : n < 10 ^ (19 * j) := by
        have h1 := HX.out
        rcases Nat.lt_or_ge n (10 ^ (19 * j)) with h2 | h2
        · exact h2
        · have := Nat.div_pos h2 (Nat.pow_pos (by decide)); omega
      have hj1 : 0 < j := by
        rcases Nat.eq_zero_or_pos j with h2 | h2
        · subst h2; simp at hj0; omega
        · exact h2
      have htr : trimv (some ⟨w.heap.size, 0, none⟩) (len n) 0 = .slice none 0 0 := rfl
      rw [htr]
      clear htr hr HSG
      obtain ⟨hxl, hcase⟩ := id hown
      rcases hcase with ⟨_, h2⟩ | ⟨g', cap, cur, rfl, hgB, hgg, hjc, hcm, hcs, htk⟩
      · omega
      have HJ := Lib.hid hj0
      clear hj0 HX hxl hgg hcs htk cur
      have hji : (0 : Int) < ((j : Nat) : Int) := by omega
      obtain ⟨wb, hwb⟩ : ∃ u, u = wo.alloc (.cells #[.pointer none, .slice none 0 0] 185) := ⟨_, rfl⟩
      have hbb : Lib.IsBuilder 185 5 wo.heap.size wo.heap.size (Lib.byteCells (digs (19 * (j - j)) (n / 10 ^ (19 * j)))) wb := by
        refine .inl ⟨Nat.le_refl _, .slice none 0 0, by rw [hwb]; exact heap_alloc_new wo _, ?_, by simp [Value.ownBlock]⟩
        rw [Nat.sub_self, Nat.mul_zero]
        exact ⟨rfl, .inl ⟨rfl, rfl⟩⟩
      have hb1 : Below wo.heap.size wo wb := by rw [hwb]; exact (Below.refl _ _).alloc (Nat.le_refl _) _
      have HBo := Lib.hid hb
      go_wp2_with fail
      rw [← hwb]
      clear hwb
      have hcells := hown.cells (g := g') rfl
      have HCL := Lib.hid hcells
      have hgo := (hown.lt g' rfl).2
      clear hcells hown hb
      go_loopw [6] (fun iv w2 => ∃ p : Nat, p ≤ j ∧ iv = .int .i64 (downI p) ∧ Lib.IsBuilder 185 5 wo.heap.size wo.heap.size (Lib.byteCells (digs (19 * (j - p)) (n / 10 ^ (19 * p)))) w2 ∧ Below wo.heap.size wo w2) (fun iv _ => (intOf iv + 1).toNat)
      case atStart => exact ⟨j, Nat.le_refl _, congrArg (Value.int .i64) (downI_eq j).symm, hbb, hb1⟩
      case round =>
        obtain ⟨p, hp, rfl, hbd, hb2⟩ := hrel
        clear hbb hb1
        match p, hp, hbd with
        | 0, hp, hbd =>
          simp only [downI]
          rw [Nat.sub_zero, Nat.mul_zero, Nat.pow_zero, Nat.div_one] at hbd
          have HS := Lib.hid (Tryz.Builder_String_any _ _ _ _ hbd hb2.size)
          have HB2 := Lib.hid hb2
          have HD := Lib.hid (dec_of HJ.out)
          clear hbd hb2
          generalize digs (19 * j) n = l at HS HD
          go_wp2_with fail
          refine (HS.out).mono ?_
          rintro e w3 ⟨rfl, b3⟩
          have HT := Lib.hid (Tryz.strings_TrimLeft_one ⟨l.toArray⟩ 48 (by decide) w3)
          have hdz : Lib.trimLeftB l 48 = dropZ l := rfl
          have e2 : (Lib.trimLeftB (⟨l.toArray⟩ : ByteArray).data.toList 48) = dropZ l := hdz
          rw [e2] at HT
          clear e2 hdz
          generalize dropZ l = z at HT HD
          have HF := Lib.hid (chain3 HBo.out HB2.out b3)
          clear b3 HS
          go_wp2_with fail
          refine (HT.out).mono ?_
          rintro e w4 ⟨rfl, rfl⟩
          by_cases hz : z = []
          · have HDZ : Hid (dec n = [48]) := by show _ = _; rw [HD.out, if_pos hz]
            clear HD
            subst hz
            go_wp2_with fail
            go_ret
            exact ⟨by rw [HDZ.out]; rfl, HF.out⟩
          · have ht1 : (z.isEmpty) = false := by cases z <;> simp_all
            have HZ := Lib.hid hz
            go_wp2_with fail
            go_ret
            exact ⟨by rw [HD.out, if_neg HZ.out]; rfl, HF.out⟩
        | q + 1, hp, hbd =>
          simp only [downI]
          have hq : ((q : Nat) : Int) < ((j : Nat) : Int) := by omega
          have hnews : ∀ (i : Nat) u, (Lib.byteCells (digs 19 (n / 10 ^ (19 * q))))[i]? = some u → wr.cell? ((⟨g', q * 19, none⟩ : Addr).add i) = some u := by
            intro i u hu
            have hi19 : i < 19 := by
              have := (List.getElem?_eq_some_iff.1 hu).1
              rwa [Lib.byteCells_length, digs_len] at this
            have hadd : (⟨g', q * 19, none⟩ : Addr).add i = ⟨g', q * 19 + i, none⟩ := by unfold Addr.add; split <;> simp_all
            have hadd2 : (⟨g', 0, none⟩ : Addr).add (19 * q + i) = ⟨g', 19 * q + i, none⟩ := by unfold Addr.add; split <;> simp_all
            have h1 := HCL.out (19 * q + i) u (by rw [chunk_get (by omega) hi19]; exact hu)
            rw [hadd2, Nat.mul_comm] at h1
            rw [hadd]
            exact (hb2.cell (p := ⟨g', q * 19 + i, none⟩) hgo).trans h1
          have HW := Lib.hid (builderWrite_any _ _ _ ⟨g', q * 19, none⟩ 19 19 _ wr hbd (by rw [Lib.byteCells_length, digs_len]) hnews hgo (byteCells_one _) (by rw [Lib.byteCells_length, digs_len]; omega) hb2.size)
          have hbytes : Lib.byteCells (digs (19 * (j - (q + 1))) (n / 10 ^ (19 * (q + 1)))) ++ Lib.byteCells (digs 19 (n / 10 ^ (19 * q))) = Lib.byteCells (digs (19 * (j - q)) (n / 10 ^ (19 * q))) := by
            rw [show 19 * (j - q) = 19 * (j - (q + 1)) + 19 by omega, digs_append, Nat.div_div_eq_div_mul, ← Nat.pow_add, show 19 * q + 19 = 19 * (q + 1) by omega]
            simp [Lib.byteCells]
          rw [hbytes] at HW
          have HB2 := Lib.hid hb2
          clear hnews hbytes hbd hb2
          go_wp2_with fail
          refine (HW.out).mono ?_
          rintro e w3 ⟨rfl, hbd3, hb3⟩
          have HF := Lib.hid (And.intro hbd3 (HB2.out.trans hb3))
          clear hbd3 hb3
          go_wp2_with fail
          go_roundw
          case rel => exact ⟨q, by omega, congrArg (Value.int .i64) (downI_eq q).symm, .inr HF.out.1, HF.out.2⟩
          case measure => simp [intOf]
    · have htr : trimv (some ⟨w.heap.size, 0, none⟩) (len n) gk = .slice (some ⟨w.heap.size, 0, none⟩) (len gk) (len n) := by rw [trimv, if_neg (by omega)]
      rw [htr]
      clear htr
      have hlx := len_pos.2 hx
      have hxi : (0 : Int) < ((len gk : Nat) : Int) := by omega
      have hlg : len gk ≤ len n := by rw [HX.out]; exact len_mono (Nat.div_le_self _ _)
      have HC := Lib.hid (shrink_any (o := 0) (n := len gk) (c := len n) (y := 10000000000000000000) hr (by omega) (by omega) (by decide) (by rw [W_eq]; decide))
      go_wp2_with fail
      refine (HC.out).mono ?_
      rintro e w2 ⟨cs2, k, rfl, hk, hw2, hr2, hl2, -, hz2, hk2⟩
      rw [HSG.out] at hz2 hk2
      have HZ2 := Lib.hid hz2; have HK2 := Lib.hid hk2; have HL2 := Lib.hid hl2
      have hown2 := hown.kept hw2 (by
        cases hv : u3.ownBlock with
        | none => exact .inl rfl
        | some g => have := hown.lt g hv; exact .inr (by intro e; simp at e; omega))
      have HC2 := Lib.hid (chunkOf_any (w := w2) (n := k) (by rw [← W_eq]; exact hk))
      clear hz2 hk2 hl2 HC
      go_wp2_with fail
      refine (HC2.out).mono ?_
      rintro e w3 ⟨rfl, b3⟩
      clear HC2
      obtain ⟨R, hR⟩ : ∃ R, R = row8 (digs 19 k) := ⟨_, rfl⟩
      have HR := Lib.hid hR
      rw [← hR]
      clear hR
      have hRs : R.size = 19 := by rw [HR.out, row8_size, digs_len]
      have hown3 : w3.ownsRow (w.heap.size + 1) 179 19 u3 j (chunkCells n j) := hown2.kept (row := none) ⟨b3.os, b3.tape, b3.output, b3.size, fun i hi _ => b3.block i hi⟩ (by cases u3.ownBlock <;> simp)
      have hsz3 : w.heap.size + 1 ≤ w3.heap.size := by have := hr2.lt; have := b3.size; omega
      have hjb : j ≤ 2 * len n := chunk_bound (by rw [← HX.out]; exact hx)
      have hown4 := hown3.alloc (.cells R 179)
      have hnews : ∀ (i : Nat) u, R.toList[i]? = some u → (w3.alloc (.cells R 179)).cell? ((⟨w3.heap.size, 0, none⟩ : Addr).add i) = some u := by
        intro i u hu
        have hadd : (⟨w3.heap.size, 0, none⟩ : Addr).add i = ⟨w3.heap.size, 0 + i, none⟩ := by unfold Addr.add; split <;> simp_all
        rw [hadd, Nat.zero_add, cell_of_row _ _ _ _ _ _ (heap_alloc_new w3 _)]
        simpa using hu
      have hones : ∀ u ∈ R.toList, u.oneCell' = true := by
        intro u hu
        have := row8_one (digs 19 k)
        rw [← HR.out, Array.all_eq_true_iff_forall_mem] at this
        exact this u (by simpa using hu)
      have HN := Lib.hid hnews; have HO := Lib.hid hones
      have hgr : (w3.alloc (.cells R 179)).heap[w.heap.size]? = w2.heap[w.heap.size]? := by
        rw [Below.heap_alloc _ _ _ (by omega)]
        exact b3.block _ hr2.lt
      have HGR := Lib.hid hgr
      have HB4 := Lib.hid (show Below w.heap.size w (w3.alloc (.cells R 179)) from (((hb.trans (hw2.below (Nat.le_of_lt hr.lt) (Nat.le_refl _))).trans (b3.mono (by have := hr2.lt; omega))).alloc (by omega) _))
      clear hnews hones hgr hown hown2 hown3 b3
      have hfold := fold_row hRs (show (#[.int .u8 0, .int .u8 0, .int .u8 0, .int .u8 0, .int .u8 0, .int .u8 0, .int .u8 0, .int .u8 0, .int .u8 0, .int .u8 0, .int .u8 0, .int .u8 0, .int .u8 0, .int .u8 0, .int .u8 0, .int .u8 0, .int .u8 0, .int .u8 0, .int .u8 0] : Array Value).size = 19 from rfl)
      go_wp2_with (at_builtin; refine wpList_append_own _ rfl (.tmp 15) (.tmp 19) 178 rfl (w.heap.size + 1) 179 i0 (.agg (row8 (List.replicate 19 0))) 19 19 Tryz.underlying178 hi hz0 hz1 hz2 (row8_size _) (by decide) _ _ _ rfl hown4 ⟨w3.heap.size, 0, none⟩ 1 1 R.toList rfl ?c1 HN.out HO.out ?c3 ?c4 ?c5 ?_)
      case c1 => simp [hRs]
      case c3 => unfold maxLen; omega
      case c4 => omega
      case c5 => simp; omega
      intro v' w5 hown5 hgrow _
      have hrow5 : Row w5 w.heap.size cs2 := by
        refine ⟨?_, hr2.2⟩
        rw [hgrow.block _ (by simp; omega) (fun e => by have := hown4.lt _ e.symm; omega), HGR.out]
        exact hr2.1
      have hb5 := HB4.out.grown hgrow (by simp; omega) (fun k hk => by have := hown4.lt k hk; omega)
      have hrd : Reads w5 (w.heap.size + 1) (.slice (some ⟨w.heap.size, 0, none⟩) (len gk) (len n)) (len gk) (gk / 10000000000000000000) := by
        have := hrow5.reads (o := 0) (n := len gk) (c := len n) (by rw [HL2.out]; omega) hlg (by omega)
        rw [HZ2.out] at this
        exact this
      have HT := Lib.hid (trim_val hrd)
      have HF := Lib.hid (And.intro hown5 (And.intro hrow5 hb5))
      clear hown4 hown5 hrow5 hb5 hrd hgrow
      go_wp2_with fail
      refine (HT.out).mono ?_
      rintro e w6 ⟨rfl, rfl⟩
      go_wp2_with fail
      go_roundg (gk / 10000000000000000000)
      case measure => exact Nat.div_lt_self hx (by decide)
      case rel =>
        obtain ⟨hown5, hrow5, hb5⟩ := HF.out
        have hlt10 : gk / 10000000000000000000 < gk := Nat.div_lt_self hx (by decide)
        refine ⟨j + 1, by omega, by omega, ?_, rfl, ⟨cs2, hrow5, HL2.out.trans hcl, seg_short hrow5.2 HZ2.out⟩, ?_, hb5⟩
        · show _ = _
          rw [HX.out, Nat.div_div_eq_div_mul, ten19, ← Nat.pow_add, Nat.mul_succ]
        · have e : R.toList = Lib.byteCells (digs 19 (n / 10 ^ (19 * j))) := by
            rw [HR.out, row8_toList, HK2.out, ten19, digs_mod, ← HX.out]
          rw [e] at hown5
          exact hown5

set_option maxRecDepth 100000 in
set_option maxHeartbeats 2000000 in
theorem digits_zero {w : World} : Calls Tryz.prog 137 #[.slice none 0 0] w (fun e w' => e = .returned (.string ⟨#[48]⟩) ∧ Below w.heap.size w w') := by
  have HC := Lib.hid (copied_any (Nt.zero w) (by rw [len_zero]; omega))
  go_enter Tryz.func137, Tryz.ntmps137
  go_wp2_with fail
  refine (HC.out).mono ?_
  rintro e w1 (⟨_, rfl, rfl⟩ | ⟨h, _⟩)
  · go_wp2_with fail
    refine wp_loop_rounds 1 ?_
    rw [rounds_succ]
    go_wp2_with fail
    refine wp_loop_rounds 1 ?_
    rw [rounds_succ]
    obtain ⟨wb, hwb⟩ : ∃ u, u = w1.alloc (.cells #[.pointer none, .slice none 0 0] 185) := ⟨_, rfl⟩
    have hbb : Lib.IsBuilder 185 5 w1.heap.size w1.heap.size (Lib.byteCells []) wb :=
      .inl ⟨Nat.le_refl _, .slice none 0 0, by rw [hwb]; exact heap_alloc_new w1 _, ⟨rfl, .inl ⟨rfl, rfl⟩⟩, by simp [Value.ownBlock]⟩
    have hb1 : Below w1.heap.size w1 wb := by rw [hwb]; exact (Below.refl _ _).alloc (Nat.le_refl _) _
    have HS := Lib.hid (Tryz.Builder_String_any _ _ _ _ hbb hb1.size)
    rw [← hwb]
    clear hwb hbb
    go_wp2_with fail
    refine (HS.out).mono ?_
    rintro e w3 ⟨rfl, b3⟩
    have HT := Lib.hid (Tryz.strings_TrimLeft_one ⟨#[]⟩ 48 (by decide) w3)
    have HF := Lib.hid (hb1.trans b3)
    clear b3 hb1 HS
    go_wp2_with fail
    refine (HT.out).mono ?_
    rintro e w4 ⟨rfl, rfl⟩
    go_wp2_with fail
    go_ret
    exact ⟨rfl, HF.out⟩
  · omega
/-- the text of bytes, as a value -/
def str (l : List UInt8) : Value := .string ⟨l.toArray⟩
/-- A text is returned; nothing old has changed. -/
def StrRet (w : World) (l : List UInt8) (e : Ending) (w' : World) : Prop := e = .returned (.string ⟨l.toArray⟩) ∧ Below w.heap.size w w'
theorem digits_any {w : World} {n : Nat} {va : Value} (ha : Nt w va n) (hs : len n ≤ 1099511627776) : Calls Tryz.prog 137 #[va] w (StrRet w (dec n)) := by
  rcases Nat.eq_zero_or_pos n with h | h
  · subst h
    rw [IsNat.zero' ha]
    exact digits_zero
  · exact digits_pos ha hs h
end Go.Proofs.YtfppimacnhcflaaGreatDoor
namespace Go.Proofs.YtfppimacnhcflaaGreatDoor.Rf
open Go.RowKit
open Rx
open Lib (hid)

theorem ten_step (X j : Nat) : ∀ r a s : Nat, X / V ^ (j + 1) % 10 = r → word X j = a → r * 65536 + a = s → s / 10 = word (X / 10) j ∧ s % 10 = X / V ^ j % 10 ∧ r < 10 ∧ a < 65536 := by
  intro r a s hr ha hs
  have h := div_step X j
  have h1 := word_lt X j
  rw [ha] at h h1
  have e : X / 10 / V ^ j = X / V ^ j / 10 := by rw [Nat.div_div_eq_div_mul, Nat.div_div_eq_div_mul, Nat.mul_comm]
  have e2 : word (X / 10) j = X / V ^ j / 10 % V := by
    show X / 10 / V ^ j % V = _
    rw [e]
  rw [e2]
  generalize X / V ^ (j + 1) = M at *
  generalize X / V ^ j = N at *
  unfold V at *
  subst hr hs
  refine ⟨?_, ?_, ?_, ?_⟩ <;> omega
theorem digs_done {n k : Nat} (h0 : n / 10 ^ k = 0) (h1 : k = 0 ∨ 0 < n / 10 ^ (k - 1)) (hn : 0 < n) : dec n = digs k n := by
  have hlt : n < 10 ^ k := by
    rcases Nat.lt_or_ge n (10 ^ k) with h | h
    · exact h
    · have := Nat.div_pos h (Nat.pow_pos (by decide)); omega
  rw [dec_of hlt]
  rcases k with _ | k
  · have : n < 1 := hlt
    omega
  · have h2 : 0 < n / 10 ^ k := by
      rcases h1 with h1 | h1
      · omega
      · exact h1
    have h3 : n / 10 ^ k < 10 := by
      rw [Nat.div_lt_iff_lt_mul (Nat.pow_pos (by decide)), Nat.mul_comm, ← Nat.pow_succ]; exact hlt
    have e : digs (k + 1) n = UInt8.ofNat (48 + n / 10 ^ k % 10) :: digs k n := digs_front k n
    have e3 : dropZ (digs (k + 1) n) = digs (k + 1) n := by
      rw [e]
      unfold dropZ
      rw [List.dropWhile_cons_of_neg]
      intro hc
      have hc2 := eq_of_beq hc
      have := congrArg UInt8.toNat hc2
      rw [UInt8.toNat_ofNat', Nat.mod_eq_of_lt (a := n / 10 ^ k) h3] at this
      have h48 : (48 : UInt8).toNat = 48 := rfl
      omega
    rw [e3, if_neg]
    rw [e]; intro h; cases h

theorem byteT : Tryz.prog.underlying 183 = some (.slice 5) := by kernel_rfl
theorem u8T : Tryz.prog.underlying 5 = some (.int .u8) := by kernel_rfl
theorem strT : Tryz.prog.underlying 9 = some .string := by kernel_rfl
theorem conv_one (w : World) {r : Nat} (h : r < 10) : (convert 183 9 (.slice (some ⟨w.heap.size, 0, none⟩) 1 1)).run Tryz.prog (w.alloc (.cells #[.int .u8 (48 + ((r : Nat) : Int))] 5)) = .ok (.string ⟨#[UInt8.ofNat (48 + r)]⟩) (w.alloc (.cells #[.int .u8 (48 + ((r : Nat) : Int))] 5)) := by
  refine run_convert_bytes_back _ _ _ _ ⟨w.heap.size, 0, none⟩ 1 [UInt8.ofNat (48 + r)] byteT u8T strT ?_
  intro j hj
  obtain rfl : j = 0 := by simpa using hj
  have e : ((UInt8.ofNat (48 + r)).toNat : Int) = 48 + ((r : Nat) : Int) := by
    rw [UInt8.toNat_ofNat', Nat.mod_eq_of_lt (by omega)]; omega
  show _ = some (Value.int .u8 ((UInt8.ofNat (48 + r)).toNat : Int))
  rw [e]
  exact cell_of_row _ _ 0 _ _ _ (heap_alloc_new w _)

theorem bytes_app (a b : ByteArray) : (a ++ b).data.toList = a.data.toList ++ b.data.toList := by rw [ByteArray.data_append, Array.toList_append]
theorem ten_k {x k n : Nat} (h : 0 < x / 10 ^ k) (hn : len x = n) : k + 1 ≤ 20 * n := by
  have h1 : 10 ^ k ≤ x := by
    rcases Nat.lt_or_ge x (10 ^ k) with h2 | h2
    · rw [Nat.div_eq_of_lt h2] at h; omega
    · exact h2
  have h2 := lt_len x
  rw [hn] at h2
  have h3 : V ^ n ≤ (10 ^ 5) ^ n := Nat.pow_le_pow_left (by decide) n
  rw [← Nat.pow_mul] at h3
  have h4 : 10 ^ k < 10 ^ (5 * n) := Nat.lt_of_le_of_lt h1 (Nat.lt_of_lt_of_le h2 h3)
  have := (Nat.pow_lt_pow_iff_right (by decide)).1 h4
  omega

set_option maxRecDepth 100000 in
set_option maxHeartbeats 4000000 in
theorem decimal_any {w : World} {vx : Value} {x : Nat} (hx : IsBig w vx x) (hx0 : 0 < x) (sx : len x ≤ 1048576) :
    Calls Tryz.prog 142 #[vx] w (StrRet w (dec x)) := by
  obtain ⟨A, c, rfl, -, -, -, -⟩ := id hx
  have hl := len_pos.2 hx0
  have hx2 := hid hx
  obtain ⟨n, hn⟩ : ∃ n, len x = n := ⟨_, rfl⟩
  rw [hn] at hx2 hl ⊢
  have e1 : (((n : Nat) : Int) == 0) = false := by rw [beq_eq_false_iff_ne]; omega
  replace hn := hid hn
  clear hx hl
  obtain ⟨l, hdl⟩ : ∃ l, dec x = l := ⟨_, rfl⟩
  rw [hdl]
  replace hdl := hid hdl
  go_enter Tryz.func142, Tryz.ntmps142
  go_wp2_with fail
  clear e1
  go_loopg [0, 3] x (fun g xv sv wr => ∃ (k : Nat) (s : ByteArray), x / 10 ^ k = g ∧ sv = .string s ∧ s.data.toList = digs k x ∧ IsBig wr xv g ∧ (k = 0 ∨ 0 < x / 10 ^ (k - 1)) ∧ k ≤ 20 * n ∧ Below w.heap.size w wr)
  case atStart => exact ⟨0, _, by rw [Nat.pow_zero, Nat.div_one], rfl, rfl, hx2.out, Or.inl rfl, Nat.zero_le _, Below.refl _ _⟩
  case round =>
    obtain ⟨k, s, hg, rfl, hs, hxv, hk0, hk20, hbl⟩ := hrel
    obtain ⟨X, hXg⟩ : ∃ X, gk = X := ⟨_, rfl⟩
    rw [hXg] at hg hxv
    replace hXg := hid hXg
    replace hbl := hid hbl
    rcases Nat.eq_zero_or_pos X with hX0 | hX0
    · subst hX0
      have e := digs_done hg hk0 hx0
      rw [hdl.out, ← hs] at e
      obtain ⟨Ay, cy, rfl, -, -, -, -⟩ := hxv
      rw [len_zero]
      have F : Ending.returned (.string s) = .returned (.string ⟨l.toArray⟩) := by rw [e]
      replace F := hid F
      clear e hg hs
      go_wp2_with fail
      go_ret
      exact ⟨F.out, hbl.out⟩
    · obtain ⟨Ax, cx, rfl, -, -, -, -⟩ := id hxv
      obtain ⟨L, hL⟩ : ∃ L, len X = L := ⟨_, rfl⟩
      have hLp := len_pos.2 hX0
      have hXx : X ≤ x := by rw [← hg]; exact Nat.div_le_self _ _
      have hLn := len_mono hXx
      rw [hL] at hLp hLn hxv ⊢
      rw [hn.out] at hLn sx
      have e2 : ((L : Nat) : Int) > 0 := by omega
      have e3 : decide (0 < L) = true := decide_eq_true hLp
      obtain ⟨w5, hw5⟩ : ∃ u, u = wr := ⟨_, rfl⟩
      rw [← hw5] at hxv hbl ⊢
      clear hw5
      have hxr : BReads w5 (.slice Ax L cx) L X := by have h9 := hxv; unfold IsBig at h9; rw [hL] at h9; exact h9
      replace hxr := hid hxr
      clear hxv
      replace hg := hid hg
      replace hL := hid hL
      have hmk := mkBig L (by omega) w5
      obtain ⟨w6, hw6⟩ : ∃ u, u = w5.alloc (.cells (madeCells #[.int .i64 0] L) 3) := ⟨_, rfl⟩
      have hr1 := mk_rowF w5 L
      have hb1 := alloc_below w5 (.cells (madeCells #[.int .i64 0] L) 3)
      obtain ⟨g, hgg⟩ : ∃ g, w5.heap.size = g := ⟨_, rfl⟩
      rw [← hw6] at hmk hr1 hb1
      rw [hgg] at hmk hr1
      clear hw6
      replace hr1 := hid hr1
      replace hb1 := hid hb1
      replace hgg := hid hgg
      go_wp2_with fail
      clear hmk
      go_loopw [5, 6] (fun rv iv wr => ∃ j : Nat, j ≤ L ∧ iv = .int .i64 (downI j) ∧ rv = .int .i64 (X / V ^ j % 10 : Nat) ∧ Hid (RowF wr g L (fun t => if t < j then 0 else word (X / 10) t)) ∧ Hid (Below w5.heap.size w5 wr)) (fun _ iv _ => (intOf iv + 1).toNat)
      case atStart => exact ⟨L, Nat.le_refl _, by rw [downI_eq], by rw [Nat.div_eq_of_lt (by rw [← hL.out]; exact lt_len X)]; rfl, hr1.out.congr (fun t ht => by rw [if_pos ht]), hb1.out⟩
      case round =>
        obtain ⟨j, hj, rfl, rfl, hrow, hb5⟩ := hrel
        rcases j with _ | j
        · obtain ⟨r, hr⟩ : ∃ r, X / V ^ 0 % 10 = r := ⟨_, rfl⟩
          have hr10 : r < 10 := by omega
          have hz9 : X / 10 < V ^ L := Nat.lt_of_le_of_lt (Nat.div_le_self _ _) (by rw [← hL.out]; exact lt_len X)
          have HC0 := hid (RowF.reads (hrow.out.congr (f' := word (X / 10)) (fun t _ => by rw [if_neg (by omega)])) (by unfold maxLen; omega) hz9)
          rw [hr, show downI 0 = -1 from rfl]
          have hr2 : x / 10 ^ k % 10 = r := by rw [hg.out, ← hr, Nat.pow_zero, Nat.div_one]
          have hsz : s.size ≤ 20971520 := by
            have h1 : s.data.toList.length = s.size := Array.length_toList (xs := s.data)
            rw [hs, digs_len] at h1
            omega
          have hcv := conv_one wr hr10
          obtain ⟨sb, hsb⟩ : ∃ z : ByteArray, (⟨#[UInt8.ofNat (48 + r)]⟩ : ByteArray) = z := ⟨_, rfl⟩
          have hs1 : sb.size = 1 := by rw [← hsb]; rfl
          have hs2 : sb.data.toList = [UInt8.ofNat (48 + r)] := by rw [← hsb]
          rw [hsb] at hcv
          obtain ⟨w7, hw7⟩ : ∃ u, u = wr.alloc (.cells #[.int .u8 (48 + ((r : Nat) : Int))] 5) := ⟨_, rfl⟩
          have b7 := alloc_below wr (.cells #[.int .u8 (48 + ((r : Nat) : Int))] 5)
          rw [← hw7] at b7
          replace hw7 := hid hw7
          have hs2 := hid hs2
          replace hr := hid hr
          replace hr2 := hid hr2
          replace hsb := hid hsb
          replace b7 := hid b7
          have hs9 := hid hs
          clear hs
          have HC := hid (cut_any (HC0.out.keep b7.out))
          have hk1 := ten_k (x := x) (k := k) (by rw [hg.out]; exact hX0) hn.out
          clear HC0
          go_wp2_with fail
          rw [← hw7.out]
          refine (HC.out).mono ?_
          rintro e w' ⟨v2, rfl, hv2, rfl⟩
          replace hv2 := hid hv2
          clear HC
          go_wp2_with fail
          go_roundg (X / 10)
          case rel =>
            refine ⟨k + 1, _, ?_, rfl, ?_, hv2.out, Or.inr ?_, hk1, chain hbl.out (chain hb5.out b7.out)⟩
            · rw [Nat.pow_succ, ← Nat.div_div_eq_div_mul, hg.out]
            · rw [digs_front, hr2.out, bytes_app, hs2.out, hs9.out]; rfl
            · rw [Nat.add_sub_cancel, hg.out]; exact hX0
          case measure => have := hXg.out; omega
        · obtain ⟨r, hr⟩ : ∃ r, X / V ^ (j + 1) % 10 = r := ⟨_, rfl⟩
          obtain ⟨a, ha⟩ : ∃ a, word X j = a := ⟨_, rfl⟩
          obtain ⟨v, hv⟩ : ∃ v, r * 65536 + a = v := ⟨_, rfl⟩
          obtain ⟨q1, q2, q3, q4⟩ := ten_step X j r a v hr ha hv
          obtain ⟨d, hd⟩ : ∃ d, word (X / 10) j = d := ⟨_, rfl⟩
          obtain ⟨r', hr'⟩ : ∃ r, X / V ^ j % 10 = r := ⟨_, rfl⟩
          rw [hd] at q1
          rw [hr'] at q2
          rw [hr, show downI (j + 1) = ((j : Nat) : Int) from rfl]
          obtain ⟨wq, hwq⟩ : ∃ u, u = wr := ⟨_, rfl⟩
          rw [← hwq] at hrow hb5 ⊢
          clear hwq
          obtain ⟨gx, ox, rfl, hcx⟩ := (hxr.out.keep hb5.out).at hj
          rw [ha] at hcx
          have hcz := hrow.out.cell (t := j) hj (d := 0) (by rw [if_pos (by omega)])
          have hfz := hrow.out.frozen j
          obtain ⟨m, hm⟩ : ∃ m, r * 65536 = m := ⟨_, rfl⟩
          rw [hm] at hv
          have v0 : ((r : Nat) : Int) * 65536 = ((m : Nat) : Int) := by omega
          have v2 : ((m : Nat) : Int) + (a : Nat) = ((v : Nat) : Int) := by omega
          have v3 : ((v : Nat) : Int) / 10 = ((d : Nat) : Int) := by omega
          have v4 : ((v : Nat) : Int) % 10 = ((r' : Nat) : Int) := by omega
          have v5 : ((v : Nat) : Int).tdiv 10 = ((d : Nat) : Int) := by rw [Int.tdiv_eq_ediv_of_nonneg (by omega)]; exact v3
          have v6 : ((v : Nat) : Int).tmod 10 = ((r' : Nat) : Int) := by rw [Int.tmod_eq_emod_of_nonneg (by omega)]; exact v4
          have bm : m < 655360 := by omega
          have bv : v < 720896 := by omega
          have bd : d < 720896 := by omega
          have br : r' < 10 := by omega
          have hrow2 := hid (RowF.set (t := j) (d := d) hrow.out)
          have hbl2 := hid (hb5.out.setCell (p := ⟨g, j, none⟩) (Nat.le_of_eq hgg.out) (.int .i64 (d : Nat)))
          replace hd := hid hd
          replace hr' := hid hr'
          clear hr ha hv q1 q2 q3 hm
          go_wp2_with fail
          go_roundw
          case rel =>
            refine ⟨j, by omega, by rw [downI_eq], by rw [hr'.out], hrow2.out.congr ?_, hbl2⟩
            intro t ht
            by_cases h : t = j
            · rw [if_pos h, if_neg (by omega), h]; exact hd.out.symm
            · rw [if_neg h]
              by_cases h2 : t < j
              · rw [if_pos (by omega), if_pos h2]
              · rw [if_neg (by omega), if_neg h2]
          case measure => simp [intOf]
end Go.Proofs.YtfppimacnhcflaaGreatDoor.Rf
