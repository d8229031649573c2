import Derived.Test.YtjgamlcpbkckhaaV13
set_option linter.all false
open Go Go.Ev Go.RowKit
namespace Go.Ev
set_option maxRecDepth 100000
set_option linter.all false
def updB (g : Nat → Int) (p : Nat) (v : Int) : Nat → Int := fun j => bif Nat.beq j p then v else g j
theorem updB_at {g : Nat → Int} {p : Nat} {v : Int} : updB g p v p = v := by
  unfold updB
  rw [Nat.beq_refl]
  rfl
theorem updB_ne {g : Nat → Int} {p j : Nat} {v : Int} (h : j ≠ p) : updB g p v j = g j := by
  unfold updB
  have : Nat.beq j p = false := by
    cases e : Nat.beq j p with
    | false => rfl
    | true => exact absurd (Nat.eq_of_beq_eq_true e) h
  rw [this]
  rfl
theorem updB_set {g : Nat → Int} {p : Nat} {v : Int} : updF (setF g) p [.val (.int .u8 v)] = setF (updB g p v) := by
  funext j
  show (match Nat.beq j p with | true => D.val (.int .u8 v) | false => setF g j) = _
  unfold setF updB
  cases Nat.beq j p <;> rfl
structure LawI (n : Nat) (b : Nat → Int) (a m : Nat) where
  i : Nat
  g : Nat → Int
  ch : Bool
  im : i ≤ m
  i7 : i ≤ 7
  hg : bytesP n g
  hout : ∀ j, j < n → j < a ∨ a + i ≤ j → g j = b j
  hch : ch = true ↔ ∃ j, j < n ∧ g j ≠ b j
theorem wrap_a {a : Nat} (h : a < 65536) : IntKind.i64.wrap (a : Int) = a := by
  rw [IntKind.wrap_i64]
  omega
theorem law_step_in {n : Nat} {b : Nat → Int} {a i : Nat} {g : Nat → Int} {ch : Bool} {v : Int} (hb : bytesP n b) (hg : bytesP n g) (hout : ∀ j, j < n → j < a ∨ a + i ≤ j → g j = b j) (hch : ch = true ↔ ∃ j, j < n ∧ g j ≠ b j) (hp : a + i < n) (hv : 0 ≤ v ∧ v < 256) :
    bytesP n (updB g (a + i) (xorB (g (a + i)) v)) ∧ (∀ j, j < n → j < a ∨ a + (i + 1) ≤ j → updB g (a + i) (xorB (g (a + i)) v) j = b j) ∧ ((ch || v != 0) = true ↔ ∃ j, j < n ∧ updB g (a + i) (xorB (g (a + i)) v) j ≠ b j) := by
  have hgp : g (a + i) = b (a + i) := hout _ hp (.inr (Nat.le_refl _))
  refine ⟨fun j hj => ?_, fun j hj h => ?_, ?_⟩
  · by_cases h : j = a + i
    · subst h; rw [updB_at]; exact xorB_range
    · rw [updB_ne h]; exact hg j hj
  · rw [updB_ne (by omega)]; exact hout j hj (by omega)
  · have hsame := xorB_same (hb _ hp).1 (hb _ hp).2 hv.1 hv.2
    constructor
    · intro h
      rw [Bool.or_eq_true] at h
      rcases h with h | h
      · obtain ⟨j, hj, hne⟩ := hch.1 h
        have : j ≠ a + i := fun e => by subst e; exact hne hgp
        exact ⟨j, hj, by rw [updB_ne this]; exact hne⟩
      · refine ⟨a + i, hp, ?_⟩
        rw [updB_at, hgp]
        intro e
        have := hsame.1 e
        subst this
        simp at h
    · rintro ⟨j, hj, hne⟩
      rw [Bool.or_eq_true]
      by_cases h : j = a + i
      · subst h
        rw [updB_at, hgp] at hne
        refine .inr ?_
        have : v ≠ 0 := fun e => hne (hsame.2 e)
        simpa [bne] using this
      · rw [updB_ne h] at hne
        exact .inl (hch.2 ⟨j, hj, hne⟩)
theorem law_step_out {n : Nat} {b : Nat → Int} {a i : Nat} {g : Nat → Int} (hout : ∀ j, j < n → j < a ∨ a + i ≤ j → g j = b j) : ∀ j, j < n → j < a ∨ a + (i + 1) ≤ j → g j = b j :=
  fun j hj h => hout j hj (by omega)
theorem law_aw (P : Program) (hm : P.follows .mixedOrders = true) (K : Cust) (hcl : ClOK K P tabD) (w : World) (s : Int) (n : Nat) (b : Nat → Int) (a : Nat) (m : Nat) (c : Nat → Int) (t : Int)
    (hs : 0 ≤ s) (ht : 0 ≤ t) (ha : a < 65536) (hb : bytesP n b) (hc : bytesP m c) :
    AW tabD (LoopA K P w [.fresh] [.dead]) af_5.body (startF af_5 (lawD s n b a m c t) [.dead]) (EndP false 0 af_5 fun o => o = ⟨none, .val (.bool true), [], []⟩) := by
  refine aw_reg0 (aw_assoc (aw_reg0 ?_))
  refine aw_ifs (decide ((n : Int) > 300)) (fun h => ?_) (fun hn => ?_)
  · exact aw_assoc (aw_reg0 (aw_rets (law_leaf (by kernel_rfl))))
  have hn : n ≤ 300 := by
    have : ¬ (n : Int) > 300 := by simpa using hn
    omega
  refine aw_skips (aw_reg ((True ∧ ((∀ j, j < n → [D.val (.int .u8 (b j))] = [D.val (.int .u8 (b j))]) ∧ n ≤ 1000000)) ∧ ((n = n ∧ ∀ j, j < n → D.val (.int .u8 (cipB s b j)) = D.val (.int .u8 (cipB s b j))) ∧ n ≤ 1000000))
    ⟨⟨trivial, fun _ _ => rfl, by omega⟩, ⟨rfl, fun _ _ => rfl⟩, by omega⟩ ?_)
  refine aw_assoc (aw_reg (True ∧ (((n = n ∧ ∀ j, j < n → D.val (.int .u8 (cipB s (cipB s b) j)) = D.val (.int .u8 (cipB s (cipB s b) j))) ∧ ∀ j, j < n → [D.val (.int .u8 (b j))] = [D.val (.int .u8 (b j))]) ∧ n ≤ 1000000))
    ⟨trivial, ⟨⟨rfl, fun _ _ => rfl⟩, fun _ _ => rfl⟩, by omega⟩ ?_)
  refine aw_ifs (!(sameB n (cipB s (cipB s b)) n b)) (fun h => ?_) (fun _ => ?_)
  · rw [sameB_true ⟨rfl, fun j hj => cip_back (hb j hj)⟩] at h
    cases h
  refine aw_skips (aw_reg (True ∧ (True ∧ (∀ j, j < n → [D.val (.int .u8 (b j))].length = 1 ∧ [D.val (.int .u8 (b j))].all okCell = true) ∧ 0 + n ≤ 1048576)) ⟨trivial, trivial, fun _ _ => ⟨rfl, rfl⟩, by omega⟩ ?_)
  refine aw_reg0 (aw_assoc (aw_reg0 ?_))
  refine aw_loop (ι := LawI n b a m) hm hcl lawIx (fun x => law2 s n b a m c t x.i x.ch (setF x.g)) (fun x => m - x.i)
    ⟨0, b, false, Nat.zero_le _, Nat.zero_le _, hb, fun _ _ _ => rfl, Iff.intro (fun h => by cases h) (fun h => by obtain ⟨j, _, h⟩ := h; exact absurd rfl h)⟩ (fun x => ?_) (by kernel_rfl)
  obtain ⟨i, g, ch, im, i7, hg, hout, hch⟩ := x
  refine aw_assoc (aw_opens ?_)
  refine awr_test 6 33 (decide ((i : Int) < m)) (fun him => awr_end0 ?_) (fun _ => awr_end0 ?_)
  · refine aw_ifs (decide ((i : Int) < 7)) (fun hi7 => ?_) (fun _ => ?_)
    · have him : i < m := by simpa using him
      have hi7 : i < 7 := by
        have : (i : Int) < 7 := by simpa using hi7
        omega
      have hwa := wrap_a ha
      refine aw_skips (aw_blocks (aw_reg (True ∧ inRange .i64 (IntKind.i64.wrap (a : Int) + i)) ⟨trivial, by rw [hwa]; simp only [inRange, IntKind.min, IntKind.max, IntKind.signed, IntKind.bits]; omega⟩ (aw_reg0 ?_)))
      refine aw_if (decide (IntKind.i64.wrap (a : Int) + i < ((0 + n : Nat) : Int))) (fun hp => ?_) (fun hp => ?_)
      · have hp : a + i < n := by
          have : IntKind.i64.wrap (a : Int) + i < ((0 + n : Nat) : Int) := by simpa using hp
          rw [hwa] at this
          omega
        have hpn : (IntKind.i64.wrap (a : Int) + i).toNat = a + i := by rw [hwa]; omega
        have hq : (0 ≤ IntKind.i64.wrap (a : Int) + i ∧ IntKind.i64.wrap (a : Int) + i < ((0 + n : Nat) : Int)) := by rw [hwa]; omega
        have hq2 : (0 : Int) ≤ i ∧ (i : Int) < m := by omega
        refine aw_reg (((((True ∧ (0 ≤ IntKind.i64.wrap (a : Int) + i ∧ IntKind.i64.wrap (a : Int) + i < ((0 + n : Nat) : Int))) ∧ (IntKind.i64.wrap (a : Int) + i).toNat < 0 + n) ∧ ((0 : Int) ≤ i ∧ (i : Int) < m)) ∧ (0 ≤ IntKind.i64.wrap (a : Int) + i ∧ IntKind.i64.wrap (a : Int) + i < ((0 + n : Nat) : Int))) ∧ (IntKind.i64.wrap (a : Int) + i).toNat + 1 ≤ 0 + n)
          ⟨⟨⟨⟨⟨trivial, hq⟩, by omega⟩, hq2⟩, hq⟩, by omega⟩ (aw_open ?_)
        obtain ⟨k1, k2, k3⟩ := law_step_in hb hg hout hch hp (hc i him)
        have hset : updF (setF g) (IntKind.i64.wrap (a : Int) + i).toNat [.val (.int .u8 (xorB (g (IntKind.i64.wrap (a : Int) + i).toNat) (c i)))] = setF (updB g (a + i) (xorB (g (a + i)) (c i))) := by
          rw [hpn]; exact updB_set
        refine awr_test 2 60 ch (fun h1 => awr_end0 (blk_normal (seq_normal ?_))) (fun h1 => ?_)
        · refine aw_end (True ∧ inRange .i64 ((i : Int) + 1)) ⟨trivial, by simp only [inRange, IntKind.min, IntKind.max, IntKind.signed, IntKind.bits]; omega⟩ ?_
          refine round_endT (st := fun x : LawI n b a m => law2 s n b a m c t x.i x.ch (setF x.g)) 7 lawIx ⟨i + 1, _, true, him, hi7, k1, k2, by rw [← k3, h1]; simp⟩ (by show m - (i + 1) < m - i; omega)
            ((∀ j, j < n → True ∧ True) ∧ True) (((∀ j, j < m → True ∧ True) ∧ True) ∧ (∀ j, j < n → True) ∧ (∀ j, j < n → True) ∧ (∀ j, j < 0 + n → needD 7 (updF (setF g) (IntKind.i64.wrap (a : Int) + i).toNat [.val (.int .u8 (xorB (g (IntKind.i64.wrap (a : Int) + i).toNat) (c i)))] j)) ∧ True) ⟨fun _ _ => ⟨trivial, trivial⟩, trivial⟩ ⟨⟨fun _ _ => ⟨trivial, trivial⟩, trivial⟩, fun _ _ => trivial, fun _ _ => trivial, fun j _ => by rw [hset]; simp only [setF, needD], trivial⟩ ?_ (by kernel_rfl) (by kernel_rfl) (by kernel_rfl) (by kernel_rfl)
          show _ = law2 s n b a m c t (i + 1) true (setF (updB g (a + i) (xorB (g (a + i)) (c i))))
          rw [← hset]
          kernel_rfl
        · refine awr_end (True ∧ ((0 : Int) ≤ i ∧ (i : Int) < m)) ⟨trivial, hq2⟩ (blk_normal (seq_normal ?_))
          refine aw_end (True ∧ inRange .i64 ((i : Int) + 1)) ⟨trivial, by simp only [inRange, IntKind.min, IntKind.max, IntKind.signed, IntKind.bits]; omega⟩ ?_
          refine round_endT (st := fun x : LawI n b a m => law2 s n b a m c t x.i x.ch (setF x.g)) 7 lawIx ⟨i + 1, _, c i != 0, him, hi7, k1, k2, by rw [← k3, h1]; simp⟩ (by show m - (i + 1) < m - i; omega)
            ((∀ j, j < n → True ∧ True) ∧ True) (((∀ j, j < m → True ∧ True) ∧ True) ∧ (∀ j, j < n → True) ∧ (∀ j, j < n → True) ∧ (∀ j, j < 0 + n → needD 7 (updF (setF g) (IntKind.i64.wrap (a : Int) + i).toNat [.val (.int .u8 (xorB (g (IntKind.i64.wrap (a : Int) + i).toNat) (c i)))] j)) ∧ True) ⟨fun _ _ => ⟨trivial, trivial⟩, trivial⟩ ⟨⟨fun _ _ => ⟨trivial, trivial⟩, trivial⟩, fun _ _ => trivial, fun _ _ => trivial, fun j _ => by rw [hset]; simp only [setF, needD], trivial⟩ ?_ (by kernel_rfl) (by kernel_rfl) (by kernel_rfl) (by kernel_rfl)
          show _ = law2 s n b a m c t (i + 1) (c i != 0) (setF (updB g (a + i) (xorB (g (a + i)) (c i))))
          rw [← hset]
          kernel_rfl
      · refine aw_skip (blk_normal (seq_normal ?_))
        refine aw_end (True ∧ inRange .i64 ((i : Int) + 1)) ⟨trivial, by simp only [inRange, IntKind.min, IntKind.max, IntKind.signed, IntKind.bits]; omega⟩ ?_
        exact round_end lawIx ⟨i + 1, g, ch, him, hi7, hg, law_step_out hout, hch⟩ (by show m - (i + 1) < m - i; omega) (by kernel_rfl)
    · refine aw_exits (round_exit (blk_exit (seq_normal (aw_at (lawR s n b a m c t i ch (setF g) (.val (.int .i64 i)) (.ptr 1 1) (rowB m c) (.val (.int .i64 m)) (.val (.bool (decide ((i : Int) < m)))) (.val (.bool true)) (.val (.int .i64 i)) (.val (.bool (decide ((i : Int) < 7)))) (.val (.bool (decide ((i : Int) < 7))))) (law_rest P K w s n b a m c t i ch g _ _ _ _ _ _ _ _ _ hs ht hn hb hg i7 hout hch)))))
  · refine aw_no (aw_exits (round_exit (blk_exit (seq_normal (aw_at (lawR s n b a m c t i ch (setF g) (.val (.int .i64 i)) (.ptr 1 1) (rowB m c) (.val (.int .i64 m)) (.val (.bool (decide ((i : Int) < m)))) (.val (.bool false)) (.tup []) (.tup []) (.val (.bool false))) (law_rest P K w s n b a m c t i ch g _ _ _ _ _ _ _ _ _ hs ht hn hb hg i7 hout hch))))))
end Go.Ev
