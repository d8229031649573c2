import Derived.Test.YtjgamlcpbkckhaaV2
import Derived.Test.YtjgamlcpbkckhaaEvZg
set_option linter.all false
open Go Go.Ev Go.RowKit
namespace Go.Ev
set_option maxRecDepth 100000
set_option linter.all false
def opD (kd : Int) (nm ps lb ot tx : ByteArray) (dy nu ve : Int) : List D := [.val (.int .i64 kd), .val (.string nm), .val (.string ps), .val (.string lb), .val (.string ot), .val (.string tx), .val (.int .i64 dy), .val (.int .i64 nu), .val (.int .i64 ve)]
def len64 (s : ByteArray) : Int := ((bytesOfS s).length : Nat)
def wideB (nm ps lb ot tx : ByteArray) : Bool :=
  bif decide (len64 tx > 100) && decide (len64 tx ≤ 2000) then true else
  bif decide (len64 tx > 2010) then true else bif decide (len64 nm > 60) then true else bif decide (len64 ps > 60) then true else bif decide (len64 lb > 60) then true else decide (len64 ot > 60)
theorem wide_leaf (P : Program) {nm ps lb ot tx : ByteArray} {s : St} (b : Bool) (h : endO false 0 af_14 .ret s = some ⟨none, .val (.bool b), [], []⟩) (hb : wideB nm ps lb ot tx = b) :
    EndP false 0 af_14 (fun o => o = ⟨none, .val (.bool (wideB nm ps lb ot tx)), [], []⟩) .ret s := endO_p _ (by rw [hb]) h
theorem wide_aw (P : Program) (hm : P.follows .mixedOrders = true) (kd : Int) (nm ps lb ot tx : ByteArray) (dy nu ve : Int) (K : Cust) (w : World) :
    AW noC (LoopA K P w [.fresh] [.dead]) af_14.body (startF af_14 [.row 9 1 fun _ => opD kd nm ps lb ot tx dy nu ve] [.dead]) (EndP false 0 af_14 fun o => o = ⟨none, .val (.bool (wideB nm ps lb ot tx)), [], []⟩) := by
  refine aw_reg0 ?_
  refine aw_assoc (aw_reg0 ?_)
  refine aw_unroll 2 hm noC_ok (unr_step ?_)
  refine aw_assoc (aw_reg0 ?_)
  refine aw_yes (aw_skips ?_)
  refine aw_blocks (aw_reg (True ∧ (0 ≤ (0 : Int) ∧ (0 : Int) < (1 : Nat))) ⟨trivial, by decide, by decide⟩ (aw_opens ?_))
  refine awr_test 5 19 (decide (len64 tx > 100)) (fun h1 => ?_) (fun h1 => ?_)
  · refine awr_test 6 25 (decide (len64 tx ≤ 2000)) (fun h2 => awr_end0 ?_) (fun h2 => ?_)
    · refine aw_if true (fun _ => aw_reg0 (aw_ret ?_)) (fun e => by cases e)
      exact blk_ret (seq_ret (unr_ret (blk_ret (seq_ret (wide_leaf P true (by kernel_rfl) (by simp [wideB, h1, h2]))))))
    refine awr_test 6 31 (decide (len64 tx > 2010)) (fun h3 => awr_end0 ?_) (fun h3 => ?_)
    · refine aw_if true (fun _ => aw_reg0 (aw_ret ?_)) (fun e => by cases e)
      exact blk_ret (seq_ret (unr_ret (blk_ret (seq_ret (wide_leaf P true (by kernel_rfl) (by simp [wideB, h1, h2, h3]))))))
    refine awr_test 6 37 (decide (len64 nm > 60)) (fun h4 => awr_end0 ?_) (fun h4 => ?_)
    · refine aw_if true (fun _ => aw_reg0 (aw_ret ?_)) (fun e => by cases e)
      exact blk_ret (seq_ret (unr_ret (blk_ret (seq_ret (wide_leaf P true (by kernel_rfl) (by simp [wideB, h1, h2, h3, h4]))))))
    refine awr_test 6 43 (decide (len64 ps > 60)) (fun h5 => awr_end0 ?_) (fun h5 => ?_)
    · refine aw_if true (fun _ => aw_reg0 (aw_ret ?_)) (fun e => by cases e)
      exact blk_ret (seq_ret (unr_ret (blk_ret (seq_ret (wide_leaf P true (by kernel_rfl) (by simp [wideB, h1, h2, h3, h4, h5]))))))
    refine awr_test 6 49 (decide (len64 lb > 60)) (fun h6 => awr_end0 ?_) (fun h6 => ?_)
    · refine aw_if true (fun _ => aw_reg0 (aw_ret ?_)) (fun e => by cases e)
      exact blk_ret (seq_ret (unr_ret (blk_ret (seq_ret (wide_leaf P true (by kernel_rfl) (by simp [wideB, h1, h2, h3, h4, h5, h6]))))))
    refine awr_end0 ?_
    refine aw_if (decide (len64 ot > 60)) (fun h7 => ?_) (fun h7 => ?_)
    · refine aw_reg0 (aw_ret ?_)
      exact blk_ret (seq_ret (unr_ret (blk_ret (seq_ret (wide_leaf P true (by kernel_rfl) (by simp [wideB, h1, h2, h3, h4, h5, h6, h7]))))))
    · refine aw_skip (blk_normal (seq_normal ?_))
      refine aw_end (True ∧ inRange .i64 (0 + 1)) ⟨trivial, ⟨by decide, by decide⟩⟩ (unr_next (unr_step ?_))
      refine aw_assoc (aw_reg0 (aw_no (aw_exits (unr_exit (blk_exit (seq_normal ?_))))))
      refine aw_reg0 (aw_ret ?_)
      exact wide_leaf P false (by kernel_rfl) (by simp [wideB, h1, h2, h3, h4, h5, h6, h7])
  · skip
    refine awr_test 12 31 (decide (len64 tx > 2010)) (fun h3 => awr_end0 ?_) (fun h3 => ?_)
    · refine aw_if true (fun _ => aw_reg0 (aw_ret ?_)) (fun e => by cases e)
      exact blk_ret (seq_ret (unr_ret (blk_ret (seq_ret (wide_leaf P true (by kernel_rfl) (by simp [wideB, h1, h3]))))))
    refine awr_test 6 37 (decide (len64 nm > 60)) (fun h4 => awr_end0 ?_) (fun h4 => ?_)
    · refine aw_if true (fun _ => aw_reg0 (aw_ret ?_)) (fun e => by cases e)
      exact blk_ret (seq_ret (unr_ret (blk_ret (seq_ret (wide_leaf P true (by kernel_rfl) (by simp [wideB, h1, h3, h4]))))))
    refine awr_test 6 43 (decide (len64 ps > 60)) (fun h5 => awr_end0 ?_) (fun h5 => ?_)
    · refine aw_if true (fun _ => aw_reg0 (aw_ret ?_)) (fun e => by cases e)
      exact blk_ret (seq_ret (unr_ret (blk_ret (seq_ret (wide_leaf P true (by kernel_rfl) (by simp [wideB, h1, h3, h4, h5]))))))
    refine awr_test 6 49 (decide (len64 lb > 60)) (fun h6 => awr_end0 ?_) (fun h6 => ?_)
    · refine aw_if true (fun _ => aw_reg0 (aw_ret ?_)) (fun e => by cases e)
      exact blk_ret (seq_ret (unr_ret (blk_ret (seq_ret (wide_leaf P true (by kernel_rfl) (by simp [wideB, h1, h3, h4, h5, h6]))))))
    refine awr_end0 ?_
    refine aw_if (decide (len64 ot > 60)) (fun h7 => ?_) (fun h7 => ?_)
    · refine aw_reg0 (aw_ret ?_)
      exact blk_ret (seq_ret (unr_ret (blk_ret (seq_ret (wide_leaf P true (by kernel_rfl) (by simp [wideB, h1, h3, h4, h5, h6, h7]))))))
    · refine aw_skip (blk_normal (seq_normal ?_))
      refine aw_end (True ∧ inRange .i64 (0 + 1)) ⟨trivial, ⟨by decide, by decide⟩⟩ (unr_next (unr_step ?_))
      refine aw_assoc (aw_reg0 (aw_no (aw_exits (unr_exit (blk_exit (seq_normal ?_))))))
      refine aw_reg0 (aw_ret ?_)
      exact wide_leaf P false (by kernel_rfl) (by simp [wideB, h1, h3, h4, h5, h6, h7])
end Go.Ev
