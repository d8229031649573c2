import Derived.Test.YtjgamlcpbkckhaaV5
import Derived.Test.YtjgamlcpbkckhaaV4
set_option linter.all false
open Go Go.Ev Go.RowKit
namespace Go.Ev
set_option maxRecDepth 100000
set_option linter.all false
def opOf : List D → Option (Int × (ByteArray × ByteArray × ByteArray × ByteArray × ByteArray) × Int × Int × Int)
  | [.val (.int .i64 kd), .val (.string nm), .val (.string ps), .val (.string lb), .val (.string ot), .val (.string tx), .val (.int .i64 dy), .val (.int .i64 nu), .val (.int .i64 ve)] => some (kd, (nm, ps, lb, ot, tx), dy, nu, ve)
  | _ => none
theorem opOf_some {l : List D} {x : Int × (ByteArray × ByteArray × ByteArray × ByteArray × ByteArray) × Int × Int × Int} (h : opOf l = some x) :
    l = opD x.1 x.2.1.1 x.2.1.2.1 x.2.1.2.2.1 x.2.1.2.2.2.1 x.2.1.2.2.2.2 x.2.2.1 x.2.2.2.1 x.2.2.2.2 := by
  unfold opOf at h
  split at h
  · cases h; rfl
  · cases h
/-- wide, for a list of one call -/
def wideR : List D → Option Value
  | [.row 9 1 f] => match opOf (f 0) with
    | some (_, (nm, ps, lb, ot, tx), _) => some (.bool (wideB nm ps lb ot tx))
    | none => none
  | _ => none
theorem wideR_ok (K : Cust) (P : Program) (hm : P.follows .mixedOrders = true) (hf : compF P 14 = some af_14) : ClOK K P (seeT 14 wideR) := by
  refine seeT_ok (fun_ok (K := K) (cl := noC) hm noC_ok hf).1 fun ds v h => ?_
  unfold wideR at h
  split at h
  · rename_i f
    split at h
    · rename_i kd nm ps lb ot tx r hop
      obtain ⟨dy, nu, ve⟩ := r
      have e := opOf_some hop
      have hv := Option.some.inj h
      subst hv
      refine ⟨[.row 9 1 fun _ => opD kd nm ps lb ot tx dy nu ve], Less.row (fun i hi K M ρ b o hc => ?_) (Less.refl []), ?_⟩
      · obtain rfl : i = 0 := by omega
        rw [e] at hc
        exact hc
      · exact Alone.ofW (cl := noC) (raw := false) hm (fun K => noC_ok) hf fun K w => wide_aw P hm kd nm ps lb ot tx dy nu ve K w
    · cases h
  · cases h
def knownR (ds : List D) (_ : List Blk) (_ : Nat) : Option Out := match ds with
  | [] => some ⟨none, .val (.bool true), [], []⟩
  | _ => none
theorem knownR_ok (K : Cust) : ClOK K Go.Proofs.Try.prog (oneCl 6 knownR) := by
  intro f ds hp nid out h hc
  unfold oneCl at h
  split at h
  · rename_i e
    obtain rfl := Nat.eq_of_beq_eq_true e
    unfold knownR at h
    split at h
    · have hm : Go.Proofs.Try.prog.follows .mixedOrders = true := by kernel_rfl
      refine isoT_ok (S := fun f => Nat.beq f 6) (callF_ok (raw := rawV) (drawn_ok hm) (without_ok (S := out1) (FT.found tree tree_good)) (tab1_ok K) 3000) 6 [] hp nid out ?_ hc
      rw [← Option.some.inj h]
      exact known_val
    · cases h
  · cases h
noncomputable def rawN : Raw := ⟨fun _ => false, fun _ _ _ _ => none⟩
noncomputable def tabN : FuncId → List D → List Blk → Nat → Option Out := orCl (oneCl 6 knownR) (orCl (seeT 14 wideR) (callF tree.find rawN 500))
theorem tabN_ok (K : Cust) : ClOK K Go.Proofs.Try.prog tabN := by
  have hm : Go.Proofs.Try.prog.follows .mixedOrders = true := by kernel_rfl
  exact ClOK.or (knownR_ok K) (ClOK.or (wideR_ok K _ hm cf_14) (callF_ok (drawn_ok hm) (FT.found tree tree_good) (fun _ _ _ _ _ h => by cases h) 500))
theorem nothing_aw (kd : Int) (nm ps lb ot tx : ByteArray) (dy nu ve : Int) (K : Cust) (w : World) :
    AW tabN (LoopA K Go.Proofs.Try.prog w [.fresh] [.dead]) af_4.body (startF af_4 [.agg (opD kd nm ps lb ot tx dy nu ve)] [.dead]) (EndP false 0 af_4 fun o => o = ⟨none, .val (.bool true), [], []⟩) := by
  refine aw_reg0 (aw_assoc (aw_reg0 ?_))
  refine aw_ifs (wideB nm ps lb ot tx) (fun h1 => ?_) (fun h1 => ?_)
  · exact aw_assoc (aw_reg0 (aw_rets (endO_p _ rfl (by kernel_rfl))))
  refine aw_skips (aw_reg0 (aw_assoc (aw_reg0 ?_)))
  refine aw_unroll 9 (by kernel_rfl) (tabN_ok K) (unr_step ?_)
  refine aw_assoc (aw_reg0 (aw_yes (aw_skips (aw_blocks (aw_reg0 (aw_reg0 (aw_noE (aw_skip (blk_normal (seq_normal ?_))))))))))
  refine aw_end (True ∧ inRange .i64 2) ⟨trivial, ⟨by decide, by decide⟩⟩ (unr_next (unr_step ?_))
  refine aw_assoc (aw_reg0 (aw_yes (aw_skips (aw_blocks (aw_reg0 (aw_reg0 (aw_noE (aw_skip (blk_normal (seq_normal ?_))))))))))
  refine aw_end (True ∧ inRange .i64 3) ⟨trivial, ⟨by decide, by decide⟩⟩ (unr_next (unr_step ?_))
  refine aw_assoc (aw_reg0 (aw_yes (aw_skips (aw_blocks (aw_reg0 (aw_reg0 (aw_noE (aw_skip (blk_normal (seq_normal ?_))))))))))
  refine aw_end (True ∧ inRange .i64 4) ⟨trivial, ⟨by decide, by decide⟩⟩ (unr_next (unr_step ?_))
  refine aw_assoc (aw_reg0 (aw_yes (aw_skips (aw_blocks (aw_reg0 (aw_reg0 (aw_noE (aw_skip (blk_normal (seq_normal ?_))))))))))
  refine aw_end (True ∧ inRange .i64 5) ⟨trivial, ⟨by decide, by decide⟩⟩ (unr_next (unr_step ?_))
  refine aw_assoc (aw_reg0 (aw_yes (aw_skips (aw_blocks (aw_reg0 (aw_reg0 (aw_noE (aw_skip (blk_normal (seq_normal ?_))))))))))
  refine aw_end (True ∧ inRange .i64 6) ⟨trivial, ⟨by decide, by decide⟩⟩ (unr_next (unr_step ?_))
  refine aw_assoc (aw_reg0 (aw_yes (aw_skips (aw_blocks (aw_reg0 (aw_reg0 (aw_noE (aw_skip (blk_normal (seq_normal ?_))))))))))
  refine aw_end (True ∧ inRange .i64 7) ⟨trivial, ⟨by decide, by decide⟩⟩ (unr_next (unr_step ?_))
  refine aw_assoc (aw_reg0 (aw_yes (aw_skips (aw_blocks (aw_reg0 (aw_reg0 (aw_noE (aw_skip (blk_normal (seq_normal ?_))))))))))
  refine aw_end (True ∧ inRange .i64 8) ⟨trivial, ⟨by decide, by decide⟩⟩ (unr_next (unr_step ?_))
  refine aw_assoc (aw_reg0 (aw_yes (aw_skips (aw_blocks (aw_reg0 (aw_reg0 (aw_noE (aw_skip (blk_normal (seq_normal ?_))))))))))
  refine aw_end (True ∧ inRange .i64 9) ⟨trivial, ⟨by decide, by decide⟩⟩ (unr_next (unr_step ?_))
  refine aw_assoc (aw_reg0 (aw_no (aw_exits (unr_exit (blk_exit (seq_normal ?_))))))
  exact aw_reg0 (aw_ret (endO_p _ rfl (by kernel_rfl)))
theorem nothing_alone (kd : Int) (nm ps lb ot tx : ByteArray) (dy nu ve : Int) : Alone Go.Proofs.Try.prog 4 [.agg (opD kd nm ps lb ot tx dy nu ve)] (.val (.bool true)) :=
  Alone.ofW (raw := false) (by kernel_rfl) tabN_ok cf_4 fun K w => nothing_aw kd nm ps lb ot tx dy nu ve K w
/-- the law, in every world -/
theorem nothing_any (kd : Int) (nm ps lb ot tx : ByteArray) (dy nu ve : Int) (w : World) :
    Calls Go.Proofs.Try.prog 4 #[.agg #[.int .i64 kd, .string nm, .string ps, .string lb, .string ot, .string tx, .int .i64 dy, .int .i64 nu, .int .i64 ve]] w fun e w' => e = .returned (.bool true) ∧ Below w.heap.size w w' := by
  have hk : OK noCust w [.fresh] [.dead] := by
    refine ⟨rfl, fun i b n hi => ?_, fun i j b n m hi => ?_, fun i x hx => ?_, fun _ h => h.elim, fun _ _ _ _ h => h⟩
    · cases i <;> simp at hi
    · cases i <;> simp at hi
    · cases i with
      | zero => simp at hx; subst hx; trivial
      | succ i => simp at hx
  have h := nothing_alone kd nm ps lb ot tx dy nu ve noCust w [.agg #[.int .i64 kd, .string nm, .string ps, .string lb, .string ot, .string tx, .int .i64 dy, .int .i64 nu, .int .i64 ve]] hk (by simp [RepL, Rep, opD])
  refine h.mono fun e w' he => ?_
  obtain ⟨v, rfl, ρ', hv, hE⟩ := he
  simp only [Rep] at hv
  subst hv
  refine ⟨rfl, hE.env.1, hE.env.2.1, hE.env.2.2, hE.size, fun b hb => hE.keep b hb fun i n hi => ?_⟩
  cases i <;> simp at hi
end Go.Ev
