import Derived.Test.YtmekepomgofiaaaEvZk
set_option linter.all false
namespace Go.Ev
/-! ### Tests and ends in the form in which they are told -/
section
variable {K : Cust} {P : Program} {w0 : World} {ρ0 : List Own} {hp0 : List Blk} {s : St} {cl : FuncId → List D → List Blk → Nat → Option Out} {LP : ACode → St → (Ex → St → Prop) → Prop} {Q : Ex → St → Prop} {n0 : Nat} {k : St → Prop}
theorem aw_ifd {c : Operand} {x y : ACode} (p : Prop) [i : Decidable p] (h1 : p → AW cl LP x s Q) (h2 : ¬ p → AW cl LP y s Q) (h : evO s.sl c = .val (.bool (@decide p i)) := by kernel_rfl) : AW cl LP (.cond c x y) s Q :=
  aw_if (decide p) (fun e => h1 (of_decide_eq_true e)) (fun e => h2 (of_decide_eq_false e)) h
theorem aw_ifsd {c : Operand} {x y b : ACode} (p : Prop) [i : Decidable p] (h1 : p → AW cl LP (.seq x b) s Q) (h2 : ¬ p → AW cl LP (.seq y b) s Q) (h : evO s.sl c = .val (.bool (@decide p i)) := by kernel_rfl) : AW cl LP (.seq (.cond c x y) b) s Q :=
  aw_ifs (decide p) (fun e => h1 (of_decide_eq_true e)) (fun e => h2 (of_decide_eq_false e)) h
theorem aw_ifn {c : Operand} {x y : ACode} (p : Prop) [i : Decidable p] (h1 : ¬ p → AW cl LP x s Q) (h2 : p → AW cl LP y s Q) (h : evO s.sl c = .val (.bool (!(@decide p i))) := by kernel_rfl) : AW cl LP (.cond c x y) s Q :=
  aw_if (!decide p) (fun e => h1 (by simpa using e)) (fun e => h2 (by simpa using e)) h
theorem aw_ifsn {c : Operand} {x y b : ACode} (p : Prop) [i : Decidable p] (h1 : ¬ p → AW cl LP (.seq x b) s Q) (h2 : p → AW cl LP (.seq y b) s Q) (h : evO s.sl c = .val (.bool (!(@decide p i))) := by kernel_rfl) : AW cl LP (.seq (.cond c x y) b) s Q :=
  aw_ifs (!decide p) (fun e => h1 (by simpa using e)) (fun e => h2 (by simpa using e)) h
theorem aw_ife {c : Operand} {x y : ACode} (u v : Int) (h1 : u = v → AW cl LP x s Q) (h2 : ¬ u = v → AW cl LP y s Q) (h : evO s.sl c = .val (.bool (u == v)) := by kernel_rfl) : AW cl LP (.cond c x y) s Q :=
  aw_if (u == v) (fun e => h1 (by simpa using e)) (fun e => h2 (by simpa using e)) h
theorem aw_ifse {c : Operand} {x y b : ACode} (u v : Int) (h1 : u = v → AW cl LP (.seq x b) s Q) (h2 : ¬ u = v → AW cl LP (.seq y b) s Q) (h : evO s.sl c = .val (.bool (u == v)) := by kernel_rfl) : AW cl LP (.seq (.cond c x y) b) s Q :=
  aw_ifs (u == v) (fun e => h1 (by simpa using e)) (fun e => h2 (by simpa using e)) h
theorem aw_ifne {c : Operand} {x y : ACode} (u v : Int) (h1 : ¬ u = v → AW cl LP x s Q) (h2 : u = v → AW cl LP y s Q) (h : evO s.sl c = .val (.bool (u != v)) := by kernel_rfl) : AW cl LP (.cond c x y) s Q :=
  aw_if (u != v) (fun e => h1 (by simpa [bne] using e)) (fun e => h2 (by simpa [bne] using e)) h
theorem aw_ifsne {c : Operand} {x y b : ACode} (u v : Int) (h1 : ¬ u = v → AW cl LP (.seq x b) s Q) (h2 : u = v → AW cl LP (.seq y b) s Q) (h : evO s.sl c = .val (.bool (u != v)) := by kernel_rfl) : AW cl LP (.seq (.cond c x y) b) s Q :=
  aw_ifs (u != v) (fun e => h1 (by simpa [bne] using e)) (fun e => h2 (by simpa [bne] using e)) h
/-- a test inside a region -/
theorem awr_testd {ops : List AOper} (j i : Nat) (q : Prop) (hp : q) (p : Prop) [ip : Decidable p] (h1 : p → AWR cl n0 (ops.drop j) (put1 i (.val (.bool true)) (stS cl n0 (ops.take j) s)) k) (h2 : ¬ p → AWR cl n0 (ops.drop j) (put1 i (.val (.bool false)) (stS cl n0 (ops.take j) s)) k)
    (hs : clean s = s := by kernel_rfl) (h : (stps true cl n0 (ops.take j) s).isSome = true := by kernel_rfl) (hq : (unS (stps true cl n0 (ops.take j) s)).p = q := by kernel_rfl) (hi : getG (unS (stps true cl n0 (ops.take j) s)).sl i = some (.val (.bool (@decide p ip))) := by kernel_rfl) : AWR cl n0 ops s k :=
  awr_testq j i q hp (decide p) (fun e => h1 (of_decide_eq_true e)) (fun e => h2 (of_decide_eq_false e)) hs h hq hi
theorem awr_testn {ops : List AOper} (j i : Nat) (q : Prop) (hp : q) (p : Prop) [ip : Decidable p] (h1 : ¬ p → AWR cl n0 (ops.drop j) (put1 i (.val (.bool true)) (stS cl n0 (ops.take j) s)) k) (h2 : p → AWR cl n0 (ops.drop j) (put1 i (.val (.bool false)) (stS cl n0 (ops.take j) s)) k)
    (hs : clean s = s := by kernel_rfl) (h : (stps true cl n0 (ops.take j) s).isSome = true := by kernel_rfl) (hq : (unS (stps true cl n0 (ops.take j) s)).p = q := by kernel_rfl) (hi : getG (unS (stps true cl n0 (ops.take j) s)).sl i = some (.val (.bool (!(@decide p ip)))) := by kernel_rfl) : AWR cl n0 ops s k :=
  awr_testq j i q hp (!decide p) (fun e => h1 (by simpa using e)) (fun e => h2 (by simpa using e)) hs h hq hi
theorem awr_teste {ops : List AOper} (j i : Nat) (q : Prop) (hp : q) (u v : Int) (h1 : u = v → AWR cl n0 (ops.drop j) (put1 i (.val (.bool true)) (stS cl n0 (ops.take j) s)) k) (h2 : ¬ u = v → AWR cl n0 (ops.drop j) (put1 i (.val (.bool false)) (stS cl n0 (ops.take j) s)) k)
    (hs : clean s = s := by kernel_rfl) (h : (stps true cl n0 (ops.take j) s).isSome = true := by kernel_rfl) (hq : (unS (stps true cl n0 (ops.take j) s)).p = q := by kernel_rfl) (hi : getG (unS (stps true cl n0 (ops.take j) s)).sl i = some (.val (.bool (u == v))) := by kernel_rfl) : AWR cl n0 ops s k :=
  awr_testq j i q hp (u == v) (fun e => h1 (by simpa using e)) (fun e => h2 (by simpa using e)) hs h hq hi
theorem awr_testne {ops : List AOper} (j i : Nat) (q : Prop) (hp : q) (u v : Int) (h1 : ¬ u = v → AWR cl n0 (ops.drop j) (put1 i (.val (.bool true)) (stS cl n0 (ops.take j) s)) k) (h2 : u = v → AWR cl n0 (ops.drop j) (put1 i (.val (.bool false)) (stS cl n0 (ops.take j) s)) k)
    (hs : clean s = s := by kernel_rfl) (h : (stps true cl n0 (ops.take j) s).isSome = true := by kernel_rfl) (hq : (unS (stps true cl n0 (ops.take j) s)).p = q := by kernel_rfl) (hi : getG (unS (stps true cl n0 (ops.take j) s)).sl i = some (.val (.bool (u != v))) := by kernel_rfl) : AWR cl n0 ops s k :=
  awr_testq j i q hp (u != v) (fun e => h1 (by simpa [bne] using e)) (fun e => h2 (by simpa [bne] using e)) hs h hq hi
/-- the end of a function with one plain result -/
theorem end_d {raw : Bool} {nid : Nat} {fn : AFun} {e : Ex} {d : D} (d' : D) (h : d' = d) (he : endO raw nid fn e s = some ⟨none, d', [], []⟩ := by kernel_rfl) : EndP raw nid fn (fun o => o = ⟨none, d, [], []⟩) e s :=
  endO_p _ (by rw [h]) he
theorem end_b {raw : Bool} {nid : Nat} {fn : AFun} {e : Ex} {b : Bool} (b' : Bool) (h : b' = b) (he : endO raw nid fn e s = some ⟨none, .val (.bool b'), [], []⟩ := by kernel_rfl) : EndP raw nid fn (fun o => o = ⟨none, .val (.bool b), [], []⟩) e s :=
  endO_p _ (by rw [h]) he
theorem end_i {raw : Bool} {nid : Nat} {fn : AFun} {e : Ex} {kd : IntKind} {x : Int} (x' : Int) (h : x' = x) (he : endO raw nid fn e s = some ⟨none, .val (.int kd x'), [], []⟩ := by kernel_rfl) : EndP raw nid fn (fun o => o = ⟨none, .val (.int kd x), [], []⟩) e s :=
  endO_p _ (by rw [h]) he
/-- the slots that a code writes -/
def dstO : List AOper → List Nat
  | [] => []
  | o :: l => match o.dst with
    | some t => t :: dstO l
    | none => dstO l
def dstC : ACode → List Nat
  | .region ops _ => dstO ops
  | .seq a b => dstC a ++ dstC b
  | .cond _ a b => dstC a ++ dstC b
  | .block _ b => dstC b
  | .loop b => dstC b
  | _ => []
def inL (x : Nat) : List Nat → Bool
  | [] => false
  | y :: l => match Nat.beq x y with | true => true | false => inL x l
def lessL (a : List Nat) : List Nat → List Nat
  | [] => []
  | x :: l => match inL x a with | true => lessL a l | false => x :: lessL a l
def putL : List (Nat × D) → St → St
  | [], s => s
  | x :: l, s => putL l ⟨True, s.sl.set x.1 x.2, s.hp, s.base, s.wr⟩
def setB : List (Nat × Blk) → St → St
  | [], s => s
  | x :: l, s => setB l ⟨True, s.sl, s.hp.set x.1 x.2, s.base, s.wr⟩
/-- the state of a loop: what the body writes is forgotten, what the rounds hand on is told -/
noncomputable def lst (b : ACode) (car : List (Nat × D)) (bl : List (Nat × Blk)) (s : St) : St := putL car (setB bl (fgt (dstC b) s))
def csL : List (Nat × D) → List Nat
  | [] => []
  | x :: l => x.1 :: csL l
/-- a loop whose rounds hand on some slots -/
theorem aw_loopV {ι : Type} (hm : P.follows .mixedOrders = true) (hcl : ClOK K P cl) {b r : ACode} {j : Nat} (car : ι → List (Nat × D)) (bl : ι → List (Nat × Blk)) (μ : ι → Nat) (i : ι)
    (round : ∀ i, AW cl (LoopA K P w0 ρ0 hp0) b (lst b (car i) (bl i) s) (RoundP K w0 ρ0 hp0 (fun i => lst b (car i) (bl i) s) μ i (blkP j (seqP cl (LoopA K P w0 ρ0 hp0) r Q))))
    (he : fgt (lessL (csL (car i)) (dstC b)) s = lst b (car i) (bl i) s := by kernel_rfl) : AW cl (LoopA K P w0 ρ0 hp0) (.seq (.block j (.loop b)) r) s Q :=
  aw_loop hm hcl (lessL (csL (car i)) (dstC b)) (fun i => lst b (car i) (bl i) s) μ i round he
/-- the same, with nothing behind it -/
theorem aw_loopE {ι : Type} (hm : P.follows .mixedOrders = true) (hcl : ClOK K P cl) {b : ACode} {j : Nat} (car : ι → List (Nat × D)) (bl : ι → List (Nat × Blk)) (μ : ι → Nat) (i : ι)
    (round : ∀ i, AW cl (LoopA K P w0 ρ0 hp0) b (lst b (car i) (bl i) s) (RoundP K w0 ρ0 hp0 (fun i => lst b (car i) (bl i) s) μ i (blkP j Q)))
    (he : fgt (lessL (csL (car i)) (dstC b)) s = lst b (car i) (bl i) s := by kernel_rfl) : AW cl (LoopA K P w0 ρ0 hp0) (.block j (.loop b)) s Q := by
  refine aw_block ⟨?_⟩
  refine loop_rule (Q := blkP j Q) hm hcl (fun i => lst b (car i) (bl i) s) μ (fun i => ?_) i (he ▸ Wk.fgt _ s)
  have := (round i).out
  have e : RoundP K w0 ρ0 hp0 (fun i => lst b (car i) (bl i) s) μ i (blkP j Q) = roundP K w0 ρ0 hp0 (fun i => lst b (car i) (bl i) s) μ i (blkP j Q) := by
    funext e s
    exact propext ⟨fun h => h.out, fun h => ⟨h⟩⟩
  rw [e] at this
  exact this
end
end Go.Ev
namespace Go.Ev
section
variable {K : Cust} {P : Program} {w0 : World} {ρ0 : List Own} {hp0 : List Blk} {s s0 : St} {Q : Ex → St → Prop}
theorem round_v {ι : Type} {b : ACode} {car : ι → List (Nat × D)} {bl : ι → List (Nat × Blk)} {μ : ι → Nat} {i : ι} (j : ι) (hj : μ j < μ i) (he : fgt (lessL (csL (car j)) (dstC b)) s = lst b (car j) (bl j) s0 := by kernel_rfl) :
    RoundP K w0 ρ0 hp0 (fun i => lst b (car i) (bl i) s0) μ i Q .normal s := round_end (lessL (csL (car j)) (dstC b)) j hj he
theorem round_wk {ι : Type} {st : ι → St} {μ : ι → Nat} {i : ι} {s1 : St} (hw : Wk K w0 ρ0 hp0 s s1) (h : RoundP K w0 ρ0 hp0 st μ i Q .normal s1) : RoundP K w0 ρ0 hp0 st μ i Q .normal s := by
  obtain ⟨j, hj, hw2⟩ := h.out
  exact ⟨j, hj, hw.trans hw2⟩
/-- blocks behind the first N are dropped -/
theorem round_t {ι : Type} {b : ACode} {car : ι → List (Nat × D)} {bl : ι → List (Nat × Blk)} {μ : ι → Nat} {i : ι} (N : Nat) (q1 q2 : Prop) (h1 : q1) (h2 : q2) (h : RoundP K w0 ρ0 hp0 (fun i => lst b (car i) (bl i) s0) μ i Q .normal (trim N (fgt (lessL (csL (car i)) (dstC b)) s)))
    (e1 : needS N (fgt (lessL (csL (car i)) (dstC b)) s).sl = q1 := by kernel_rfl) (e2 : needH N (s.hp.take N) = q2 := by kernel_rfl) (hb : Nat.ble s.base N = true := by kernel_rfl) (hl : Nat.ble N (lenG s.hp) = true := by kernel_rfl) :
    RoundP K w0 ρ0 hp0 (fun i => lst b (car i) (bl i) s0) μ i Q .normal s := by
  have hl' := Nat.le_of_ble_eq_true hl
  rw [lenG_eq] at hl'
  exact round_wk ((Wk.fgt _ s).trans (Wk.trim (s := fgt _ s) (Nat.le_of_ble_eq_true hb) hl' (needS_L (e1 ▸ h1)) (e2 ▸ h2))) h
/-- block p takes the place N, what lies behind is dropped -/
theorem round_g {ι : Type} {b : ACode} {car : ι → List (Nat × D)} {bl : ι → List (Nat × Blk)} {μ : ι → Nat} {i : ι} (N p : Nat) (q1 q2 q3 : Prop) (h1 : q1) (h2 : q2) (h3 : q3) (h : RoundP K w0 ρ0 hp0 (fun i => lst b (car i) (bl i) s0) μ i Q .normal (gather N p (fgt (lessL (csL (car i)) (dstC b)) s)))
    (e1 : needR N p (fgt (lessL (csL (car i)) (dstC b)) s).sl = q1 := by kernel_rfl) (e2 : needH N (s.hp.take N) = q2 := by kernel_rfl) (e3 : needB N (s.hp.getD p .dead) = q3 := by kernel_rfl) (hb : Nat.ble s.base N = true := by kernel_rfl) (hNp : Nat.ble N p = true := by kernel_rfl) (hl : Nat.ble (p + 1) (lenG s.hp) = true := by kernel_rfl) :
    RoundP K w0 ρ0 hp0 (fun i => lst b (car i) (bl i) s0) μ i Q .normal s := by
  have hl' := Nat.le_of_ble_eq_true hl
  rw [lenG_eq] at hl'
  exact round_wk ((Wk.fgt _ s).trans (Wk.gather (s := fgt _ s) (Nat.le_of_ble_eq_true hb) (Nat.le_of_ble_eq_true hNp) hl' (e1 ▸ h1) (e2 ▸ h2) (e3 ▸ h3))) h
theorem inRange_i64 {x : Int} : inRange .i64 x = (-9223372036854775808 ≤ x ∧ x ≤ 9223372036854775807) := by
  simp only [inRange, IntKind.min, IntKind.max, IntKind.signed, IntKind.bits]
  simp
end
end Go.Ev
