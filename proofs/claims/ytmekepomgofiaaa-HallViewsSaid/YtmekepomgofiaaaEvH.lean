import Derived.Test.YtmekepomgofiaaaEvG
set_option linter.all false
namespace Go.Ev
section
variable {K : Cust} {P : Program} {o : Oper} {a : Act} {w : World} {ρ : List Own} {hp : List Blk} {sl : List D} {nid : Nat} {out : Out}

theorem mapA {α β : Type} (f : α → β) (xs : Array α) : xs.map f = (xs.toList.map f).toArray := by
  apply Array.ext'
  simp
theorem s_un {op : UnOp} {t : TypeId} {x : Operand} (ho : o.op = .unOp op t x) (hs : Slots K (mask K w ρ) ρ sl a.tmps) (h : c_un sl hp nid op x = some out) : Does P o a w (Res K w ρ hp nid out) := by
  have hx := evO_rep hs x
  unfold c_un at h
  split at h
  · rename_i u hu
    rw [hu] at hx
    simp only [Rep] at hx
    split at h
    · rename_i v hv
      obtain rfl := (Option.some.inj h).symm
      refine quiet (v := v) ?_ (by simp [Rep])
      cases u <;> cases op <;> simp [unV] at hv <;> subst hv <;> simp [execOp, ho, hx, Op.unary, Op.intArith, Op.intBits]
    · cases h
  · cases h
theorem s_convInt {s d : TypeId} {k j : IntKind} {x : Operand} (ho : o.op = .convert s d x) (h1 : P.underlying s = some (.int j)) (h2 : P.underlying d = some (.int k)) (hs : Slots K (mask K w ρ) ρ sl a.tmps) (h : c_convInt sl hp nid k x = some out) : Does P o a w (Res K w ρ hp nid out) := by
  have hx := evO_rep hs x
  unfold c_convInt at h
  split at h
  · rename_i u n hu
    rw [hu] at hx
    simp only [Rep] at hx
    obtain rfl := (Option.some.inj h).symm
    exact quiet (v := .int k (k.wrap n)) (by simp [execOp, ho, hx, Go.convert, run_under h1, run_under h2, Conv.intToInt]) (by simp [Rep])
  · cases h
theorem s_convStr {s d : TypeId} {x : Operand} (ho : o.op = .convert s d x) (h1 : P.underlying s = some .string) (h2 : P.underlying d = some .string) (hs : Slots K (mask K w ρ) ρ sl a.tmps) (h : c_convStr sl hp nid x = some out) : Does P o a w (Res K w ρ hp nid out) := by
  have hx := evO_rep hs x
  unfold c_convStr at h
  split at h
  · rename_i u hu
    obtain rfl := (Option.some.inj h).symm
    have hx' := hx
    rw [hu] at hx'
    simp only [Rep] at hx'
    exact quiet (v := a.eval x) (by simp [execOp, ho, hx', Go.convert, run_under h1, run_under h2]) hx
  · cases h
theorem s_mkFn {f : FuncId} {x y : Array Operand} (ho : o.op = .makeFunc (.func f) x y) (hs : Slots K (mask K w ρ) ρ sl a.tmps) (h : c_mkFn sl hp nid f x.toList y.toList = some out) : Does P o a w (Res K w ρ hp nid out) := by
  obtain rfl := (Option.some.inj h).symm
  refine quiet (v := .func (.func f) (x.map a.eval) (y.map a.eval)) (by simp [execOp, ho, Instr.makeFunc]) ?_
  simp only [Rep]
  exact ⟨x.toList.map a.eval, y.toList.map a.eval, by rw [mapA, mapA], evL_rep hs _, evL_rep hs _⟩
theorem s_faddr {s : TypeId} {x : Operand} {i n : Nat} {fs : Array Field} {f : Field} (ho : o.op = .fieldAddr s x i) (hfs : fieldsT P s = some fs) (hf : fs[i]? = some f) (hn : sizT P f.type = some n) (hn0 : 0 < n) (hk : OK K w ρ hp)
    (hs : Slots K (mask K w ρ) ρ sl a.tmps) (h : c_faddr sl hp nid f.offset x = some out) : Does P o a w (Res K w ρ hp nid out) := by
  have hx := evO_rep hs x
  have hu : P.underlying s = some (.struct fs) := by
    unfold fieldsT at hfs
    split at hfs
    · rename_i fs' h'; cases hfs; exact h'
    · cases hfs
  have run : ∀ b q, a.eval x = .pointer (some ⟨b, q, none⟩) → (execOp a.eval o).run P w = .ok (.value (.pointer (some ⟨b, q + f.offset, none⟩))) w := fun b q he => by
    have hn1 : ¬ n = 0 := by omega
    simp [execOp, ho, Instr.fieldAt, run_under hu, hf, he, Instr.sureAddr, fieldPlace, run_size hn, hn1, addr_add]
  unfold c_faddr at h
  split at h
  · rename_i id off hd
    rw [hd] at hx
    rw [getG_eq] at h
    split at h
    · rename_i cs hcs
      obtain rfl := (Option.some.inj h).symm
      obtain ⟨b, n', ho1⟩ := hp_live hk hcs (by simp)
      simp only [Rep, ho1] at hx
      exact quiet (run _ _ hx) (by simp only [Rep, ho1])
    · cases h
  · rename_i cs off hd
    rw [hd] at hx
    obtain rfl := (Option.some.inj h).symm
    simp only [Rep] at hx
    obtain ⟨b, q, hx, hc⟩ := hx
    exact quiet (run _ _ hx) (by simp only [Rep]; exact ⟨b, q, by rw [Nat.add_assoc], hc⟩)
  · cases h
theorem drop_take_extract {vs : List Value} {off n : Nat} : (vs.toArray.extract off (off + n)).toList = (vs.drop off).take n := by
  simp [List.extract_eq_take_drop]
theorem repL_drop {M : World} : ∀ {ds : List D} {vs : List Value} (n : Nat), RepL K M ρ ds vs → RepL K M ρ (ds.drop n) (vs.drop n)
  | ds, vs, 0, h => by simpa using h
  | [], vs, n + 1, h => by simp only [RepL] at h; subst h; simp [RepL]
  | d :: ds, vs, n + 1, h => by
    simp only [RepL] at h
    obtain ⟨x, r, rfl, _, h⟩ := h
    simpa using repL_drop n h
theorem repL_take {M : World} : ∀ {ds : List D} {vs : List Value} (n : Nat), RepL K M ρ ds vs → RepL K M ρ (ds.take n) (vs.take n)
  | ds, vs, 0, h => by simp [RepL]
  | [], vs, n + 1, h => by simp only [RepL] at h; subst h; simp [RepL]
  | d :: ds, vs, n + 1, h => by
    simp only [RepL] at h
    obtain ⟨x, r, rfl, hx, h⟩ := h
    simp only [List.take_succ_cons, RepL]
    exact ⟨x, _, rfl, hx, repL_take n h⟩
theorem s_field {s : TypeId} {x : Operand} {i : Nat} {n : Option Nat} {fs : Array Field} {f : Field} (ho : o.op = .field s x i) (hfs : fieldsT P s = some fs) (hf : fs[i]? = some f) (hn : shapeT P f.type = some n)
    (hs : Slots K (mask K w ρ) ρ sl a.tmps) (h : c_field sl hp nid n f.offset x = some out) : Does P o a w (Res K w ρ hp nid out) := by
  have hx := evO_rep hs x
  have hu : P.underlying s = some (.struct fs) := by
    unfold fieldsT at hfs
    split at hfs
    · rename_i fs' h'; cases hfs; exact h'
    · cases hfs
  unfold c_field at h
  split at h
  · rename_i cs hd
    rw [hd] at hx
    simp only [Rep] at hx
    obtain ⟨vs, hx, hc⟩ := hx
    split at h
    · rename_i d hd2
      obtain rfl := (Option.some.inj h).symm
      cases n with
      | none =>
        simp only [ofCells, getG_eq] at hd2
        obtain ⟨v, g1, g2⟩ := repL_get hc hd2
        exact quiet (v := v) (by simp [execOp, ho, Instr.field, run_under hu, hf, hx, asAgg, part, run_isAgg' (shape_one hn).1, g1]) g2
      | some n =>
        simp only [ofCells, lenG_eq, takeG_eq, dropG_eq] at hd2
        split at hd2
        · obtain rfl := Option.some.inj hd2
          refine quiet (v := .agg (vs.toArray.extract f.offset (f.offset + n))) ?_ ?_
          · simp [execOp, ho, Instr.field, run_under hu, hf, hx, asAgg, part, run_isAgg' (shape_many hn).1, run_size (shape_many hn).2]
          · simp only [Rep]
            refine ⟨(vs.drop f.offset).take n, ?_, repL_take n (repL_drop _ hc)⟩
            rw [← drop_take_extract]
        · cases hd2
    · cases h
  · cases h
theorem s_iaddr {ex : Bool} {t e : TypeId} {x i : Operand} {k : Nat} (ho : o.op = .indexAddr t x i) (he : elemT P t = some e) (hk0 : sizT P e = some k) (hk : OK K w ρ hp)
    (hs : Slots K (mask K w ρ) ρ sl a.tmps) (h : c_iaddr ex sl hp nid k x i = some out) (hcond : ∀ p, out.p = some p → p) : Does P o a w (Res K w ρ hp nid out) := by
  have hx := evO_rep hs x
  have hi := evO_rep hs i
  have hu : P.underlying t = some (.slice e) := by
    unfold elemT at he
    split at he
    · rename_i e' h'; cases he; exact h'
    · cases he
  have run : ∀ b q len c kk n, a.eval x = .slice (some ⟨b, q, none⟩) len c → a.eval i = .int kk n → 0 ≤ n → n < len → (execOp a.eval o).run P w = .ok (.value (.pointer (some ⟨b, q + n.toNat * k, none⟩))) w := fun b q len c kk n h1 h2 h3 h4 => by
    simp [execOp, ho, Instr.indexAt, h1, h2, asIntOf, run_under hu, h3, h4, run_size hk0, addr_add]
  unfold c_iaddr at h
  split at h
  · rename_i id off len k' cap kk n hd1 hd2
    rw [hd1] at hx
    rw [hd2] at hi
    simp only [Rep] at hi
    split at h
    · rename_i hc
      obtain ⟨rfl, h1, h2⟩ := hc
      split at h
      · rename_i cs hcs
        obtain rfl := (Option.some.inj h).symm
        obtain ⟨b, n', ho1, hb⟩ := cellsAt_own hk hcs
        simp only [Rep, ho1] at hx
        obtain ⟨c, hx, _⟩ := hx
        exact quiet (run _ _ _ _ _ _ hx hi h1 h2) (by simp only [Rep, ho1])
      · cases h
    · cases h
  · rename_i k' len f kk n hd1 hd2
    rw [hd1] at hx
    rw [hd2] at hi
    simp only [Rep] at hi hx
    split at h
    · rename_i hc
      subst hc
      have hc : 0 ≤ n ∧ n < len ∧ ∃ p, out = ⟨p, .ref (f n.toNat) 0, [], []⟩ := by
        split at h
        · obtain rfl := (Option.some.inj h).symm
          obtain ⟨h1, h2⟩ := hcond _ rfl
          exact ⟨h1, h2, _, rfl⟩
        · split at h
          · rename_i hc
            obtain rfl := (Option.some.inj h).symm
            exact ⟨hc.1, hc.2, _, rfl⟩
          · cases h
      obtain ⟨h1, h2, p, rfl⟩ := hc
      rcases hx with ⟨_, h0⟩ | ⟨b, q, c, hx, _, hc⟩
      · omega
      · exact quiet (run _ _ _ _ _ _ hx hi h1 h2) (by simp only [Rep]; exact ⟨b, _, rfl, hc _ (by omega)⟩)
    · cases h
  · cases h
theorem s_extract {x : Operand} {i : Nat} (ho : o.op = .extract x i) (hs : Slots K (mask K w ρ) ρ sl a.tmps) (h : c_extract sl hp nid x i = some out) : Does P o a w (Res K w ρ hp nid out) := by
  have hx := evO_rep hs x
  unfold c_extract at h
  split at h
  · rename_i ds hd
    rw [hd] at hx
    simp only [Rep] at hx
    obtain ⟨vs, hx, hc⟩ := hx
    rw [getG_eq] at h
    split at h
    · rename_i d hd2
      obtain rfl := (Option.some.inj h).symm
      obtain ⟨v, g1, g2⟩ := repL_get hc hd2
      exact quiet (v := v) (by simp [execOp, ho, Instr.extract, hx, g1]) g2
    · cases h
  · cases h

/-- calls that can be made -/
def ClOK (K : Cust) (P : Program) (cl : FuncId → List D → List Blk → Nat → Option Out) : Prop :=
  ∀ f ds hp nid out, cl f ds hp nid = some out → (∀ p, out.p = some p → p) → (∀ args w, (callFunc f args).run P w = .ok (.enter f args) w) ∧
    ∀ (w : World) (ρ : List Own) (args : List Value), OK K w ρ hp → RepL K (mask K w ρ) ρ ds args → ρ[nid]? = some .fresh →
      Calls P f args.toArray w fun e w' => ∃ v, e = .returned v ∧ Res K w ρ hp nid out v w'
theorem s_call {cl : FuncId → List D → List Blk → Nat → Option Out} {c : Call} {f : FuncId} (hcl : ClOK K P cl) (ho : o.op = .call c) (hc : c.callee = .value (.func f)) (hk : OK K w ρ hp) (hn : ρ[nid]? = some .fresh)
    (hs : Slots K (mask K w ρ) ρ sl a.tmps) (h : c_call cl sl hp nid f c.args.toList = some out) (hcond : ∀ p, out.p = some p → p) : Does P o a w (Res K w ρ hp nid out) := by
  obtain ⟨h1, h2⟩ := hcl _ _ _ _ _ h hcond
  refine does_call (f := f) (args := (c.args.toList.map a.eval).toArray) ?_ (h2 w ρ _ hk (evL_rep hs _) hn)
  simp [execOp, ho, resolve, hc, Act.eval, Deferred.ofValue, invoke, h1]
  rw [mapA]
theorem s_callv {cl : FuncId → List D → List Blk → Nat → Option Out} {c : Call} {x : Operand} (hcl : ClOK K P cl) (ho : o.op = .call c) (hc : c.callee = .value x) (hk : OK K w ρ hp) (hn : ρ[nid]? = some .fresh)
    (hs : Slots K (mask K w ρ) ρ sl a.tmps) (h : c_callv cl sl hp nid x c.args.toList = some out) (hcond : ∀ p, out.p = some p → p) : Does P o a w (Res K w ρ hp nid out) := by
  have hx := evO_rep hs x
  unfold c_callv at h
  split at h
  · rename_i f ds1 ds2 hd
    rw [hd] at hx
    simp only [Rep] at hx
    obtain ⟨x1, x2, hx, r1, r2⟩ := hx
    obtain ⟨h1, h2⟩ := hcl _ _ _ _ _ h hcond
    refine does_call (f := f) (args := (x1 ++ c.args.toList.map a.eval ++ x2).toArray) ?_ (h2 w ρ _ hk (repL_append (repL_append r1 (evL_rep hs _)) r2) hn)
    simp [execOp, ho, resolve, hc, hx, Deferred.ofValue, invoke, h1]
    try rw [mapA]
    try simp
  · cases h
theorem s_len {c : Call} {x : Operand} {t : TypeId} {d : TypeDesc} {str : Bool} (ho : o.op = .call c) (hc : c.callee = .builtin .len) (hca : c.args.toList = [x]) (ht : c.argTypes[0]? = some t) (hu : P.underlying t = some d) (hd : (str = true ∧ d = .string) ∨ (str = false ∧ ∃ e, d = .slice e)) (hk : OK K w ρ hp)
    (hs : Slots K (mask K w ρ) ρ sl a.tmps) (h : c_len sl hp nid str x = some out) : Does P o a w (Res K w ρ hp nid out) := by
  have hx := evO_rep hs x
  have hca' : c.args = #[x] := by apply Array.ext'; simpa using hca
  unfold c_len at h
  have run : ∀ n : Nat, (Builtin.len_ c.argTypes o.type #[a.eval x]).run P w = .ok (.int .i64 n) w → (execOp a.eval o).run P w = .ok (.value (.int .i64 n)) w := fun n hr => by
    simp [execOp, ho, resolve, hc, invoke, Go.builtin, hca', hr]
  rcases hd with ⟨rfl, rfl⟩ | ⟨rfl, e, rfl⟩
  · split at h
    · rename_i s hd
      rw [hd] at hx
      simp only [Rep] at hx
      obtain rfl := (Option.some.inj h).symm
      exact quiet (run s.size (by simp [Builtin.len_, ht, run_under hu, hx, goInt])) (by simp [Rep, bytesOfS_length])
    all_goals first | (simp at h; done) | (split at h <;> simp at h; done)
  · have run2 : ∀ (q : Option Addr) (n c' : Nat), a.eval x = .slice q n c' → (execOp a.eval o).run P w = .ok (.value (.int .i64 n)) w := fun q n c' he =>
      run n (by simp [Builtin.len_, ht, run_under hu, he, goInt])
    split at h
    · simp at h
    · rename_i q n c' hd
      rw [hd] at hx
      simp only [Rep] at hx
      obtain rfl := (Option.some.inj h).symm
      exact quiet (run2 _ _ _ hx) (by simp [Rep])
    · rename_i id off n k' cap hd
      rw [hd] at hx
      split at h
      · rename_i cs hcs
        obtain rfl := (Option.some.inj h).symm
        obtain ⟨b, n', ho1, hb⟩ := cellsAt_own hk hcs
        simp only [Rep, ho1] at hx
        obtain ⟨c', hx, _⟩ := hx
        exact quiet (run2 _ _ _ hx) (by simp [Rep])
      · cases h
    · rename_i k' n f hd
      rw [hd] at hx
      simp only [Rep] at hx
      obtain rfl := (Option.some.inj h).symm
      rcases hx with ⟨hx, rfl⟩ | ⟨b, q, c', hx, _⟩
      · exact quiet (run2 _ _ _ hx) (by simp [Rep])
      · exact quiet (run2 _ _ _ hx) (by simp [Rep])
    · rename_i z hd
      rw [hd] at hx
      simp only [Rep] at hx
      obtain rfl := (Option.some.inj h).symm
      obtain ⟨q, q2, c', hx, _⟩ := hx
      exact quiet (run2 _ _ _ hx) (by simp [Rep])
    · cases h
end
end Go.Ev
