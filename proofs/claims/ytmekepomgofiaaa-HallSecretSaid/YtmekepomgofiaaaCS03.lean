import Derived.Test.YtmekepomgofiaaaCS02
set_option linter.all false
section
namespace Go.Ev
section
variable {K : Cust} {P : Program} {o : Oper} {a : Act} {w : World} {ρ : List Own} {hp : List Blk} {sl : List D} {nid : Nat} {out : Out}

theorem mapA {α β : Type} (f : α → β) (xs : Array α) : xs.map f = (xs.toList.map f).toArray := by
  apply Array.ext'
  simp
theorem s_un {op : UnOp} {t : TypeId} {x : Operand} (ho : o.op = .unOp op t x) (hs : Slots K (mask K w ρ) ρ sl a.tmps) (h : c_un sl hp nid op x = some out) : Does P o a w (Res K w ρ hp nid out) := by
  have hx := evO_rep hs x
  unfold c_un at h
  split at h
  · rename_i u hu
    rw [hu] at hx
    simp only [Rep] at hx
    split at h
    · rename_i v hv
      obtain rfl := (Option.some.inj h).symm
      refine quiet (v := v) ?_ (by simp [Rep])
      cases u <;> cases op <;> simp [unV] at hv <;> subst hv <;> simp [execOp, ho, hx, Op.unary, Op.intArith, Op.intBits]
    · cases h
  · cases h
theorem s_convInt {s d : TypeId} {k j : IntKind} {x : Operand} (ho : o.op = .convert s d x) (h1 : P.underlying s = some (.int j)) (h2 : P.underlying d = some (.int k)) (hs : Slots K (mask K w ρ) ρ sl a.tmps) (h : c_convInt sl hp nid k x = some out) : Does P o a w (Res K w ρ hp nid out) := by
  have hx := evO_rep hs x
  unfold c_convInt at h
  split at h
  · rename_i u n hu
    rw [hu] at hx
    simp only [Rep] at hx
    obtain rfl := (Option.some.inj h).symm
    exact quiet (v := .int k (k.wrap n)) (by simp [execOp, ho, hx, Go.convert, run_under h1, run_under h2, Conv.intToInt]) (by simp [Rep])
  · cases h
theorem s_convStr {s d : TypeId} {x : Operand} (ho : o.op = .convert s d x) (h1 : P.underlying s = some .string) (h2 : P.underlying d = some .string) (hs : Slots K (mask K w ρ) ρ sl a.tmps) (h : c_convStr sl hp nid x = some out) : Does P o a w (Res K w ρ hp nid out) := by
  have hx := evO_rep hs x
  unfold c_convStr at h
  split at h
  · rename_i u hu
    obtain rfl := (Option.some.inj h).symm
    have hx' := hx
    rw [hu] at hx'
    simp only [Rep] at hx'
    exact quiet (v := a.eval x) (by simp [execOp, ho, hx', Go.convert, run_under h1, run_under h2]) hx
  · cases h
theorem s_mkFn {f : FuncId} {x y : Array Operand} (ho : o.op = .makeFunc (.func f) x y) (hs : Slots K (mask K w ρ) ρ sl a.tmps) (h : c_mkFn sl hp nid f x.toList y.toList = some out) : Does P o a w (Res K w ρ hp nid out) := by
  obtain rfl := (Option.some.inj h).symm
  refine quiet (v := .func (.func f) (x.map a.eval) (y.map a.eval)) (by simp [execOp, ho, Instr.makeFunc]) ?_
  simp only [Rep]
  exact ⟨x.toList.map a.eval, y.toList.map a.eval, by rw [mapA, mapA], evL_rep hs _, evL_rep hs _⟩
theorem s_faddr {s : TypeId} {x : Operand} {i n : Nat} {fs : Array Field} {f : Field} (ho : o.op = .fieldAddr s x i) (hfs : fieldsT P s = some fs) (hf : fs[i]? = some f) (hn : sizT P f.type = some n) (hn0 : 0 < n) (hk : OK K w ρ hp)
    (hs : Slots K (mask K w ρ) ρ sl a.tmps) (h : c_faddr sl hp nid f.offset x = some out) : Does P o a w (Res K w ρ hp nid out) := by
  have hx := evO_rep hs x
  have hu : P.underlying s = some (.struct fs) := by
    unfold fieldsT at hfs
    split at hfs
    · rename_i fs' h'; cases hfs; exact h'
    · cases hfs
  have run : ∀ b q, a.eval x = .pointer (some ⟨b, q, none⟩) → (execOp a.eval o).run P w = .ok (.value (.pointer (some ⟨b, q + f.offset, none⟩))) w := fun b q he => by
    have hn1 : ¬ n = 0 := by omega
    simp [execOp, ho, Instr.fieldAt, run_under hu, hf, he, Instr.sureAddr, fieldPlace, run_size hn, hn1, addr_add]
  unfold c_faddr at h
  split at h
  · rename_i id off hd
    rw [hd] at hx
    rw [getG_eq] at h
    split at h
    · rename_i cs hcs
      obtain rfl := (Option.some.inj h).symm
      obtain ⟨b, n', ho1⟩ := hp_live hk hcs (by simp)
      simp only [Rep, ho1] at hx
      exact quiet (run _ _ hx) (by simp only [Rep, ho1])
    · rename_i hcs
      obtain rfl := (Option.some.inj h).symm
      obtain ⟨b, n', ho1⟩ := hp_live hk hcs (by simp)
      simp only [Rep, ho1] at hx
      exact quiet (run _ _ hx) (by simp only [Rep, ho1])
    · cases h
  · rename_i cs off hd
    rw [hd] at hx
    obtain rfl := (Option.some.inj h).symm
    simp only [Rep] at hx
    obtain ⟨b, q, hx, hc⟩ := hx
    exact quiet (run _ _ hx) (by simp only [Rep]; exact ⟨b, q, by rw [Nat.add_assoc], hc⟩)
  · cases h
theorem drop_take_extract {vs : List Value} {off n : Nat} : (vs.toArray.extract off (off + n)).toList = (vs.drop off).take n := by
  simp [List.extract_eq_take_drop]
theorem repL_drop {M : World} : ∀ {ds : List D} {vs : List Value} (n : Nat), RepL K M ρ ds vs → RepL K M ρ (ds.drop n) (vs.drop n)
  | ds, vs, 0, h => by simpa using h
  | [], vs, n + 1, h => by simp only [RepL] at h; subst h; simp [RepL]
  | d :: ds, vs, n + 1, h => by
    simp only [RepL] at h
    obtain ⟨x, r, rfl, _, h⟩ := h
    simpa using repL_drop n h
theorem repL_take {M : World} : ∀ {ds : List D} {vs : List Value} (n : Nat), RepL K M ρ ds vs → RepL K M ρ (ds.take n) (vs.take n)
  | ds, vs, 0, h => by simp [RepL]
  | [], vs, n + 1, h => by simp only [RepL] at h; subst h; simp [RepL]
  | d :: ds, vs, n + 1, h => by
    simp only [RepL] at h
    obtain ⟨x, r, rfl, hx, h⟩ := h
    simp only [List.take_succ_cons, RepL]
    exact ⟨x, _, rfl, hx, repL_take n h⟩
theorem s_field {s : TypeId} {x : Operand} {i : Nat} {n : Option Nat} {fs : Array Field} {f : Field} (ho : o.op = .field s x i) (hfs : fieldsT P s = some fs) (hf : fs[i]? = some f) (hn : shapeT P f.type = some n)
    (hs : Slots K (mask K w ρ) ρ sl a.tmps) (h : c_field sl hp nid n f.offset x = some out) : Does P o a w (Res K w ρ hp nid out) := by
  have hx := evO_rep hs x
  have hu : P.underlying s = some (.struct fs) := by
    unfold fieldsT at hfs
    split at hfs
    · rename_i fs' h'; cases hfs; exact h'
    · cases hfs
  unfold c_field at h
  split at h
  · rename_i cs hd
    rw [hd] at hx
    simp only [Rep] at hx
    obtain ⟨vs, hx, hc⟩ := hx
    split at h
    · rename_i d hd2
      obtain rfl := (Option.some.inj h).symm
      cases n with
      | none =>
        simp only [ofCells, getG_eq] at hd2
        obtain ⟨v, g1, g2⟩ := repL_get hc hd2
        exact quiet (v := v) (by simp [execOp, ho, Instr.field, run_under hu, hf, hx, asAgg, part, run_isAgg' (shape_one hn).1, g1]) g2
      | some n =>
        simp only [ofCells, lenG_eq, takeG_eq, dropG_eq] at hd2
        split at hd2
        · obtain rfl := Option.some.inj hd2
          refine quiet (v := .agg (vs.toArray.extract f.offset (f.offset + n))) ?_ ?_
          · simp [execOp, ho, Instr.field, run_under hu, hf, hx, asAgg, part, run_isAgg' (shape_many hn).1, run_size (shape_many hn).2]
          · simp only [Rep]
            refine ⟨(vs.drop f.offset).take n, ?_, repL_take n (repL_drop _ hc)⟩
            rw [← drop_take_extract]
        · cases hd2
    · cases h
  · cases h
theorem s_iaddr {ex : Bool} {t e : TypeId} {x i : Operand} {k : Nat} (ho : o.op = .indexAddr t x i) (he : elemT P t = some e) (hk0 : sizT P e = some k) (hk : OK K w ρ hp)
    (hs : Slots K (mask K w ρ) ρ sl a.tmps) (h : c_iaddr ex sl hp nid k x i = some out) (hcond : ∀ p, out.p = some p → p) : Does P o a w (Res K w ρ hp nid out) := by
  have hx := evO_rep hs x
  have hi := evO_rep hs i
  have hu : P.underlying t = some (.slice e) := by
    unfold elemT at he
    split at he
    · rename_i e' h'; cases he; exact h'
    · cases he
  have run : ∀ b q len c kk n, a.eval x = .slice (some ⟨b, q, none⟩) len c → a.eval i = .int kk n → 0 ≤ n → n < len → (execOp a.eval o).run P w = .ok (.value (.pointer (some ⟨b, q + n.toNat * k, none⟩))) w := fun b q len c kk n h1 h2 h3 h4 => by
    simp [execOp, ho, Instr.indexAt, h1, h2, asIntOf, run_under hu, h3, h4, run_size hk0, addr_add]
  unfold c_iaddr at h
  split at h
  · rename_i id off len k' cap kk n hd1 hd2
    rw [hd1] at hx
    rw [hd2] at hi
    simp only [Rep] at hi
    split at h
    · rename_i hc
      obtain ⟨rfl, h1, h2⟩ := hc
      split at h
      · rename_i cs hcs
        obtain rfl := (Option.some.inj h).symm
        obtain ⟨b, n', ho1, hb⟩ := cellsAt_own hk hcs
        simp only [Rep, ho1] at hx
        obtain ⟨c, hx, _⟩ := hx
        exact quiet (run _ _ _ _ _ _ hx hi h1 h2) (by simp only [Rep, ho1])
      · cases h
    · cases h
  · rename_i k' len f kk n hd1 hd2
    rw [hd1] at hx
    rw [hd2] at hi
    simp only [Rep] at hi hx
    split at h
    · rename_i hc
      subst hc
      have hc : 0 ≤ n ∧ n < len ∧ ∃ p, out = ⟨p, .ref (f n.toNat) 0, [], []⟩ := by
        split at h
        · obtain rfl := (Option.some.inj h).symm
          obtain ⟨h1, h2⟩ := hcond _ rfl
          exact ⟨h1, h2, _, rfl⟩
        · split at h
          · rename_i hc
            obtain rfl := (Option.some.inj h).symm
            exact ⟨hc.1, hc.2, _, rfl⟩
          · cases h
      obtain ⟨h1, h2, p, rfl⟩ := hc
      rcases hx with ⟨_, h0⟩ | ⟨b, q, c, hx, _, hc⟩
      · omega
      · exact quiet (run _ _ _ _ _ _ hx hi h1 h2) (by simp only [Rep]; exact ⟨b, _, rfl, hc _ (by omega)⟩)
    · cases h
  · cases h
theorem s_extract {x : Operand} {i : Nat} (ho : o.op = .extract x i) (hs : Slots K (mask K w ρ) ρ sl a.tmps) (h : c_extract sl hp nid x i = some out) : Does P o a w (Res K w ρ hp nid out) := by
  have hx := evO_rep hs x
  unfold c_extract at h
  split at h
  · rename_i ds hd
    rw [hd] at hx
    simp only [Rep] at hx
    obtain ⟨vs, hx, hc⟩ := hx
    rw [getG_eq] at h
    split at h
    · rename_i d hd2
      obtain rfl := (Option.some.inj h).symm
      obtain ⟨v, g1, g2⟩ := repL_get hc hd2
      exact quiet (v := v) (by simp [execOp, ho, Instr.extract, hx, g1]) g2
    · cases h
  · cases h

/-- calls that can be made -/
def ClOK (K : Cust) (P : Program) (cl : FuncId → List D → List Blk → Nat → Option Out) : Prop :=
  ∀ f ds hp nid out, cl f ds hp nid = some out → (∀ p, out.p = some p → p) → (∀ args w, (callFunc f args).run P w = .ok (.enter f args) w) ∧
    ∀ (w : World) (ρ : List Own) (args : List Value), OK K w ρ hp → RepL K (mask K w ρ) ρ ds args → ρ[nid]? = some .fresh →
      Calls P f args.toArray w fun e w' => ∃ v, e = .returned v ∧ Res K w ρ hp nid out v w'
theorem s_call {cl : FuncId → List D → List Blk → Nat → Option Out} {c : Call} {f : FuncId} (hcl : ClOK K P cl) (ho : o.op = .call c) (hc : c.callee = .value (.func f)) (hk : OK K w ρ hp) (hn : ρ[nid]? = some .fresh)
    (hs : Slots K (mask K w ρ) ρ sl a.tmps) (h : c_call cl sl hp nid f c.args.toList = some out) (hcond : ∀ p, out.p = some p → p) : Does P o a w (Res K w ρ hp nid out) := by
  obtain ⟨h1, h2⟩ := hcl _ _ _ _ _ h hcond
  refine does_call (f := f) (args := (c.args.toList.map a.eval).toArray) ?_ (h2 w ρ _ hk (evL_rep hs _) hn)
  simp [execOp, ho, resolve, hc, Act.eval, Deferred.ofValue, invoke, h1]
  rw [mapA]
theorem s_callv {cl : FuncId → List D → List Blk → Nat → Option Out} {c : Call} {x : Operand} (hcl : ClOK K P cl) (ho : o.op = .call c) (hc : c.callee = .value x) (hk : OK K w ρ hp) (hn : ρ[nid]? = some .fresh)
    (hs : Slots K (mask K w ρ) ρ sl a.tmps) (h : c_callv cl sl hp nid x c.args.toList = some out) (hcond : ∀ p, out.p = some p → p) : Does P o a w (Res K w ρ hp nid out) := by
  have hx := evO_rep hs x
  unfold c_callv at h
  split at h
  · rename_i f ds1 ds2 hd
    rw [hd] at hx
    simp only [Rep] at hx
    obtain ⟨x1, x2, hx, r1, r2⟩ := hx
    obtain ⟨h1, h2⟩ := hcl _ _ _ _ _ h hcond
    refine does_call (f := f) (args := (x1 ++ c.args.toList.map a.eval ++ x2).toArray) ?_ (h2 w ρ _ hk (repL_append (repL_append r1 (evL_rep hs _)) r2) hn)
    simp [execOp, ho, resolve, hc, hx, Deferred.ofValue, invoke, h1]
    try rw [mapA]
    try simp
  · cases h
theorem s_len {c : Call} {x : Operand} {t : TypeId} {d : TypeDesc} {str : Bool} (ho : o.op = .call c) (hc : c.callee = .builtin .len) (hca : c.args.toList = [x]) (ht : c.argTypes[0]? = some t) (hu : P.underlying t = some d) (hd : (str = true ∧ d = .string) ∨ (str = false ∧ ∃ e, d = .slice e)) (hk : OK K w ρ hp)
    (hs : Slots K (mask K w ρ) ρ sl a.tmps) (h : c_len sl hp nid str x = some out) : Does P o a w (Res K w ρ hp nid out) := by
  have hx := evO_rep hs x
  have hca' : c.args = #[x] := by apply Array.ext'; simpa using hca
  unfold c_len at h
  have run : ∀ n : Nat, (Builtin.len_ c.argTypes o.type #[a.eval x]).run P w = .ok (.int .i64 n) w → (execOp a.eval o).run P w = .ok (.value (.int .i64 n)) w := fun n hr => by
    simp [execOp, ho, resolve, hc, invoke, Go.builtin, hca', hr]
  rcases hd with ⟨rfl, rfl⟩ | ⟨rfl, e, rfl⟩
  · split at h
    · rename_i s hd
      rw [hd] at hx
      simp only [Rep] at hx
      obtain rfl := (Option.some.inj h).symm
      exact quiet (run s.size (by simp [Builtin.len_, ht, run_under hu, hx, goInt])) (by simp [Rep, bytesOfS_length])
    all_goals first | (simp at h; done) | (split at h <;> simp at h; done)
  · have run2 : ∀ (q : Option Addr) (n c' : Nat), a.eval x = .slice q n c' → (execOp a.eval o).run P w = .ok (.value (.int .i64 n)) w := fun q n c' he =>
      run n (by simp [Builtin.len_, ht, run_under hu, he, goInt])
    split at h
    · simp at h
    · rename_i q n c' hd
      rw [hd] at hx
      simp only [Rep] at hx
      obtain rfl := (Option.some.inj h).symm
      exact quiet (run2 _ _ _ hx) (by simp [Rep])
    · rename_i id off n k' cap hd
      rw [hd] at hx
      split at h
      · rename_i cs hcs
        obtain rfl := (Option.some.inj h).symm
        obtain ⟨b, n', ho1, hb⟩ := cellsAt_own hk hcs
        simp only [Rep, ho1] at hx
        obtain ⟨c', hx, _⟩ := hx
        exact quiet (run2 _ _ _ hx) (by simp [Rep])
      · cases h
    · rename_i k' n f hd
      rw [hd] at hx
      simp only [Rep] at hx
      obtain rfl := (Option.some.inj h).symm
      rcases hx with ⟨hx, rfl⟩ | ⟨b, q, c', hx, _⟩
      · exact quiet (run2 _ _ _ hx) (by simp [Rep])
      · exact quiet (run2 _ _ _ hx) (by simp [Rep])
    · rename_i z hd
      rw [hd] at hx
      simp only [Rep] at hx
      obtain rfl := (Option.some.inj h).symm
      obtain ⟨q, q2, c', hx, _⟩ := hx
      exact quiet (run2 _ _ _ hx) (by simp [Rep])
    · cases h
end
end Go.Ev
end
section
namespace Go.Ev
section
variable {K : Cust} {P : Program} {o : Oper} {a : Act} {w : World} {ρ : List Own} {hp : List Blk} {sl : List D} {nid : Nat} {out : Out}

theorem repL_map {M : World} {f g : Value → Value} : True := trivial
/-- parts of a struct, at their places -/
theorem fill_rep {M : World} {place : Nat → Option (Nat × Nat)} : ∀ (parts : List (Nat × Value)) (ps : List (Nat × List D)) (cells : Array Value) (cs r : List D),
    parts.length = ps.length → (∀ (j i : Nat) (v : Value) (off : Nat) (ds : List D), parts[j]? = some (i, v) → ps[j]? = some (off, ds) → place i = some (off, ds.length) ∧ RepL K M ρ ds v.cells.toList) →
    RepL K M ρ cs cells.toList → fillD cs ps = some r → ∃ rs, Instr.fill place cells parts = some rs ∧ RepL K M ρ r rs.toList
  | [], [], cells, cs, r, _, _, hc, h => by
    simp only [fillD] at h
    obtain rfl := Option.some.inj h
    exact ⟨cells, rfl, hc⟩
  | (i, v) :: parts, (off, ds) :: ps, cells, cs, r, hl, hp, hc, h => by
    obtain ⟨h1, h2⟩ := hp 0 i v off ds (by simp) (by simp)
    simp only [fillD] at h
    split at h
    · rename_i hle
      have e1 := repL_length h2
      have e2 := repL_length hc
      have e3 : v.cells.size = ds.length := by simpa using e1.symm
      have e4 : cells.size = cs.length := by simpa using e2.symm
      have key : ∀ (vs : List Value) (n : Nat) (cells : Array Value), (vs.zipIdx n).foldl (fun cs (x : Value × Nat) => cs.setIfInBounds (off + x.2) x.1) cells = storeA cells (off + n) vs := by
        intro vs
        induction vs with
        | nil => intro n cells; rfl
        | cons x vs ih => intro n cells; simp only [List.zipIdx_cons, List.foldl_cons, storeA]; rw [ih]; rfl
      have hR : RepL K M ρ (cs.take off ++ ds ++ cs.drop (off + ds.length)) (storeA cells off v.cells.toList).toList := by
        have hpt : put cs off ds = cs.take off ++ ds ++ cs.drop (off + ds.length) := rfl
        rw [← hpt]
        refine repL_of (by rw [put_length _ _ _ (by omega)]; simp [storeA_size, e4]) fun j d hj => ?_
        have hrd : ReadsL K M ρ cs cells := fun j d hj => by
          obtain ⟨u, g1, g2⟩ := repL_get hc hj
          exact ⟨u, by simpa using g1, g2⟩
        obtain ⟨u, g1, g2⟩ := readsL_put hrd h2 (by omega) (by omega) j d hj
        exact ⟨u, by simpa using g1, g2⟩
      obtain ⟨rs, g1, g2⟩ := fill_rep parts ps _ _ r (by simpa using hl) (fun j i v off ds h1 h2 => hp (j + 1) i v off ds (by simpa using h1) (by simpa using h2)) hR h
      refine ⟨rs, ?_, g2⟩
      simp only [Instr.fill, h1]
      rw [if_neg]
      · have : v.cells.zipIdx.foldl (fun cs (x : Value × Nat) => cs.setIfInBounds (off + x.2) x.1) cells = storeA cells off v.cells.toList := by
          rw [← Array.foldl_toList]
          simpa using key v.cells.toList 0 cells
        exact (congrArg (fun z => Instr.fill place z parts) this).trans g1
      · simp
        omega
    · cases h
  | [], _ :: _, _, _, _, hl, _, _, _ => by simp at hl
  | _ :: _, [], _, _, _, hl, _, _, _ => by simp at hl

theorem compParts_get {fs : Array Field} : ∀ (parts : List (Nat × Operand)) (l : List (Nat × Nat × Operand)), compParts P fs parts = some l →
    l.length = parts.length ∧ ∀ (j i : Nat) (x : Operand), parts[j]? = some (i, x) → ∃ f n, fs[i]? = some f ∧ sizT P f.type = some n ∧ l[j]? = some (f.offset, n, x)
  | [], l, h => by
    simp only [compParts] at h
    obtain rfl := Option.some.inj h
    exact ⟨rfl, fun j i x hj => by simp at hj⟩
  | (i, x) :: parts, l, h => by
    simp only [compParts] at h
    split at h
    · rename_i f hf
      split at h
      · rename_i n r hn hr
        obtain rfl := Option.some.inj h
        obtain ⟨g1, g2⟩ := compParts_get parts r hr
        refine ⟨by simp [g1], fun j i' x' hj => ?_⟩
        cases j with
        | zero => simp at hj; obtain ⟨rfl, rfl⟩ := hj; exact ⟨f, n, hf, hn, by simp⟩
        | succ j => simpa using g2 j i' x' (by simpa using hj)
      · cases h
    · cases h
theorem partsD_get {M : World} (hs : Slots K M ρ sl a.tmps) : ∀ (l : List (Nat × Nat × Operand)) (ps : List (Nat × List D)), partsD sl l = some ps →
    ps.length = l.length ∧ ∀ (j off n : Nat) (x : Operand), l[j]? = some (off, n, x) → ∃ ds, ps[j]? = some (off, ds) ∧ ds.length = n ∧ RepL K M ρ ds (a.eval x).cells.toList
  | [], ps, h => by
    simp only [partsD] at h
    obtain rfl := Option.some.inj h
    exact ⟨rfl, fun j off n x hj => by simp at hj⟩
  | (off, n, x) :: l, ps, h => by
    simp only [partsD] at h
    split at h
    · rename_i cs r hc hr
      split at h
      · rename_i hn
        obtain rfl := Option.some.inj h
        obtain ⟨g1, g2⟩ := partsD_get hs l r hr
        refine ⟨by simp [g1], fun j off' n' x' hj => ?_⟩
        cases j with
        | zero =>
          simp at hj
          obtain ⟨rfl, rfl, rfl⟩ := hj
          exact ⟨cs, by simp, eq_of_beq hn, cellsD_rep (evO_rep hs x) hc⟩
        | succ j => simpa using g2 j off' n' x' (by simpa using hj)
      · cases h
    · cases h
theorem partsS_get {M : World} {k : Nat} (hs : Slots K M ρ sl a.tmps) : ∀ (l : List (Nat × Operand)) (ps : List (Nat × List D)), partsS sl k l = some ps →
    ps.length = l.length ∧ ∀ (j i : Nat) (x : Operand), l[j]? = some (i, x) → ∃ ds, ps[j]? = some (i * k, ds) ∧ ds.length = k ∧ RepL K M ρ ds (a.eval x).cells.toList
  | [], ps, h => by
    simp only [partsS] at h
    obtain rfl := Option.some.inj h
    exact ⟨rfl, fun j off x hj => by simp at hj⟩
  | (i, x) :: l, ps, h => by
    simp only [partsS] at h
    split at h
    · rename_i cs r hc hr
      split at h
      · rename_i hn
        obtain rfl := Option.some.inj h
        obtain ⟨g1, g2⟩ := partsS_get hs l r hr
        refine ⟨by simp [g1], fun j off' x' hj => ?_⟩
        cases j with
        | zero =>
          simp at hj
          obtain ⟨rfl, rfl⟩ := hj
          exact ⟨cs, by simp, eq_of_beq hn, cellsD_rep (evO_rep hs x) hc⟩
        | succ j => simpa using g2 j off' x' (by simpa using hj)
      · cases h
    · cases h
theorem mapM_places {fs : Array Field} (h : ∀ f ∈ fs.toList, ∃ n, sizT P f.type = some n) :
    ∃ pl : Array (Nat × Nat), (fs.mapM fun f => do pure (f.offset, ← sizeOf f.type) : Sem (Array (Nat × Nat))).run P w = .ok pl w ∧
      ∀ (i : Nat) (f : Field) (n : Nat), fs[i]? = some f → sizT P f.type = some n → pl[i]? = some (f.offset, n) := by
  have key : ∀ l : List Field, (∀ f ∈ l, ∃ n, sizT P f.type = some n) → ∃ pl : List (Nat × Nat), (l.mapM fun f => do pure (f.offset, ← sizeOf f.type) : Sem (List (Nat × Nat))).run P w = .ok pl w ∧
      ∀ (i : Nat) (f : Field) (n : Nat), l[i]? = some f → sizT P f.type = some n → pl[i]? = some (f.offset, n) := by
    intro l
    induction l with
    | nil => intro _; exact ⟨[], by simp, fun i f n hi => by simp at hi⟩
    | cons f l ih =>
      intro h
      obtain ⟨n, hn⟩ := h f (by simp)
      obtain ⟨pl, h1, h2⟩ := ih fun g hg => h g (List.mem_cons_of_mem _ hg)
      refine ⟨(f.offset, n) :: pl, ?_, fun i g m hi hm => ?_⟩
      · simp only [List.mapM_cons, Sem.run_bind, run_size hn, Result.andThen_ok, Sem.run_pure, h1]
      · cases i with
        | zero => simp at hi; subst hi; rw [hn] at hm; cases hm; simp
        | succ i => simpa using h2 i g m (by simpa using hi) hm
  obtain ⟨pl, h1, h2⟩ := key fs.toList h
  refine ⟨pl.toArray, ?_, fun i f n hi hn => by simpa using h2 i f n (by simpa using hi) hn⟩
  rw [Array.mapM_eq_mapM_toList, Sem.run_map, h1]
  rfl
theorem s_build {t : TypeId} {parts : Array (Nat × Operand)} {z : List D} {fs : Array Field} {l : List (Nat × Nat × Operand)} (ho : o.op = .build t parts) (hz : zeroT P t = some z) (hfs : fieldsT P t = some fs) (hall : ∀ f ∈ fs.toList, ∃ n, sizT P f.type = some n)
    (hl : compParts P fs parts.toList = some l) (hs : Slots K (mask K w ρ) ρ sl a.tmps) (h : c_build sl hp nid z l = some out) : Does P o a w (Res K w ρ hp nid out) := by
  have hu : P.underlying t = some (.struct fs) := by
    unfold fieldsT at hfs
    split at hfs
    · rename_i fs' h'; cases hfs; exact h'
    · cases hfs
  unfold c_build at h
  split at h
  · rename_i ps hps
    split at h
    · rename_i cs hcs
      obtain rfl := (Option.some.inj h).symm
      obtain ⟨i, zv, z1, z2, z3⟩ := zeroT_some hz
      obtain ⟨pl, m1, m2⟩ := mapM_places (w := w) hall
      obtain ⟨g1, g2⟩ := compParts_get _ _ hl
      obtain ⟨q1, q2⟩ := partsD_get hs _ _ hps
      obtain ⟨rs, f1, f2⟩ := fill_rep (K := K) (ρ := ρ) (M := mask K w ρ) (place := (pl[·]?)) (parts.toList.map fun p => (p.1, a.eval p.2)) ps zv.cells z cs (by simp [q1, g1]) (fun j i v off ds h1 h2 => by
        rw [List.getElem?_map] at h1
        cases hj : parts.toList[j]? with
        | none => rw [hj] at h1; cases h1
        | some p =>
          rw [hj] at h1
          simp at h1
          obtain ⟨rfl, rfl⟩ := h1
          obtain ⟨f, n, e1, e2, e3⟩ := g2 j p.1 p.2 hj
          obtain ⟨ds', r1, r2, r3⟩ := q2 j _ _ _ e3
          rw [h2] at r1
          simp at r1
          obtain ⟨rfl, rfl⟩ := r1
          exact ⟨by rw [r2]; exact m2 _ _ _ e1 e2, r3⟩) (cellsD_rep (ofV_rep K _ _ zv) z3) hcs
      refine quiet (v := .agg rs) ?_ (by simp only [Rep]; exact ⟨rs.toList, by simp, f2⟩)
      simp only [execOp, ho, Instr.build, Sem.run_bind, run_zero z1 z2, Result.andThen_ok, run_under hu, m1]
      have e : (parts.map fun (x : Nat × Operand) => (x.1, a.eval x.2)).toList = parts.toList.map fun p => (p.1, a.eval p.2) := by simp
      rw [e, f1]
      simp
    · cases h
  · cases h
end
end Go.Ev
end
section
namespace Go.Ev
section
variable {K : Cust} {P : Program} {o : Oper} {a : Act} {w : World} {ρ : List Own} {hp : List Blk} {sl : List D} {nid : Nat} {out : Out}

theorem rep_length (z : List D) : ∀ n, (rep n z).length = n * z.length
  | 0 => by simp [rep]
  | n + 1 => by simp [rep, rep_length z n, Nat.add_mul, Nat.add_comm]
theorem rep_get {z : List D} (hz : 0 < z.length) : ∀ (n j : Nat), j < n * z.length → (rep n z)[j]? = z[j % z.length]?
  | 0, j, h => by simp at h
  | n + 1, j, h => by
    simp only [rep]
    by_cases hj : j < z.length
    · rw [List.getElem?_append_left hj, Nat.mod_eq_of_lt hj]
    · rw [List.getElem?_append_right (by omega), rep_get hz n _ (by rw [Nat.add_mul] at h; omega)]
      congr 1
      conv => rhs; rw [show j = (j - z.length) + z.length by omega]
      simp
theorem rep_zero {M : World} {z : List D} {zc : Array Value} (hz : RepL K M ρ z zc.toList) (n : Nat) (h0 : 0 < z.length ∨ n = 0) :
    RepL K M ρ (rep n z) ((Array.range (n * z.length)).map (zc[· % zc.size]!)).toList := by
  have e := repL_length hz
  have e2 : zc.size = z.length := by simpa using e.symm
  refine repL_of (by simp [rep_length]) fun j d hj => ?_
  have hjl : j < n * z.length := by
    have := (List.getElem?_eq_some_iff.1 hj).1
    rwa [rep_length] at this
  rcases h0 with h0 | rfl
  · rw [rep_get h0 n j hjl] at hj
    obtain ⟨v, g1, g2⟩ := repL_get hz hj
    refine ⟨v, ?_, g2⟩
    have hm : j % z.length < zc.size := by rw [e2]; exact Nat.mod_lt _ h0
    have g1' : zc[j % z.length]? = some v := by simpa using g1
    rw [Array.getElem?_eq_getElem hm] at g1'
    have g3 : zc[j % z.length]! = v := (getElem!_pos zc _ hm).trans (Option.some.inj g1')
    simp [hjl, e2, g3]
  · simp at hjl
theorem fillD_length : ∀ (ps : List (Nat × List D)) (cs r : List D), fillD cs ps = some r → r.length = cs.length
  | [], cs, r, h => by simp only [fillD] at h; rw [Option.some.inj h]
  | (off, ds) :: ps, cs, r, h => by
    simp only [fillD] at h
    split at h
    · rw [fillD_length ps _ r h]
      exact put_length cs ds off (by omega)
    · cases h
theorem elemT_some {t e : TypeId} (he : elemT P t = some e) : P.underlying t = some (.slice e) := by
  unfold elemT at he
  split at he
  · rename_i e' h'; cases he; exact h'
  · cases he
theorem s_bslice {t e : TypeId} {len k : Nat} {parts : Array (Nat × Operand)} {z : List D} (ho : o.op = .buildSlice t len parts) (he : elemT P t = some e) (hsz : sizT P e = some k) (hz : zeroT P e = some z) (hk0 : 0 < k) (hlen : len * k ≤ 16777216) (hzl : z.length = k)
    (hk : OK K w ρ hp) (hn : ρ[nid]? = some .fresh) (hs : Slots K (mask K w ρ) ρ sl a.tmps) (h : c_bslice sl hp nid k len z parts.toList = some out) : Does P o a w (Res K w ρ hp nid out) := by
  unfold c_bslice at h
  split at h
  · rename_i ps hps
    split at h
    · rename_i cs hcs
      obtain rfl := (Option.some.inj h).symm
      obtain ⟨i, zv, z1, z2, z3⟩ := zeroT_some hz
      have hzr := cellsD_rep (ofV_rep K (mask K w ρ) ρ zv) z3
      obtain ⟨q1, q2⟩ := partsS_get hs _ _ hps
      have hz0 : RepL K (mask K w ρ) ρ (rep len z) ((Array.range (len * k)).map ((if len * k = 0 then #[] else zv.cells)[· % (if len * k = 0 then #[] else zv.cells).size]!)).toList := by
        by_cases h0 : len * k = 0
        · have : len = 0 := by
            rcases Nat.mul_eq_zero.1 h0 with h | h
            · exact h
            · omega
          subst this
          simp [rep, RepL]
        · rw [if_neg h0, ← hzl]
          exact rep_zero hzr len (.inl (by omega))
      obtain ⟨rs, f1, f2⟩ := fill_rep (K := K) (ρ := ρ) (M := mask K w ρ) (place := fun i => some (i * k, k)) (parts.toList.map fun p => (p.1, a.eval p.2)) ps _ (rep len z) cs (by simp [q1]) (fun j i v off ds h1 h2 => by
        rw [List.getElem?_map] at h1
        cases hj : parts.toList[j]? with
        | none => rw [hj] at h1; cases h1
        | some p =>
          rw [hj] at h1
          simp at h1
          obtain ⟨rfl, rfl⟩ := h1
          obtain ⟨ds', r1, r2, r3⟩ := q2 j _ _ hj
          rw [h2] at r1
          simp at r1
          obtain ⟨rfl, rfl⟩ := r1
          exact ⟨by rw [r2], r3⟩) hz0 hcs
      have hcl : rs.size = len * k := by
        have e1 := repL_length f2
        have e2 := fillD_length _ _ _ hcs
        rw [rep_length, hzl] at e2
        simp at e1
        omega
      refine new_row (vs := rs) (ty := e) (v := .slice (some ⟨w.heap.size, 0, none⟩) len len) hk hn ?_ (fun M ρ' h => by simp only [Rep, h]; exact ⟨len, rfl, Nat.le_refl _, by omega, by omega⟩) f2
      have hlen' : ¬ (2 ^ 24 < len * k) := by omega
      have e : (parts.map fun (x : Nat × Operand) => (x.1, a.eval x.2)).toList = parts.toList.map fun p => (p.1, a.eval p.2) := by simp
      simp only [execOp, ho, Instr.buildSlice, Sem.run_bind, run_under (elemT_some he), Result.andThen_ok, run_size hsz, gt_iff_lt, hlen', if_false]
      by_cases h0 : len * k = 0
      · rw [if_pos h0] at f1
        simp only [h0, if_true, Sem.run_pure, Result.andThen_ok, Sem.run_bind]
        rw [h0] at f1
        rw [e, f1]
        simp [newRow, newObj, Sem.run]
      · rw [if_neg h0] at f1
        simp only [h0, if_false, Sem.run_bind, run_zero z1 z2, Sem.run_pure, Result.andThen_ok]
        rw [e, f1]
        simp [newRow, newObj, Sem.run]
    · cases h
  · cases h
theorem s_mkSlice {t e : TypeId} {i : TypeInfo} {z : List D} {x y : Operand} (ho : o.op = .makeSlice t x y) (he : elemT P t = some e) (hi : P.info? e = some i) (hz : zeroT P e = some z) (hk0 : 0 < i.size) (hzl : z.length = i.size)
    (hk : OK K w ρ hp) (hn : ρ[nid]? = some .fresh) (hs : Slots K (mask K w ρ) ρ sl a.tmps) (h : c_mkSlice sl hp nid i.size i.bytes z x y = some out) : Does P o a w (Res K w ρ hp nid out) := by
  have hx := evO_rep hs x
  have hy := evO_rep hs y
  unfold c_mkSlice at h
  split at h
  · rename_i kx l ky c hdx hdy
    rw [hdx] at hx
    rw [hdy] at hy
    simp only [Rep] at hx hy
    split at h
    · rename_i hc
      obtain ⟨h1, h2, h3, h4⟩ := hc
      obtain rfl := (Option.some.inj h).symm
      obtain ⟨i', zv, z1, z2, z3⟩ := zeroT_some hz
      have hzr := cellsD_rep (ofV_rep K (mask K w ρ) ρ zv) z3
      have wl : IntKind.i64.wrap l = l := IntWalk.i64_in l (by omega)
      have wc : IntKind.i64.wrap c = c := IntWalk.i64_in c (by omega)
      have hsz : sizT P e = some i.size := by simp [sizT, hi]
      have hcn : (c.toNat : Int) = c := Int.toNat_of_nonneg (by omega)
      have hb : (i.bytes : Int) * c ≤ 16777216 := by
        have : ((i.bytes * c.toNat : Nat) : Int) ≤ ((16777216 : Nat) : Int) := Int.ofNat_le.2 h4
        rw [Int.natCast_mul, hcn] at this
        exact this
      have hrep := rep_zero hzr c.toNat (.inl (by omega))
      rw [hzl] at hrep
      refine new_row (vs := (Array.range (c.toNat * i.size)).map ((if c.toNat * i.size = 0 then #[] else zv.cells)[· % (if c.toNat * i.size = 0 then #[] else zv.cells).size]!)) (ty := e) (v := .slice (some ⟨w.heap.size, 0, none⟩) l.toNat c.toNat) hk hn ?_
        (fun M ρ' h => by simp only [Rep, h]; exact ⟨c.toNat, rfl, by omega, by simp, by simp⟩) ?_
      · have t1 : (decide (c < 0) || decide ((i.bytes : Int) * c > 2 ^ 48) || decide (l < 0) || decide (l > c)) = false := by
          simp
          omega
        have t2 : ¬ (c < 0) := by omega
        have t3 : ¬ (l < 0) := by omega
        have t4 : ¬ (l > c) := by omega
        have t5 : ¬ ((i.bytes : Int) * c > 2 ^ 48) := by omega
        have t6 : ¬ (c.toNat * i.bytes > roomBytes) := by
          rw [Nat.mul_comm]
          have : roomBytes = 2 ^ 47 := rfl
          omega
        simp only [execOp, ho, Instr.makeSlice, Sem.run_bind, run_under (elemT_some he), Result.andThen_ok, asInt, hx, hy, asIntOf, Sem.run_pure, run_info hi, wl, wc]
        rw [decide_eq_false t2, decide_eq_false t3, decide_eq_false t4, decide_eq_false t5]
        simp only [Bool.or_false, Bool.false_eq_true, if_false, Sem.run_bind, askRoom, if_neg t6, Sem.run_pure, Result.andThen_ok, run_size hsz]
        by_cases h0 : c.toNat * i.size = 0
        · simp [h0, newRow, newObj, Sem.run]
        · simp [h0, run_zero z1 z2, newRow, newObj, Sem.run]
      · by_cases h0 : c.toNat * i.size = 0
        · have hc0 : c.toNat = 0 := by
            rcases Nat.mul_eq_zero.1 h0 with h | h
            · exact h
            · omega
          rw [hc0]
          simp [rep, RepL]
        · simp only [h0, if_false]
          exact hrep
    · cases h
  · cases h
end
end Go.Ev
end
section
namespace Go.Ev
section
variable {K : Cust} {P : Program} {o : Oper} {a : Act} {w w' : World} {ρ : List Own} {hp : List Blk} {sl : List D} {nid : Nat} {out : Out}

theorem boundN_run {x : Option Operand} {dflt l y : Nat} {code : BoundsCode} (hs : Slots K (mask K w ρ) ρ sl a.tmps) (h : boundN (x.map (evO sl)) dflt = some l) (hy : l ≤ y) :
    (∃ v, x = some v ∧ (Instr.sliceBound (a.eval v) y code).run P w = .ok l w) ∨ (x = none ∧ l = dflt) := by
  cases x with
  | none => exact .inr ⟨rfl, by simpa [boundN] using h.symm⟩
  | some v =>
    refine .inl ⟨v, rfl, ?_⟩
    have hv := evO_rep hs v
    simp only [boundN, Option.map_some] at h
    split at h
    · rename_i n hn
      split at h
      · rename_i h0
        obtain rfl := Option.some.inj h
        unfold intOf at hn
        split at hn
        · rename_i k m hm
          obtain rfl := Option.some.inj hn
          rw [hm] at hv
          simp only [Rep] at hv
          have : m ≤ (y : Int) := by omega
          simp [Instr.sliceBound, hv, asIntOf, h0, this]
        · cases hn
      · cases h
    · cases h
theorem slice_run {t e : TypeId} {x : Operand} {lo hi : Option Operand} {k b q len c l h : Nat} (ho : o.op = .slice t x lo hi none) (he : elemT P t = some e) (hsz : sizT P e = some k) (hs : Slots K (mask K w ρ) ρ sl a.tmps)
    (hx : a.eval x = .slice (some ⟨b, q, none⟩) len c) (h1 : boundN (lo.map (evO sl)) 0 = some l) (h2 : boundN (hi.map (evO sl)) len = some h) (hlh : l ≤ h) (hh : h ≤ len) (hlc : len ≤ c) :
    (execOp a.eval o).run P w = .ok (.value (.slice (if c = l then some ⟨b, q, none⟩ else some ⟨b, q + l * k, none⟩) (h - l) (c - l))) w := by
  have hu := elemT_some he
  have r2 := boundN_run (P := P) (y := c) (code := .sliceAcap) hs h2 (by omega)
  have r1 := boundN_run (P := P) (y := h) (code := .sliceB) hs h1 hlh
  simp only [execOp, ho, Instr.sliceAt, run_under hu, Sem.run_bind, Result.andThen_ok, Instr.slice, hx, Instr.sliceBounds, Option.map_none, Sem.run_pure, if_true, Option.isSome_none, Bool.false_eq_true, if_false]
  rcases r2 with ⟨v2, rfl, r2⟩ | ⟨rfl, rfl⟩ <;> rcases r1 with ⟨v1, rfl, r1⟩ | ⟨rfl, rfl⟩ <;> simp only [Option.map_some, Option.map_none, Sem.run_bind, Result.andThen_ok, Sem.run_pure, run_size hsz, *] <;> simp [addr_add]
theorem slice3_run {t e : TypeId} {x m : Operand} {lo hi : Option Operand} {k b q len c h : Nat} {km : IntKind} {mn : Int} (ho : o.op = .slice t x lo hi (some m)) (he : elemT P t = some e) (hsz : sizT P e = some k) (hs : Slots K (mask K w ρ) ρ sl a.tmps)
    (hx : a.eval x = .slice (some ⟨b, q, none⟩) len c) (h1 : boundN (lo.map (evO sl)) 0 = some 0) (h2 : boundN (hi.map (evO sl)) len = some h) (hm : a.eval m = .int km mn) (hhm : (h : Int) ≤ mn) (hmc : mn ≤ c) (hsome : hi.isSome = true) :
    (execOp a.eval o).run P w = .ok (.value (.slice (some ⟨b, q, none⟩) h mn.toNat)) w := by
  have hu := elemT_some he
  have r2 := boundN_run (P := P) (y := mn.toNat) (code := .slice3B) hs h2 (by omega)
  have r1 := boundN_run (P := P) (y := h) (code := .slice3C) hs h1 (Nat.zero_le _)
  have h0 : 0 ≤ mn := by omega
  have rm : ∀ code, (Instr.sliceBound (a.eval m) c code).run P w = .ok mn.toNat w := fun code => by simp [Instr.sliceBound, hm, asIntOf, h0, hmc]
  simp only [execOp, ho, Instr.sliceAt, run_under hu, Sem.run_bind, Result.andThen_ok, Instr.slice, hx, Instr.sliceBounds, Option.map_some, rm, Sem.run_pure, if_true, Option.isSome_some]
  rcases r2 with ⟨v2, rfl, r2⟩ | ⟨rfl, _⟩
  · rcases r1 with ⟨v1, rfl, r1⟩ | ⟨rfl, _⟩ <;> simp only [Option.map_some, Option.map_none, Sem.run_bind, Result.andThen_ok, Sem.run_pure, run_size hsz, *] <;> simp [addr_add]
  · simp at hsome
theorem s_slice {t e : TypeId} {x : Operand} {lo hi mx : Option Operand} {k : Nat} (ho : o.op = .slice t x lo hi mx) (he : elemT P t = some e) (hsz : sizT P e = some k) (hk0 : 0 < k) (hk : OK K w ρ hp) (hs : Slots K (mask K w ρ) ρ sl a.tmps)
    (h : c_slice sl hp nid k x lo hi mx = some out) : Does P o a w (Res K w ρ hp nid out) := by
  have hx := evO_rep hs x
  unfold c_slice at h
  split at h
  · rename_i id off len k' cap hd
    rw [hd] at hx
    split at h
    · rename_i l hh hl1 hh1 hm1
      have hmx : mx = none := by simpa using hm1
      subst hmx
      split at h
      · rename_i cs hcs
        obtain ⟨b, n, ho1, hb⟩ := cellsAt_own hk hcs
        simp only [Rep, ho1] at hx
        obtain ⟨c, hx, hlc, hcn, hcap⟩ := hx
        split at h
        · rename_i hc
          obtain ⟨rfl, c1, c2, c3⟩ := hc
          have run := slice_run ho he hsz hs hx hl1 hh1 c1 c3 hlc
          split at h
          · rename_i hlt
            obtain rfl := (Option.some.inj h).symm
            rw [if_neg (by omega)] at run
            refine quiet run ?_
            simp only [Rep, ho1]
            refine ⟨c - l, rfl, by omega, ?_, ?_⟩
            · rw [Nat.sub_mul]
              have : l * k' ≤ c * k' := Nat.mul_le_mul_right _ (by omega)
              omega
            · cases cap with
              | none =>
                simp only [Option.map_none] at hcap ⊢
                rw [Nat.sub_mul]
                have : l * k' ≤ c * k' := Nat.mul_le_mul_right _ (by omega)
                omega
              | some c0 => simp only [Option.map_some] at hcap ⊢; omega
          · rename_i hge
            obtain rfl : l = hh := by omega
            split at h
            · rename_i hl0
              subst hl0
              obtain rfl := (Option.some.inj h).symm
              have e : (if c = 0 then some (⟨b, off, none⟩ : Addr) else some ⟨b, off + 0 * k', none⟩) = some ⟨b, off, none⟩ := by simp
              rw [e] at run
              refine quiet run ?_
              simp only [Rep, ho1]
              exact ⟨c, by simp, by omega, hcn, hcap⟩
            · obtain rfl := (Option.some.inj h).symm
              refine quiet run ?_
              simp only [Rep]
              refine ⟨b, if c = l then off else off + l * k', c - l, ?_, by simp⟩
              split <;> simp
        · cases h
      · cases h
    · rename_i hh kk mn hl1 hh1 hm1
      split at h
      · rename_i cs hcs
        obtain ⟨b, n, ho1, hb⟩ := cellsAt_own hk hcs
        simp only [Rep, ho1] at hx
        obtain ⟨c, hx, hlc, hcn, hcap⟩ := hx
        split at h
        · rename_i hc
          obtain ⟨rfl, c1, c2, c3, c4⟩ := hc
          obtain rfl := (Option.some.inj h).symm
          cases mx with
          | none => simp at hm1
          | some m =>
            simp only [Option.map_some, Option.some.injEq] at hm1
            have hm := evO_rep hs m
            rw [hm1] at hm
            simp only [Rep] at hm
            refine quiet (slice3_run ho he hsz hs hx hl1 hh1 hm c1 (by omega) c4) ?_
            simp only [Rep, ho1]
            refine ⟨mn.toNat, rfl, by omega, ?_, by simp⟩
            have : mn.toNat * k' ≤ c * k' := Nat.mul_le_mul_right _ (by omega)
            omega
        · cases h
      · cases h
    · cases h
  · rename_i k' len f hd
    rw [hd] at hx
    simp only [Rep] at hx
    split at h
    · rename_i l hh hl1 hh1 hm1
      have hmx : mx = none := by simpa using hm1
      subst hmx
      split at h
      · rename_i hc
        obtain ⟨rfl, c1, c2⟩ := hc
        split at h
        · rename_i hlt
          obtain rfl := (Option.some.inj h).symm
          rcases hx with ⟨_, h0⟩ | ⟨b, q, c, hx, hlc, hcells⟩
          · omega
          · have run := slice_run ho he hsz hs hx hl1 hh1 c1 c2 hlc
            rw [if_neg (by omega)] at run
            refine quiet run ?_
            simp only [Rep]
            refine .inr ⟨b, q + l * k', c - l, rfl, by omega, fun i hi => ?_⟩
            have := hcells (i + l) (by omega)
            rw [show q + l * k' + i * k' = q + (i + l) * k' by rw [Nat.add_mul]; omega]
            exact this
        · cases h
      · cases h
    · rename_i kk hl1 hh1 hm1
      split at h
      · rename_i hc
        obtain ⟨rfl, c1, c4⟩ := hc
        obtain rfl := (Option.some.inj h).symm
        rcases hx with ⟨_, h0⟩ | ⟨b, q, c, hx, hlc, hcells⟩
        · omega
        · cases mx with
          | none => simp at hm1
          | some m =>
            simp only [Option.map_some, Option.some.injEq] at hm1
            have hm := evO_rep hs m
            rw [hm1] at hm
            simp only [Rep] at hm
            refine quiet (slice3_run ho he hsz hs hx hl1 hh1 hm (by simp) (by omega) c4) ?_
            simp only [Rep]
            exact ⟨b, q, _, rfl, by simp⟩
      · cases h
    · cases h
  · cases h

/-- an own block goes over into another one -/
theorem Eff.shift {id b n b' n' : Nat} {x : Blk} (hi : ρ[id]? = some (Own.live b n)) (hv : hp[id]? ≠ some .dead) (hn : ρ[nid]? = some .fresh) (hk0 : OK K w ρ hp)
    (hsz : w.heap.size ≤ w'.heap.size) (hkeep : ∀ c : Nat, c < w.heap.size → c ≠ b → w'.heap[c]? = w.heap[c]?) (hb : b' = b ∨ b' = w.heap.size) (hb2 : b' < w'.heap.size)
    (hx : Sub (mask K w ρ) (mask K w' ((ρ.set id .dead).set nid (.live b' n'))) → OwnLe ρ ((ρ.set id .dead).set nid (.live b' n')) → RepB K w' (mask K w' ((ρ.set id .dead).set nid (.live b' n'))) ((ρ.set id .dead).set nid (.live b' n')) (.live b' n') x) (he : Env w w' := by exact ⟨rfl, rfl, rfl⟩) :
    Eff K w ρ hp nid w' ((ρ.set id .dead).set nid (.live b' n')) [(nid, x), (id, .dead)] [] := by
  have hil : id < ρ.length := (List.getElem?_eq_some_iff.1 hi).1
  have hnl : nid < ρ.length := (List.getElem?_eq_some_iff.1 hn).1
  have hne : id ≠ nid := fun e => by rw [e, hn] at hi; cases hi
  have hlt := hk0.lt id b n hi
  have get : ∀ j : Nat, ((ρ.set id .dead).set nid (.live b' n'))[j]? = if nid = j then some (.live b' n') else if id = j then some .dead else ρ[j]? := fun j => by
    rw [List.getElem?_set, List.getElem?_set]
    split
    · simp [hnl]
    · split
      · simp [hil]
      · rfl
  have hown : ∀ j : Nat, own ((ρ.set id .dead).set nid (.live b' n')) j = if nid = j then .live b' n' else if id = j then .dead else own ρ j := fun j => by
    unfold own
    rw [List.getD_eq_getElem?_getD, get]
    split
    · rfl
    · split
      · rfl
      · rw [List.getD_eq_getElem?_getD]
  have hnew : ∀ c, isLive K ((ρ.set id .dead).set nid (.live b' n')) c → isLive K ρ c ∨ w.heap.size ≤ c := by
    rintro c (hh | ⟨j, m, hj⟩)
    · exact .inl (.inl hh)
    rw [get] at hj
    split at hj
    · simp at hj
      rcases hb with rfl | rfl
      · exact .inl (.inr ⟨id, n, hj.1 ▸ hi⟩)
      · exact .inr (by omega)
    · split at hj
      · simp at hj
      · exact .inl (.inr ⟨j, m, hj⟩)
  have hle : OwnLe ρ ((ρ.set id .dead).set nid (.live b' n')) := fun j => by
    rw [hown]
    split
    · rename_i e
      subst e
      have : own ρ nid = .fresh := by unfold own; rw [List.getD_eq_getElem?_getD, hn]; rfl
      rw [this]; trivial
    · split
      · rename_i e
        subst e
        rw [own_some hi]
        exact .inr rfl
      · exact OwnLe.refl ρ j
  have hsub : Sub (mask K w ρ) (mask K w' ((ρ.set id .dead).set nid (.live b' n'))) := by
    intro c cs ty fr hc
    rw [mask_some] at hc ⊢
    have hcl := lt_of_cells hc.2
    refine ⟨fun hl => ?_, ?_⟩
    · rcases hnew c hl with hl | hl
      · exact hc.1 hl
      · omega
    · rw [hkeep c hcl (fun e => hc.1 (e ▸ .inr ⟨id, n, hi⟩))]; exact hc.2
  refine ⟨hsz, fun c hc hvis => hkeep c hc (fun e => hv (hvis id n (e ▸ hi))), hnew, by simp, hle, fun hp2 _ hk => ?_, fun i h1 h2 => ?_, fun i h1 h2 => by rw [get, if_neg (Ne.symm h2), if_neg (fun e => by rw [← e, hi] at h1; cases h1)]; exact h1, he⟩
  rotate_left
  · have n1 : nid ≠ i := fun e => h2 (e ▸ hn)
    have n2 : id ≠ i := fun e => hv (e ▸ h1)
    refine ⟨fun y hy => ?_, by rw [get, if_neg n1, if_neg n2]⟩
    simp only [List.mem_cons, List.not_mem_nil, or_false] at hy
    rcases hy with rfl | rfl
    · exact n1
    · exact n2
  rw [List.append_nil]
  refine ⟨by simp [app, hk.len], fun i c m h => ?_, fun i j c m m' h1 h2 => ?_, fun i y hy => ?_, fun c hc => Nat.lt_of_lt_of_le (hk.hid c hc) hsz, fun i c m h hh => ?_⟩
  rotate_right
  · rw [get] at h
    split at h
    · simp at h
      have := hk.hid c hh
      rcases hb with rfl | rfl
      · exact hk.apart id _ n hi (h.1 ▸ hh)
      · omega
    · split at h
      · simp at h
      · exact hk.apart i c m h hh
  · rw [get] at h
    split at h
    · simp at h; omega
    · split at h
      · simp at h
      · have := hk.lt i c m h; omega
  · rw [get] at h1 h2
    split at h1 <;> split at h2
    · omega
    · simp at h1
      split at h2
      · simp at h2
      · rename_i e1 e2 e3
        rcases hb with rfl | rfl
        · obtain ⟨rfl, _⟩ := h1
          exact absurd (hk.inj _ _ _ _ _ hi h2) e3
        · have := hk.lt _ _ _ h2; omega
    · simp at h2
      split at h1
      · simp at h1
      · rename_i e1 e2 e3
        rcases hb with rfl | rfl
        · obtain ⟨rfl, _⟩ := h2
          exact absurd (hk.inj _ _ _ _ _ hi h1) e3
        · have := hk.lt _ _ _ h1; omega
    · split at h1
      · simp at h1
      · split at h2
        · simp at h2
        · exact hk.inj i j c m m' h1 h2
  · simp only [app, List.foldl_cons, List.foldl_nil, List.getElem?_set] at hy
    rw [hown]
    split at hy
    · rename_i e
      subst e
      have : y = .dead := by
        split at hy
        · exact (Option.some.inj hy).symm
        · cases hy
      subst this
      split <;> trivial
    · rename_i e
      split at hy
      · rename_i e2
        rw [if_pos e2]
        have : y = x := by
          split at hy
          · exact (Option.some.inj hy).symm
          · cases hy
        rw [this]
        exact hx hsub hle
      · rename_i e2
        rw [if_neg e2, if_neg e]
        refine (hk.blk i y hy).mono hsub hle fun c m hc => hkeep c (hk.lt i c m (own_live hc)) ?_
        rintro rfl
        exact e (hk.inj _ _ _ _ _ hi (own_live hc))
end
end Go.Ev
end
