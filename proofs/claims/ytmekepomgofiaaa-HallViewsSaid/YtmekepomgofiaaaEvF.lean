import Derived.Test.YtmekepomgofiaaaEvE
set_option linter.all false
namespace Go.Ev
def Res (K : Cust) (w : World) (ρ : List Own) (hp : List Blk) (nid : Nat) (out : Out) (v : Value) (w' : World) : Prop :=
  ∃ ρ', Rep K (mask K w' ρ') ρ' out.d v ∧ Eff K w ρ hp nid w' ρ' out.δ out.grow
section
variable {K : Cust} {P : Program} {o : Oper} {a : Act} {w : World} {ρ : List Own} {hp : List Blk} {sl : List D} {nid : Nat} {out : Out}

theorem quiet {v : Value} {d : D} {p : Option Prop} (hr : (execOp a.eval o).run P w = .ok (.value v) w) (hd : Rep K (mask K w ρ) ρ d v) : Does P o a w (Res K w ρ hp nid ⟨p, d, [], []⟩) :=
  does_value hr ⟨ρ, hd, Eff.no rfl⟩

theorem readsL_of {M M' : World} {ρ' : List Own} {cs : List D} {vs : Array Value} (h : RepL K M ρ cs vs.toList) (hs : Sub M M') (ho : OwnLe ρ ρ') : ReadsL K M' ρ' cs vs := fun j d hj => by
  obtain ⟨v, h1, h2⟩ := repL_get h hj
  exact ⟨v, by simpa using h1, Rep.mono hs ho _ _ h2⟩

theorem own_set_same {i : Nat} {x : Own} (h : ρ[i]? = some .fresh) : own (ρ.set i x) i = x := by
  have hi : i < ρ.length := by
    rcases Nat.lt_or_ge i ρ.length with h' | h'
    · exact h'
    · rw [List.getElem?_eq_none h'] at h; cases h
  rw [own_set hi, if_pos rfl]

/-- a new row -/
theorem new_row {vs : Array Value} {ty : TypeId} {cs : List D} {v : Value} {d : D} {p : Option Prop} (hk : OK K w ρ hp) (hn : ρ[nid]? = some .fresh)
    (hr : (execOp a.eval o).run P w = .ok (.value v) { w with heap := w.heap.push (Obj.cells vs ty (0, 0)) })
    (hd : ∀ M ρ', own ρ' nid = .live w.heap.size vs.size → Rep K M ρ' d v) (hc : RepL K (mask K w ρ) ρ cs vs.toList) :
    Does P o a w (Res K w ρ hp nid ⟨p, d, [(nid, .cells cs)], []⟩) :=
  does_value hr ⟨ρ.set nid (.live w.heap.size vs.size), hd _ _ (own_set_same hn),
    Eff.new_block rfl hn hk.lt fun hs => ⟨vs, (ty, (0, 0)), by simp, ⟨rfl, .inl rfl⟩, readsL_of hc hs (fresh_le hn)⟩⟩

theorem run_zero {t : TypeId} {i : TypeInfo} {z : Value} (h : P.info? t = some i) (hz : i.zero = some z) : (zeroValue t).run P w = .ok z w := by
  simp [zeroValue, run_info h, hz]
theorem zeroT_some {t : TypeId} {cs : List D} (h : zeroT P t = some cs) : ∃ i z, P.info? t = some i ∧ i.zero = some z ∧ cellsD (ofV z) = some cs := by
  unfold zeroT at h
  split at h
  · rename_i i hi
    split at h
    · rename_i z hz
      exact ⟨i, z, hi, hz, h⟩
    · cases h
  · cases h

theorem s_mov {x : Operand} (ho : o.op = .move x ∨ o.op = .assign x) (hs : Slots K (mask K w ρ) ρ sl a.tmps) (h : c_mov sl hp nid x = some out) : Does P o a w (Res K w ρ hp nid out) := by
  obtain rfl := (Option.some.inj h).symm
  exact quiet (v := a.eval x) (by rcases ho with ho | ho <;> simp [execOp, ho]) (evO_rep hs x)
theorem s_pick {c x y : Operand} (ho : o.op = .pick c x y) (hs : Slots K (mask K w ρ) ρ sl a.tmps) (h : c_pick sl hp nid c x y = some out) : Does P o a w (Res K w ρ hp nid out) := by
  have hc := evO_rep hs c
  unfold c_pick at h
  split at h
  · rename_i t ht
    rw [ht] at hc
    simp only [Rep] at hc
    cases t
    · obtain rfl := (Option.some.inj h).symm
      exact quiet (v := a.eval y) (by simp [execOp, ho, hc, asBool]) (evO_rep hs y)
    · obtain rfl := (Option.some.inj h).symm
      exact quiet (v := a.eval x) (by simp [execOp, ho, hc, asBool]) (evO_rep hs x)
  · cases h
theorem s_zero {t : TypeId} {cs : List D} (ho : o.op = .alloc t) (hz : zeroT P t = some cs) (hk : OK K w ρ hp) (hn : ρ[nid]? = some .fresh) (h : c_zero sl hp nid cs = some out) : Does P o a w (Res K w ρ hp nid out) := by
  obtain rfl := (Option.some.inj h).symm
  obtain ⟨i, z, h1, h2, h3⟩ := zeroT_some hz
  exact new_row (vs := z.cells) (ty := t) (v := .pointer (some ⟨w.heap.size, 0, none⟩)) hk hn
    (by simp [execOp, ho, Instr.alloc, run_zero h1 h2, newVar, newRow, newObj, Sem.run]) (fun M ρ' h => by simp only [Rep, h]) (cellsD_rep (ofV_rep K _ _ z) h3)
theorem s_box {t : TypeId} {n : Nat} {x : Operand} (ho : o.op = .box t x) (hk : OK K w ρ hp) (hs : Slots K (mask K w ρ) ρ sl a.tmps) (hn : ρ[nid]? = some .fresh) (h : c_box sl hp nid n x = some out) : Does P o a w (Res K w ρ hp nid out) := by
  unfold c_box at h
  split at h
  · rename_i cs hc
    split at h
    · obtain rfl := (Option.some.inj h).symm
      exact new_row (vs := (a.eval x).cells) (ty := t) (v := .pointer (some ⟨w.heap.size, 0, none⟩)) hk hn
        (by simp [execOp, ho, Instr.box, newVar, newRow, newObj, Sem.run]) (fun M ρ' h => by simp only [Rep, h]) (cellsD_rep (evO_rep hs x) hc)
    · cases h
  · cases h
theorem cellsAt_own {id : Nat} {cs : List D} (hk : OK K w ρ hp) (h : cellsAt hp id = some cs) : ∃ b n, own ρ id = .live b n ∧ RepB K w (mask K w ρ) ρ (.live b n) (.cells cs) := by
  unfold cellsAt at h
  rw [getG_eq] at h
  split at h
  · rename_i cs' hh
    obtain rfl := Option.some.inj h
    have hb := hk.blk id _ hh
    cases ho : own ρ id with
    | live b n => rw [ho] at hb; exact ⟨b, n, rfl, hb⟩
    | fresh => rw [ho] at hb; exact hb.elim
    | dead => rw [ho] at hb; exact hb.elim
  · cases h
theorem s_load {t : TypeId} {n : Option Nat} {x : Operand} (ho : o.op = .load t x) (ht : shapeT P t = some n) (hk : OK K w ρ hp) (hs : Slots K (mask K w ρ) ρ sl a.tmps) (h : c_load sl hp nid n x = some out) : Does P o a w (Res K w ρ hp nid out) := by
  have hx := evO_rep hs x
  unfold c_load at h
  split at h
  · rename_i id off hd
    rw [hd] at hx
    split at h
    · rename_i cs hcs
      split at h
      · rename_i d hd2
        obtain rfl := (Option.some.inj h).symm
        obtain ⟨b, n', ho1, hb⟩ := cellsAt_own hk hcs
        simp only [Rep, ho1] at hx
        obtain ⟨v, h1, h2⟩ := load_reads (own_reads hb) ht hd2
        rw [Nat.zero_add] at h1
        exact quiet (v := v) (by simp [execOp, ho, Instr.loadAt, hx, Instr.sureAddr, h1]) h2
      · cases h
    · cases h
  · rename_i cs off hd
    rw [hd] at hx
    split at h
    · rename_i d hd2
      obtain rfl := (Option.some.inj h).symm
      simp only [Rep] at hx
      obtain ⟨b, o', hx, hc⟩ := hx
      obtain ⟨v, h1, h2⟩ := load_reads (repC_reads (mask_sub K w ρ) hc) ht hd2
      exact quiet (v := v) (by simp [execOp, ho, Instr.loadAt, hx, Instr.sureAddr, h1]) h2
    · cases h
  · cases h
theorem put_get (cs new : List D) (off j : Nat) (h : off + new.length ≤ cs.length) : (put cs off new)[j]? = if off ≤ j ∧ j < off + new.length then new[j - off]? else cs[j]? := by
  unfold put
  by_cases h1 : j < off
  · rw [if_neg (by omega), List.append_assoc, List.getElem?_append_left (by simp; omega)]
    simp [List.getElem?_take, h1]
  · by_cases h2 : j < off + new.length
    · rw [if_pos ⟨by omega, h2⟩, List.getElem?_append_left (by simp; omega), List.getElem?_append_right (by simp; omega)]
      simp [Nat.min_eq_left (show off ≤ cs.length by omega)]
    · rw [if_neg (by omega), List.getElem?_append_right (by simp; omega)]
      simp only [List.length_append, List.length_take, Nat.min_eq_left (show off ≤ cs.length by omega), List.getElem?_drop]
      congr 1
      omega
theorem put_length (cs new : List D) (off : Nat) (h : off + new.length ≤ cs.length) : (put cs off new).length = cs.length := by
  unfold put
  simp
  omega
theorem readsL_put {M : World} {cs new : List D} {vs : Array Value} {xs : List Value} {off : Nat} (h : ReadsL K M ρ cs vs) (hn : RepL K M ρ new xs) (hl : off + new.length ≤ cs.length) (hv : cs.length ≤ vs.size) :
    ReadsL K M ρ (put cs off new) (storeA vs off xs) := by
  intro j d hj
  have e := repL_length hn
  rw [put_get _ _ _ _ hl] at hj
  rw [storeA_get _ _ _ _ (by omega), ← e]
  split at hj
  · rename_i hc
    rw [if_pos hc]
    exact repL_get hn hj
  · rename_i hc
    rw [if_neg hc]
    exact h j d hj
theorem readsL_size {M : World} {cs : List D} {vs : Array Value} (h : ReadsL K M ρ cs vs) : cs.length ≤ vs.size := by
  rcases Nat.eq_zero_or_pos cs.length with h0 | h0
  · omega
  · obtain ⟨x, hx, _⟩ := h (cs.length - 1) _ (List.getElem?_eq_getElem (by omega))
    have := (Array.getElem?_eq_some_iff.1 hx).1
    omega
theorem plains {M : World} : ∀ {ds : List D} {vs : List Value}, RepL K M ρ ds vs → ds.all okCell = true → ∀ v ∈ vs, plain v = true
  | [], vs, h, _, v, hv => by simp only [RepL] at h; subst h; cases hv
  | d :: ds, vs, h, ha, v, hv => by
    simp only [RepL] at h
    obtain ⟨x, r, rfl, hx, h⟩ := h
    simp only [List.all_cons, Bool.and_eq_true] at ha
    rcases List.mem_cons.1 hv with rfl | hv
    · exact okCell_plain hx ha.1
    · exact plains h ha.2 v hv

/-- cells of an own block are written -/
theorem wrote_row {id b n off : Nat} {cs new : List D} {xs : List Value} {vs : Array Value} {ty : TypeId × Nat × Nat} {v : Value} {d : D} {p : Option Prop} {nx : Next} (hk : OK K w ρ hp) (hcs : cellsAt hp id = some cs) (ho1 : own ρ id = .live b n)
    (hb : w.heap[b]? = some (Obj.cells vs ty.1 ty.2)) (hl : off + new.length ≤ cs.length)
    (hr : (execOp a.eval o).run P w = .ok nx (rowed w b (storeA vs off xs) ty)) (hnx : nx = .value v ∨ (nx = .skip ∧ v = undef)) (hv : plain v = true ∨ v = undef) (hd : ∀ M ρ', Rep K M ρ' d v) (hc : RepL K (mask K w ρ) ρ new xs) :
    Does P o a w (Res K w ρ hp nid ⟨p, d, [(id, .cells (put cs off new))], []⟩) := by
  obtain ⟨b', n', ho2, hrb⟩ := cellsAt_own hk hcs
  rw [ho1] at ho2
  cases ho2
  have he : Eff K w ρ hp nid (rowed w b (storeA vs off xs) ty) ρ [(id, .cells (put cs off new))] [] := by
    refine Eff.write (own_live ho1) (fun e => ?_) rfl hk fun hs => ?_
    · unfold cellsAt at hcs; rw [getG_eq, e] at hcs; cases hcs
    · obtain ⟨vs', ty', g1, g2, g3⟩ := hrb
      rw [hb] at g1
      simp only [Option.some.injEq, Obj.cells.injEq] at g1
      obtain ⟨rfl, e1, e2⟩ := g1
      have g4 := readsL_size g3
      refine ⟨_, ty, rowed_get (lt_of_cells hb), by rw [storeA_size, e2]; exact g2, ?_⟩
      exact (readsL_put g3 hc hl g4).mono hs (OwnLe.refl ρ)
  rcases hnx with rfl | ⟨rfl, rfl⟩
  · exact does_value hr ⟨ρ, hd _ _, he⟩
  · exact does_skip hr ⟨ρ, hd _ _, he⟩
theorem s_store {t : TypeId} {n : Nat} {x y : Operand} (ho : o.op = .store t x y) (ht : sizT P t = some n) (hk : OK K w ρ hp) (hs : Slots K (mask K w ρ) ρ sl a.tmps) (h : c_store sl hp nid n x y = some out) : Does P o a w (Res K w ρ hp nid out) := by
  have hx := evO_rep hs x
  have hy := evO_rep hs y
  unfold c_store at h
  split at h
  · rename_i id off new hd hnew
    rw [hd] at hx
    split at h
    · rename_i cs hcs
      split at h
      · rename_i hcond
        obtain ⟨hl1, hl2, hall⟩ := hcond
        obtain rfl := (Option.some.inj h).symm
        obtain ⟨b, n', ho1, hb⟩ := cellsAt_own hk hcs
        simp only [Rep, ho1] at hx
        obtain ⟨vs, ty, g1, g2, g3⟩ := hb
        have g4 := readsL_size g3
        have hc := cellsD_rep hy hnew
        have e := repL_length hc
        refine wrote_row (v := undef) (xs := (a.eval y).cells.toList) hk hcs ho1 g1 (by omega) ?_ (.inr ⟨rfl, rfl⟩) (.inr rfl) (fun M ρ' => ?_) hc
        · have hsz : ¬ ((a.eval y).cells.size ≠ n) := by simp at e; omega
          simp only [execOp, ho, Instr.storeAt, hx, Instr.sureAddr, storeVar, Sem.run_bind, Sem.run_pure, Result.andThen_ok, run_size ht, hsz, if_false]
          rw [run_storeCells _ w vs 0 g1 g2.2 (plains hc hall) (by omega)]
          simp
        · simp only [Rep]; exact ⟨[], rfl, by simp [RepL]⟩
      · cases h
    · cases h
  · cases h
end
end Go.Ev
