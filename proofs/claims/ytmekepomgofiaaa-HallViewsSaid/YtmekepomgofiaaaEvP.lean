import Derived.Test.YtmekepomgofiaaaEvO
set_option linter.all false
namespace Go.Ev
section
variable {K : Cust} {P : Program} {w0 : World} {ρ0 : List Own} {hp0 : List Blk} {w : World} {ρ : List Own} {a : Act} {s s' : St} {ex : Bool} {cl : FuncId → List D → List Blk → Nat → Option Out}

theorem andP_left {p : Prop} {q : Option Prop} (h : andP p q) : p := by
  cases q with
  | none => exact h
  | some q => exact h.1
theorem andP_right {p : Prop} {q : Option Prop} (h : andP p q) : ∀ r, q = some r → r := fun r hr => by subst hr; exact h.2
theorem hideK_eq {n0 : Nat} {l : List Nat} {hp : List Blk} : hideK n0 l hp = hideL n0 l hp := by cases l <;> rfl
theorem addW_nil {base : Nat} {w : List Nat} : addW base [] w = w := rfl
theorem finS_cases {o : AOper} {nid : Nat} {out : Out} (h : finS o s nid out = some s') : (o.wrt = true ∨ calm o nid out = true) ∧ s' = ⟨andP s.p out.p, setD s.sl o.dst out.d, app out.δ s.hp ++ out.grow, s.base, addW s.base out.δ s.wr⟩ := by
  unfold finS at h
  split at h
  · rename_i h1 h2
    refine ⟨.inr ?_, ?_⟩
    · unfold calm; rw [h1, h2]; rfl
    · rw [h1, h2]
      simpa [app, addW] using h.symm
  · split at h
    · rename_i hw
      exact ⟨by simpa using hw, by simpa using h.symm⟩
    · cases h
theorem doS_cases {n0 : Nat} {o : AOper} (h : doS ex cl n0 o s = some s') : ∃ out, core ex cl s.sl (hideL n0 o.hide s.hp) (n0 + o.rank) o.op = some out ∧ (o.wrt = true ∨ calm o (n0 + o.rank) out = true) ∧
      s' = ⟨andP s.p out.p, setD s.sl o.dst out.d, app out.δ s.hp ++ out.grow, s.base, addW s.base out.δ s.wr⟩ := by
  unfold doS at h
  rw [forceN_eq, hideK_eq] at h
  unfold someS at h
  split at h
  · rename_i out ho
    exact ⟨out, ho, finS_cases h⟩
  · cases h
theorem stp_cases {n0 : Nat} {o : AOper} (h : stp ex cl n0 o s = some s') :
    (yes s.sl o.guard = some true ∧ ∃ out, core ex cl s.sl (hideL n0 o.hide s.hp) (n0 + o.rank) o.op = some out ∧ (o.wrt = true ∨ calm o (n0 + o.rank) out = true) ∧
      s' = ⟨andP s.p out.p, setD s.sl o.dst out.d, app out.δ s.hp ++ out.grow, s.base, addW s.base out.δ s.wr⟩) ∨
    (yes s.sl o.guard = some false ∧ s' = ⟨s.p, setD s.sl o.dst undefD, s.hp, s.base, s.wr⟩) := by
  unfold stp at h
  split at h
  · rename_i hg
    rw [hg]
    exact .inl ⟨rfl, doS_cases h⟩
  · rename_i g hg
    rw [hg]
    unfold ifS at h
    split at h
    · rename_i b hb
      rw [hb]
      cases b
      · exact .inr ⟨rfl, by simpa using h.symm⟩
      · exact .inl ⟨rfl, doS_cases h⟩
    · cases h
theorem stp_p {n0 : Nat} {o : AOper} (h : stp ex cl n0 o s = some s') (hp : s'.p) : s.p := by
  rcases stp_cases h with ⟨_, out, _, _, rfl⟩ | ⟨_, rfl⟩
  · exact andP_left hp
  · exact hp
theorem stps_p {n0 : Nat} : ∀ (l : List AOper) (s s' : St), stps ex cl n0 l s = some s' → s'.p → s.p
  | [], s, s', h, hp => by rw [stps_nil] at h; cases h; exact hp
  | o :: l, s, s', h, hp => by
    rw [stps_cons] at h
    split at h
    · rename_i s1 h1
      exact stp_p h1 (stps_p l s1 s' h hp)
    · cases h

theorem yes_wanted {M : World} {ops : Array Oper} {o : Oper} {b : Bool} (hs : Slots K M ρ s.sl a.tmps) (h : yes s.sl (o.guard.map fun g => ((ops[g.1]?).bind (·.dst), g.2)) = some b) : Region.wanted o (yielded ops a.tmps) = b := by
  unfold Region.wanted
  cases hg : o.guard with
  | none => rw [hg] at h; simp only [Option.map_none, yes] at h; exact Option.some.inj h
  | some g =>
    obtain ⟨j, want⟩ := g
    rw [hg] at h
    simp only [Option.map_some, yes, getG_eq] at h
    cases hd : (ops[j]?).bind (·.dst) with
    | none => rw [hd] at h; simp at h
    | some t =>
      rw [hd] at h
      simp only at h
      split at h
      · rename_i c hc
        obtain ⟨v, h1, h2⟩ := hs.2 t _ hc
        simp only [Rep] at h2
        subst h2
        have hy : yielded ops a.tmps j = some c := by
          unfold yielded
          rw [hd]
          simp [h1]
        simp only [hy]
        rw [← Option.some.inj h]
        cases c <;> cases want <;> rfl
      · rename_i ds hc
        obtain ⟨v, h1, h2⟩ := hs.2 t _ hc
        simp only [Rep] at h2
        obtain ⟨vs, rfl, _⟩ := h2
        have hy : yielded ops a.tmps j = none := by
          unfold yielded
          rw [hd]
          simp [h1]
        simp only [hy]
        rw [← Option.some.inj h]
        rfl
      · cases h

/-- what 'ao' has to do with operation 'o' -/
structure Of (P : Program) (ops : Array Oper) (o : Oper) (ao : AOper) : Prop where
  op : comp P o = some ao.op ∨ (ao.op = .emptyS ∧ ∃ k z, comp P o = some (.bslice k 0 z []))
  dst : ao.dst = o.dst
  guard : ao.guard = o.guard.map fun g => ((ops[g.1]?).bind (·.dst), g.2)

theorem comp_bslice {o : Oper} {k : Nat} {z : List D} (hc : comp P o = some (.bslice k 0 z [])) : ∃ t e parts, o.op = .buildSlice t 0 parts ∧ elemT P t = some e ∧ sizT P e = some k ∧ parts.toList = [] := by
  unfold comp at hc
  split at hc
  case h_7 =>
    rename_i t len parts ho
    split at hc
    · rename_i e he
      split at hc
      · rename_i k' z' hk hz
        split at hc
        · simp only [Option.some.injEq, AOp.bslice.injEq] at hc
          obtain ⟨rfl, rfl, _, h4⟩ := hc
          exact ⟨t, e, parts, ho, he, hk, h4⟩
        · cases hc
      · cases hc
    · cases hc
  all_goals (exfalso; revert hc)
  all_goals (repeat' split)
  all_goals (intro hc; first | cases hc | (simp at hc; done) | (unfold compCall at hc; repeat' split at hc) )
  all_goals first | cases hc | (simp at hc; done)
theorem comp_empty {a : Act} {hp : List Blk} {nid : Nat} {w : World} {ρ : List Own} {o : Oper} {k : Nat} {z : List D} (hc : comp P o = some (.bslice k 0 z [])) : Does P o a w (Res K w ρ hp nid ⟨none, .emp true, [], []⟩) := by
  obtain ⟨t, e, parts, ho, he, hk, hp0⟩ := comp_bslice hc
  have hp1 : parts = #[] := by apply Array.ext'; simpa using hp0
  subst hp1
  have hrun : (execOp a.eval o).run P w = .ok (.value (.slice (some ⟨w.heap.size, 0, none⟩) 0 0)) { w with heap := w.heap.push (Obj.cells #[] e (0, 0)) } := by
    have hlen' : ¬ (2 ^ 24 < 0) := by decide
    simp only [execOp, ho, Instr.buildSlice, Sem.run_bind, run_under (elemT_some he), Result.andThen_ok, run_size hk, gt_iff_lt, Nat.zero_mul, hlen', if_false, if_true, Sem.run_pure]
    have hf : ∀ (A : Array Value) (L : List (Nat × Value)), A = #[] → L = [] → Instr.fill (fun i => some (i * k, k)) A L = some #[] := by
      intro A L h h'
      subst h h'
      rfl
    rw [hf _ _ (by simp) (by simp)]
    simp [newRow, newObj, Sem.run]
  refine does_value hrun ⟨ρ, ?_, Eff.foreign (by simp) (fun c hcl => by rw [Array.getElem?_push_lt hcl, Array.getElem?_eq_getElem hcl]) ⟨rfl, rfl, rfl⟩⟩
  simp only [Rep]
  exact ⟨_, _, _, rfl, by simp⟩
theorem core_ok2 {a : Act} {sl : List D} {hp : List Blk} {nid : Nat} {out : Out} {w : World} {ρ : List Own} {o : Oper} {ao : AOp} (hc : comp P o = some ao ∨ (ao = .emptyS ∧ ∃ k z, comp P o = some (.bslice k 0 z []))) (hcl : ClOK K P cl) (hk : OK K w ρ hp) (hs : Slots K (mask K w ρ) ρ sl a.tmps) (hn : allocs ao = true → ρ[nid]? = some .fresh)
    (h : core ex cl sl hp nid ao = some out) (hcond : ∀ p, out.p = some p → p) : Does P o a w (Res K w ρ hp nid out) := by
  rcases hc with hc | ⟨rfl, k, z, hc⟩
  · exact core_ok hc hcl hk hs hn h hcond
  · obtain rfl := (Option.some.inj h).symm
    exact comp_empty hc
theorem core_nid {sl : List D} {hp : List Blk} {nid nid' : Nat} {ao : AOp} (h : allocs ao = false) : core ex cl sl hp nid ao = core ex cl sl hp nid' ao := by
  cases ao <;> first | rfl | (simp [allocs] at h)
theorem stp_ok {ops : Array Oper} {i n0 : Nat} {o : Oper} {ao : AOper} (hi : ops[i]? = some o) (hof : Of P ops o ao) (hcl : ClOK K P cl) (hI : Inv K w0 ρ0 hp0 w ρ a s) (hn0 : hp0.length ≤ n0) (hfr : allocs ao.op = true → ρ[n0 + ao.rank]? = some Own.fresh)
    (h : stp ex cl n0 ao s = some s') (hp : s'.p) {next : Act → World → Prop} {Q : Exit → Act → World → Prop}
    (hn : ∀ a' w' ρ', Inv K w0 ρ0 hp0 w' ρ' a' s' → (∀ j : Nat, ρ[j]? = some Own.fresh → (allocs ao.op = true → j ≠ n0 + ao.rank) → ρ'[j]? = some Own.fresh) → next a' w') : wpOp P ops Q i next a w := by
  unfold wpOp
  simp only [hi]
  rcases stp_cases h with ⟨hy, out, ho, hw, rfl⟩ | ⟨hy, rfl⟩
  · rw [hof.guard] at hy
    rw [yes_wanted hI.slots hy, if_pos rfl]
    refine .inl ?_
    cases hal : allocs ao.op with
    | true =>
      have hd := core_ok2 (nid := n0 + ao.rank) hof.op hcl (hI.okHp.less (hideL_le n0 ao.hide s.hp)) hI.slots hfr ho (andP_right hp)
      refine hd next Q fun v w' hR => ?_
      obtain ⟨ρ', h1, h2⟩ := hR
      rw [← hof.dst]
      exact hn _ _ ρ' (hI.step h1 h2 (by omega)) fun j hj hne => h2.fr j hj (hne hal)
    | false =>
      rw [core_nid (nid' := ρ.length + hp0.length) hal] at ho
      have hd := core_ok2 (nid := ρ.length + hp0.length) hof.op hcl (hI.okHp.less (hideL_le n0 ao.hide s.hp)) hI.slots (fun h => by rw [hal] at h; cases h) ho (andP_right hp)
      refine hd next Q fun v w' hR => ?_
      obtain ⟨ρ', h1, h2⟩ := hR
      rw [← hof.dst]
      exact hn _ _ ρ' (hI.step h1 h2 (by omega)) fun j hj _ => h2.fr j hj (by have := (List.getElem?_eq_some_iff.1 hj).1; omega)
  · rw [hof.guard] at hy
    rw [yes_wanted hI.slots hy, if_neg (by simp)]
    rw [← hof.dst]
    exact hn _ _ ρ hI.skip (fun j hj _ => hj)

theorem compR_of {ops : Array Oper} : ∀ (l : List Oper) (r n : Nat) (aos : List AOper), compR P ops l r = some (aos, n) →
    r ≤ n ∧ aos.length = l.length ∧ (∀ ao ∈ aos, ao.hide = [] ∧ ao.wrt = true) ∧ ∀ (j : Nat) (o : Oper) (ao : AOper), l[j]? = some o → aos[j]? = some ao → Of P ops o ao
  | [], r, n, aos, h => by
    simp only [compR] at h
    obtain ⟨rfl, rfl⟩ := some_pair h
    exact ⟨Nat.le_refl _, rfl, fun ao h => (by cases h), fun j o ao h => (by simp at h)⟩
  | o :: l, r, n, aos, h => by
    simp only [compR] at h
    split at h
    · rename_i c hc
      split at h
      · rename_i t m ht
        obtain ⟨rfl, rfl⟩ := some_pair h
        obtain ⟨g1, g2, g3, g4⟩ := compR_of l _ _ _ ht
        refine ⟨by split at g1 <;> omega, by simp [g2], fun ao hao => ?_, fun j o' ao hj ha => ?_⟩
        · rcases List.mem_cons.1 hao with rfl | hao
          · exact ⟨rfl, rfl⟩
          · exact g3 ao hao
        · cases j with
          | zero => simp at hj ha; subst hj ha; exact ⟨.inl hc, rfl, rfl⟩
          | succ j => exact g4 j o' ao (by simpa using hj) (by simpa using ha)
      · cases h
    · cases h

theorem stps_ok {ops : Array Oper} {n0 : Nat} {Q : Exit → Act → World → Prop} (hcl : ClOK K P cl) (hn0 : hp0.length ≤ n0) : ∀ (l : List Oper) (k r n : Nat) (aos : List AOper) (w : World) (ρ : List Own) (a : Act) (s s' : St),
    ops.toList.drop k = l → compR P ops l r = some (aos, n) → Inv K w0 ρ0 hp0 w ρ a s → (∀ j, r ≤ j → j < n → ρ[n0 + j]? = some Own.fresh) → stps ex cl n0 aos s = some s' → s'.p →
    (∀ a' w' ρ', Inv K w0 ρ0 hp0 w' ρ' a' s' → Q .normal a' w') → wpOps P ops Q (List.range' k l.length) a w
  | [], k, r, n, aos, w, ρ, a, s, s', _, hc, hI, _, h, _, hQ => by
    simp only [compR] at hc
    obtain ⟨rfl, rfl⟩ := some_pair hc
    rw [stps_nil] at h
    obtain rfl := Option.some.inj h
    exact hQ _ _ _ hI
  | o :: l, k, r, n, aos, w, ρ, a, s, s', hd, hc, hI, hfr, h, hp, hQ => by
    have hc0 := hc
    simp only [compR] at hc
    split at hc
    · rename_i c hcm
      split at hc
      · rename_i t m ht
        obtain ⟨rfl, rfl⟩ := some_pair hc
        rw [stps_cons] at h
        split at h
        · rename_i s1 h1
          have hi : ops[k]? = some o := by
            have := congrArg (·[0]?) hd
            simpa using this
          have hm := (compR_of _ _ _ _ ht).1
          simp only [List.length_cons, List.range'_succ]
          rw [wpOps_cons]
          refine stp_ok hi ⟨.inl hcm, rfl, rfl⟩ hcl hI hn0 (fun ha => ?_) h1 (stps_p _ _ _ h hp) fun a' w' ρ' hI' hf => ?_
          · dsimp only at ha ⊢
            rw [ha, if_pos rfl] at hm
            exact hfr r (Nat.le_refl _) (by omega)
          · refine stps_ok hcl hn0 l (k + 1) _ m t w' ρ' a' s1 s' ?_ ht hI' (fun j h1 h2 => ?_) h hp hQ
            · rw [← List.drop_drop, hd]; rfl
            · by_cases ha : allocs c = true
              · rw [if_pos ha] at h1
                exact hf _ (hfr j (by omega) h2) (fun _ => by dsimp only; omega)
              · rw [if_neg ha] at h1
                exact hf _ (hfr j (by omega) h2) (fun h => absurd h ha)
        · cases h
      · cases hc
    · cases hc
end
end Go.Ev
