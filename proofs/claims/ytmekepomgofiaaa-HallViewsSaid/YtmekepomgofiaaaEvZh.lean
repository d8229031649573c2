import Derived.Test.YtmekepomgofiaaaEvZg
set_option linter.all false
namespace Go.Ev
/-! ### A function that hands back a new array of its own -/
noncomputable def flatAt (id : Nat) (s : St) : St := ⟨s.p, s.sl, s.hp.set id (flatB (s.hp.getD id .dead)), s.base, s.wr⟩
section
variable {K : Cust} {P : Program} {w w' w0 : World} {ρ ρ0 : List Own} {hp hp0 : List Blk} {nid : Nat} {a : Act} {s : St}
theorem Inv.flatAt {id : Nat} (h : Inv K w0 ρ0 hp0 w ρ a s) (hb : s.base ≤ id) : Inv K w0 ρ0 hp0 w ρ a (flatAt id s) := by
  have hbase := h.base
  have hblen := h.blen
  have get : ∀ j : Nat, j < s.base → (s.hp.set id (flatB (s.hp.getD id .dead)))[j]? = s.hp[j]? := fun j hj => by
    rw [List.getElem?_set, if_neg (by omega)]
  refine ⟨h.size, h.keep, h.new, h.le, by simpa [Go.Ev.flatAt] using h.rlen, h.base, by simpa [Go.Ev.flatAt] using h.blen, fun i hi hw => ?_, fun i h1 h2 => ?_, fun hp2 hle hk => ?_, h.fr, h.slots, h.defers, h.start, h.env⟩
  · exact (get i (by omega)).trans (h.same i hi hw)
  · obtain ⟨q1, q2, q3⟩ := h.hid i h1 h2
    have : i < hp0.length := (List.getElem?_eq_some_iff.1 h1).1
    exact ⟨(get i (by omega)).trans q1, q2, q3⟩
  · have hok := h.ok hp2 hle hk
    have hl2 : s.base = hp2.length := by rw [hbase]; exact hle.1
    refine ⟨?_, hok.lt, hok.inj, fun i x hx => ?_, hok.hid, hok.apart⟩
    · have := hok.len
      unfold over at this ⊢
      simp only [List.length_append, app_length, List.length_drop, Go.Ev.flatAt, List.length_set] at this ⊢
      exact this
    · have e1 : (over (Go.Ev.flatAt id s) hp2)[i]? = if i < s.base then (if i ∈ s.wr then (s.hp.set id (flatB (s.hp.getD id .dead)))[i]? else hp2[i]?) else (s.hp.set id (flatB (s.hp.getD id .dead)))[i]? :=
        over_get (s := Go.Ev.flatAt id s) (hp2 := hp2) hl2 (by simp [Go.Ev.flatAt]; omega) i
      have e2 := over_get (s := s) (hp2 := hp2) hl2 (by omega) i
      rw [e1] at hx
      by_cases hi : i < s.base
      · rw [if_pos hi, get i hi] at hx
        rw [if_pos hi] at e2
        exact hok.blk i x (e2.trans hx)
      · rw [if_neg hi] at hx e2
        rw [List.getElem?_set] at hx
        split at hx
        · rename_i hid
          subst hid
          split at hx
          · rename_i hlt
            simp only [Option.some.injEq] at hx
            subst hx
            have : s.hp[id]? = some (s.hp.getD id .dead) := by
              rw [List.getD_eq_getElem?_getD, List.getElem?_eq_getElem hlt]
              rfl
            exact RepB_flat.2 (hok.blk id _ (e2.trans this))
          · cases hx
        · exact hok.blk i x (e2.trans hx)
/-- the end of a function, that may hand back an array told by a function -/
structure EndA (raw : Bool) (nid : Nat) (fn : AFun) (R : Out → Prop) (e : Ex) (s : St) : Prop where
  out : exitP raw nid fn R e s ∨ ∃ id, s.base ≤ id ∧ exitP raw nid fn R e (flatAt id s)
theorem fun_okA {cl : FuncId → List D → List Blk → Nat → Option Out} (hm : P.follows .mixedOrders = true) (hcl : ClOK K P cl) {f : FuncId} {fn : AFun} (hf : compF P f = some fn) {raw : Bool} {ds : List D} {hp : List Blk} {nid : Nat} {R : Out → Prop} {w : World} {ρ : List Own} {args : List Value}
    (h : AW cl (LoopA K P w ρ hp) fn.body (startF fn ds hp) (EndA raw nid fn R)) (hk : OK K w ρ hp) (hr : RepL K (mask K w ρ) ρ ds args) (hn : ρ[nid]? = some .fresh) :
    Calls P f args.toArray w fun e w' => ∃ v out, e = .returned v ∧ R out ∧ Res K w ρ hp nid out v w' := by
  unfold compF at hf
  split at hf
  · rename_i fu hfn
    split at hf
    · rename_i c hbody
      split at hf
      · rename_i ab rs hab hrs hname
        cases hf
        refine calls_of_wp hfn hbody (wp_mono (aw_ok hm hcl c ab _ _ hab h.out w ρ _ (Inv.init hk hr)) fun x a' w' hx => ?_)
        obtain ⟨e, s', ρ', rfl, hI, hq⟩ := hx
        obtain ⟨s'', hI, hex, rds, out, hrd, hl, hR⟩ : ∃ s'', Inv K w ρ hp w' ρ' a' s'' ∧ exitP raw nid ⟨fu.ntmps, rs, ab⟩ R e s'' := by
          rcases hq.out with hq | ⟨id, hid, hq⟩
          · exact ⟨s', hI, hq⟩
          · exact ⟨_, hI.flatAt hid, hq⟩
        obtain ⟨v, hv1, hv2⟩ := results_ok (fn := fu) hI.okHp hI.slots hrs hrd
        have hres := leave_ok hI hv2 hl hn
        cases e with
        | normal => exact ⟨hI.defers, v, hv1, v, out, rfl, hR, hres⟩
        | ret => exact ⟨hI.defers, v, hv1, v, out, rfl, hR, hres⟩
        | exit i => simp [exD] at hex
      · cases hf
    · cases hf
  · cases hf
theorem frozen_vals {n0 : Nat} {ban : Option Nat} {hp : List Blk} {m : Nat} {f : Nat → D} (hv : ∀ j, j < m → ∃ v, f j = .val v) : (tabL m f).mapM (froz n0 ban hp 20) = some (tabL m f) := by
  have key : ∀ l : List D, (∀ d ∈ l, ∃ v, d = .val v) → l.mapM (froz n0 ban hp 20) = some l := by
    intro l
    induction l with
    | nil => intro _; rfl
    | cons d l ih =>
      intro h
      obtain ⟨v, rfl⟩ := h d (List.mem_cons_self ..)
      rw [List.mapM_cons, ih fun d hd => h d (List.mem_cons_of_mem _ hd)]
      rfl
  refine key _ fun d hd => ?_
  unfold tabL at hd
  obtain ⟨j, hj, rfl⟩ := List.mem_map.1 hd
  exact hv j (List.mem_range.1 hj)
theorem end_arr {nid : Nat} {fn : AFun} {R : Out → Prop} {e : Ex} {id off n k m t : Nat} {f : Nat → D} (hv : ∀ j, j < m → ∃ v, f j = .val v) (hR : R ⟨none, .sl nid off n k none, [(nid, .cells (tabL m f))], []⟩)
    (he : exD e = true) (hfr : fn.results = [.inl t]) (hr : getK s.sl t = .sl id off n k none) (hb : getG s.hp id = some (.arr m f)) (hw : s.wr = []) (hbase : Nat.ble s.base id = true) : EndA false nid fn R e s := by
  have hb' := Nat.le_of_ble_eq_true hbase
  rw [getG_eq] at hb
  have hlt := (List.getElem?_eq_some_iff.1 hb).1
  have hblk : cellsAt (flatAt id s).hp id = some (tabL m f) := by
    unfold cellsAt flatAt
    rw [getG_eq, List.getElem?_set, if_pos rfl, if_pos hlt, List.getD_eq_getElem?_getD, hb]
    rfl
  have hwr : wrote (flatAt id s) = [] := by
    unfold wrote flatAt
    simp only [hw]
    rfl
  have hres : resD (flatAt id s) fn.results = some [.sl id off n k none] := by
    rw [hfr]
    simp only [resD]
    rw [getK_eq] at hr
    show some [s.sl.getD t .any] = _
    rw [hr]
  refine ⟨.inr ⟨id, hb', he, _, _, hres, ?_, hR⟩⟩
  unfold leave
  rw [hwr]
  simp only [List.all_nil, Bool.not_true, Bool.or_false]
  have ho : ownRes (flatAt id s).base [.sl id off n k none] = some (id, off, n, k, none) := by
    unfold ownRes flatAt
    simp only
    rw [if_neg (by omega)]
  rw [ho]
  simp only [hblk, frozen_vals hv, List.nil_append]
/-- a function, alone, that hands back a new array -/
def AloneA (P : Program) (f : FuncId) (ds : List D) (n k m : Nat) (g : Nat → Value) : Prop :=
  ∀ (K : Cust) (w : World) (args : List Value), OK K w [.fresh] [.dead] → RepL K (mask K w [.fresh]) [.fresh] ds args →
    Calls P f args.toArray w fun e w' => ∃ v, e = .returned v ∧ Res K w [.fresh] [.dead] 0 ⟨none, .sl 0 0 n k none, [(0, .cells (tabL m fun j => .val (g j)))], []⟩ v w'
theorem Res.unseeA {v : Value} {n k m : Nat} {g : Nat → Value} (hk : OK K w ρ hp) (hn : ρ[nid]? = some .fresh) (h : Res K w [.fresh] [.dead] 0 ⟨none, .sl 0 0 n k none, [(0, .cells (tabL m fun j => .val (g j)))], []⟩ v w') :
    Res K w ρ hp nid ⟨none, .sl nid 0 n k none, [(nid, .arr m fun j => .val (g j))], []⟩ v w' := by
  obtain ⟨ρ1, h1, h2⟩ := h
  have hkeep : ∀ b : Nat, b < w.heap.size → w'.heap[b]? = w.heap[b]? := fun b hb => h2.keep b hb fun i n hi => by cases i <;> simp at hi
  have hok := h2.ok [.dead] (Le.refl _) hk.see
  have hb0 := hok.blk 0 (.cells (tabL m fun j => .val (g j))) (by simp [app])
  have hi : nid < ρ.length := (List.getElem?_eq_some_iff.1 hn).1
  cases ho : own ρ1 0 with
  | live b N =>
    rw [ho] at hb0
    simp only [Rep, ho] at h1
    obtain ⟨vs, ty, q1, q2, q3⟩ := hb0
    have hlive : isLive K ρ1 b := .inr ⟨0, N, own_live ho⟩
    have hbsz : w.heap.size ≤ b := by
      rcases h2.new b hlive with hl | hl
      · have := see_live.1 hl
        exact absurd this (hok.apart 0 b N (own_live ho))
      · exact hl
    refine ⟨ρ.set nid (.live b N), ?_, Eff.new_at h2.size hkeep hbsz (lt_of_cells q1) hn hk.lt ?_ h2.env⟩
    · simp only [Rep, own_set hi, if_true]
      exact h1
    · have h4 := readsL_size q3
      rw [tabL_length] at h4
      refine ⟨vs, ty, q1, q2, by omega, fun j hj => ?_⟩
      obtain ⟨x, p1, p2⟩ := q3 j _ (tabL_get.2 ⟨hj, rfl⟩)
      exact ⟨x, p1, by simpa only [Rep] using p2⟩
  | fresh => rw [ho] at hb0; exact hb0.elim
  | dead => rw [ho] at hb0; exact hb0.elim
theorem AloneA.ofW {cl : FuncId → List D → List Blk → Nat → Option Out} {f : FuncId} {fn : AFun} (hm : P.follows .mixedOrders = true) (hcl : ∀ K, ClOK K P cl) (hf : compF P f = some fn) {ds : List D} {n k m : Nat} {g : Nat → Value}
    (h : ∀ K w, AW cl (LoopA K P w [.fresh] [.dead]) fn.body (startF fn ds [.dead]) (EndA false 0 fn fun o => o = ⟨none, .sl 0 0 n k none, [(0, .cells (tabL m fun j => .val (g j)))], []⟩)) : AloneA P f ds n k m g := by
  intro K w args hk hr
  refine (fun_okA hm (hcl K) hf (h K w) hk hr rfl).mono fun e w' hx => ?_
  obtain ⟨v, o, he, rfl, hres⟩ := hx
  exact ⟨v, he, hres⟩
end
end Go.Ev
