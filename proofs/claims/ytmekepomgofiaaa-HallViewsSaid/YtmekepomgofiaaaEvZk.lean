import Derived.Test.YtmekepomgofiaaaEvZj
set_option linter.all false
namespace Go.Ev
section
variable {K : Cust} {P : Program} {w w0 : World} {ρ ρ0 : List Own} {hp0 : List Blk} {a : Act} {s : St}
variable {cl : FuncId → List D → List Blk → Nat → Option Out} {Q : Ex → St → Prop}
/-- another telling of a new block -/
theorem Wk.reblk {id : Nat} {x' : Blk} (hb : s.base ≤ id) (hx : ∀ (w : World) (M : World) (ρ : List Own) (o : Own), RepB K w M ρ o (s.hp.getD id .dead) → RepB K w M ρ o x') : Wk K w0 ρ0 hp0 s ⟨True, s.sl, s.hp.set id x', s.base, s.wr⟩ := by
  intro w ρ a h
  have hbase := h.base
  have hblen := h.blen
  have get : ∀ j : Nat, j < s.base → (s.hp.set id x')[j]? = s.hp[j]? := fun j hj => by
    rw [List.getElem?_set, if_neg (by omega)]
  refine ⟨ρ, h.size, h.keep, h.new, h.le, by simpa using h.rlen, h.base, by simpa using h.blen, fun i hi hw => ?_, fun i h1 h2 => ?_, fun hp2 hle hk => ?_, h.fr, h.slots, h.defers, h.start, h.env⟩
  · exact (get i (by omega)).trans (h.same i hi hw)
  · obtain ⟨q1, q2, q3⟩ := h.hid i h1 h2
    have : i < hp0.length := (List.getElem?_eq_some_iff.1 h1).1
    exact ⟨(get i (by omega)).trans q1, q2, q3⟩
  · have hok := h.ok hp2 hle hk
    have hl2 : s.base = hp2.length := by rw [hbase]; exact hle.1
    refine ⟨?_, hok.lt, hok.inj, fun i x hxx => ?_, hok.hid, hok.apart⟩
    · have := hok.len
      unfold over at this ⊢
      simp only [List.length_append, app_length, List.length_drop, List.length_set] at this ⊢
      exact this
    · have e1 : (over ⟨True, s.sl, s.hp.set id x', s.base, s.wr⟩ hp2)[i]? = if i < s.base then (if i ∈ s.wr then (s.hp.set id x')[i]? else hp2[i]?) else (s.hp.set id x')[i]? :=
        over_get (s := ⟨True, s.sl, s.hp.set id x', s.base, s.wr⟩) (hp2 := hp2) hl2 (by simp; omega) i
      have e2 := over_get (s := s) (hp2 := hp2) hl2 (by omega) i
      rw [e1] at hxx
      by_cases hi : i < s.base
      · rw [if_pos hi, get i hi] at hxx
        rw [if_pos hi] at e2
        exact hok.blk i x (e2.trans hxx)
      · rw [if_neg hi] at hxx e2
        rw [List.getElem?_set] at hxx
        split at hxx
        · rename_i hid
          subst hid
          split at hxx
          · rename_i hlt
            simp only [Option.some.injEq] at hxx
            subst hxx
            have : s.hp[id]? = some (s.hp.getD id .dead) := by
              rw [List.getD_eq_getElem?_getD, List.getElem?_eq_getElem hlt]
              rfl
            exact hx w _ _ _ (hok.blk id _ (e2.trans this))
          · cases hxx
        · exact hok.blk i x (e2.trans hxx)
noncomputable def reb (N : Nat) (x : Blk) (s : St) : St := ⟨True, s.sl, s.hp.set N x, s.base, s.wr⟩
/-- forget, gather and tell anew -/
theorem wkGR (N p : Nat) (idx : List Nat) {s' : St} (xp x' : Blk) (q1 q2 q3 : Prop) (h1 : q1) (h2 : q2) (h3 : q3) (hx : ∀ (K : Cust) (w : World) (M : World) (ρ : List Own) (o : Own), RepB K w M ρ o xp → RepB K w M ρ o x')
    (he : reb N x' (gather N p (fgt idx s)) = s') (e1 : needR N p (fgt idx s).sl = q1) (e2 : needH N (s.hp.take N) = q2) (e3 : needB N xp = q3) (ep : getG s.hp p = some xp) (hb : Nat.ble s.base N = true) (hNp : Nat.ble N p = true) : Wk K w0 ρ0 hp0 s s' := by
  rw [getG_eq] at ep
  have hpl : p < s.hp.length := (List.getElem?_eq_some_iff.1 ep).1
  have epd : s.hp.getD p .dead = xp := by rw [List.getD_eq_getElem?_getD, ep]; rfl
  have hNp' := Nat.le_of_ble_eq_true hNp
  have hb' := Nat.le_of_ble_eq_true hb
  rw [← he]
  refine (Wk.fgt idx s).trans ((Wk.gather (s := fgt idx s) (N := N) (p := p) hb' hNp' hpl (e1 ▸ h1) (e2 ▸ h2) ?_).trans (Wk.reblk (s := gather N p (fgt idx s)) (id := N) hb' fun w M ρ o hr => hx K w M ρ o ?_))
  · show needB N (s.hp.getD p .dead)
    rw [epd, e3]
    exact h3
  · have : (gather N p (fgt idx s)).hp.getD N .dead = xp := by
      show (s.hp.take N ++ [s.hp.getD p .dead]).getD N .dead = xp
      rw [List.getD_eq_getElem?_getD, List.getElem?_append_right (by simp; omega), epd]
      have : N - (s.hp.take N).length = 0 := by simp; omega
      rw [this]
      rfl
    rw [this] at hr
    exact hr
theorem aw_loopW {ι : Type} (hm : P.follows .mixedOrders = true) (hcl : ClOK K P cl) {b r : ACode} {k : Nat} (st : ι → St) (μ : ι → Nat) (i : ι)
    (round : ∀ i, AW cl (LoopA K P w0 ρ0 hp0) b (st i) (RoundP K w0 ρ0 hp0 st μ i (blkP k (seqP cl (LoopA K P w0 ρ0 hp0) r Q))))
    (hw : Wk K w0 ρ0 hp0 s (st i)) : AW cl (LoopA K P w0 ρ0 hp0) (.seq (.block k (.loop b)) r) s Q := by
  refine aw_blocks ⟨?_⟩
  refine loop_rule (Q := blkP k (seqP cl (LoopA K P w0 ρ0 hp0) r Q)) hm hcl st μ (fun i => ?_) i hw
  have := (round i).out
  have e : RoundP K w0 ρ0 hp0 st μ i (blkP k (seqP cl (LoopA K P w0 ρ0 hp0) r Q)) = roundP K w0 ρ0 hp0 st μ i (blkP k (seqP cl (LoopA K P w0 ρ0 hp0) r Q)) := by
    funext e s
    exact propext ⟨fun h => h.out, fun h => ⟨h⟩⟩
  rw [e] at this
  exact this
theorem round_endW {ι : Type} {st : ι → St} {μ : ι → Nat} {i : ι} (j : ι) (hj : μ j < μ i) (hw : Wk K w0 ρ0 hp0 s (st j)) : RoundP K w0 ρ0 hp0 st μ i Q .normal s := ⟨j, hj, hw⟩
theorem blk_congr {m : Nat} {f g : Nat → D} (h : ∀ j, j < m → f j = g j) : ∀ (K : Cust) (w : World) (M : World) (ρ : List Own) (o : Own), RepB K w M ρ o (.arr m f) → RepB K w M ρ o (.arr m g) := fun K w M ρ o hr => by
  cases o with
  | live b n =>
    obtain ⟨vs, ty, h1, h2, h3, h4⟩ := hr
    exact ⟨vs, ty, h1, h2, h3, fun j hj => by rw [← h j hj]; exact h4 j hj⟩
  | fresh => exact hr.elim
  | dead => exact hr.elim
theorem blk_empty {f : Nat → D} : ∀ (K : Cust) (w : World) (M : World) (ρ : List Own) (o : Own), RepB K w M ρ o (.cells []) → RepB K w M ρ o (.arr 0 f) := fun K w M ρ o hr => by
  cases o with
  | live b n =>
    obtain ⟨vs, ty, h1, h2, h3⟩ := hr
    exact ⟨vs, ty, h1, h2, Nat.zero_le _, fun j hj => by omega⟩
  | fresh => exact hr.elim
  | dead => exact hr.elim
end
section
variable {s : St} {cl : FuncId → List D → List Blk → Nat → Option Out} {LP : ACode → St → (Ex → St → Prop) → Prop} {Q : Ex → St → Prop} {n0 : Nat} {k : St → Prop}
theorem awr_testq {ops : List AOper} (j i : Nat) (q : Prop) (hp : q) (t : Bool) (h1 : t = true → AWR cl n0 (ops.drop j) (put1 i (.val (.bool true)) (stS cl n0 (ops.take j) s)) k) (h2 : t = false → AWR cl n0 (ops.drop j) (put1 i (.val (.bool false)) (stS cl n0 (ops.take j) s)) k)
    (hs : clean s = s := by kernel_rfl) (h : (stps true cl n0 (ops.take j) s).isSome = true := by kernel_rfl) (hq : (unS (stps true cl n0 (ops.take j) s)).p = q := by kernel_rfl) (hi : getG (unS (stps true cl n0 (ops.take j) s)).sl i = some (.val (.bool t)) := by kernel_rfl) : AWR cl n0 ops s k := by
  have := aw_split (ops2 := ops.drop j) (k := k) i q t hp (fun e => (h1 e).out) (fun e => (h2 e).out) hs h hq hi
  rw [List.take_append_drop] at this
  exact ⟨this⟩
theorem aw_at {c : ACode} (s' : St) (h : AW cl LP c s' Q) (e : s = s' := by kernel_rfl) : AW cl LP c s Q := by rw [e]; exact h
end
end Go.Ev
