import Derived.Test.YtmekepomgofiaaaEvUt
set_option linter.all false
namespace Go.Ev
section
variable {K : Cust} {P : Program} {w0 w : World} {ρ0 ρ ρ' : List Own} {hp0 : List Blk} {a : Act} {s : St} {nid : Nat} {out : Out}

theorem sub_mask (h : ∀ b, isLive K ρ' b → isLive K ρ b) : Sub (mask K w ρ) (mask K w ρ') := fun b cs ty fr hb => by
  rw [mask_some] at *
  exact ⟨fun hl => hb.1 (h b hl), hb.2⟩
theorem own_get {ρ : List Own} {i : Nat} {o : Own} (h : ρ[i]? = some o) : own ρ i = o := by
  unfold own; rw [List.getD_eq_getElem?_getD, h]; rfl

theorem belowB_rep {n b m : Nat} {x : Blk} (hs : Sub (mask K w ρ) (mask K w ρ')) (ho : SameTo n ρ ρ') (hb : belowB n x = true) (h : RepB K w (mask K w ρ) ρ (.live b m) x) : RepB K w (mask K w ρ') ρ' (.live b m) x := by
  cases x with
  | dead => trivial
  | cells cs =>
    obtain ⟨vs, ty, h1, h2, h3⟩ := h
    refine ⟨vs, ty, h1, h2, fun j d hj => ?_⟩
    obtain ⟨v, q1, q2⟩ := h3 j d hj
    refine ⟨v, q1, below_rep hs ho d v ?_ q2⟩
    simp only [belowB] at hb
    clear h3 q1 q2
    induction cs generalizing j with
    | nil => simp at hj
    | cons e cs ih =>
      simp only [belowL, Bool.and_eq_true] at hb
      cases j with
      | zero => simp at hj; exact hj ▸ hb.1
      | succ j => exact ih hb.2 j (by simpa using hj)
  | map es =>
    obtain ⟨ents, cl, h1, h2, h3, h4⟩ := h
    refine ⟨ents, cl, h1, h2, h3, fun j k d hj => ?_⟩
    obtain ⟨e, q1, q2, q3⟩ := h4 j k d hj
    refine ⟨e, q1, q2, below_rep hs ho d _ ?_ q3⟩
    simp only [belowB] at hb
    exact List.all_eq_true.1 hb (k, d) (List.mem_of_getElem? hj)
  | arr n f => simp [belowB] at hb
theorem oldB_rep {b m : Nat} {o0 : Own} {x : Blk} (hs : Sub (mask K w ρ) (mask K w ρ')) (ho : SameTo ρ0.length ρ ρ') (h0 : RepB K w0 (mask K w0 ρ0) ρ0 o0 x) (h : RepB K w (mask K w ρ) ρ (.live b m) x) : RepB K w (mask K w ρ') ρ' (.live b m) x := by
  cases x with
  | dead => trivial
  | cells cs =>
    obtain ⟨vs, ty, h1, h2, h3⟩ := h
    cases o0 with
    | live b0 m0 =>
      obtain ⟨vs0, _, _, _, h0⟩ := h0
      refine ⟨vs, ty, h1, h2, fun j d hj => ?_⟩
      obtain ⟨v, q1, q2⟩ := h3 j d hj
      obtain ⟨v0, _, q3⟩ := h0 j d hj
      exact ⟨v, q1, old_rep hs ho d v0 v q3 q2⟩
    | _ => exact h0.elim
  | map es =>
    obtain ⟨ents, cl, h1, h2, h3, h4⟩ := h
    cases o0 with
    | live b0 m0 =>
      obtain ⟨ents0, _, _, _, _, h0⟩ := h0
      refine ⟨ents, cl, h1, h2, h3, fun j k d hj => ?_⟩
      obtain ⟨e, q1, q2, q3⟩ := h4 j k d hj
      obtain ⟨e0, _, _, q4⟩ := h0 j k d hj
      exact ⟨e, q1, q2, old_rep hs ho d _ _ q4 q3⟩
    | _ => exact h0.elim
  | arr n f =>
    obtain ⟨vs, ty, h1, h2, h3, h4⟩ := h
    cases o0 with
    | live b0 m0 =>
      obtain ⟨vs0, _, _, _, _, h0⟩ := h0
      refine ⟨vs, ty, h1, h2, h3, fun j hj => ?_⟩
      obtain ⟨v, q1, q2⟩ := h4 j hj
      obtain ⟨v0, _, q3⟩ := h0 j hj
      exact ⟨v, q1, old_rep hs ho _ v0 v q3 q2⟩
    | _ => exact h0.elim

/-- the blocks that were made are given up; or all but one, which is the new block -/
theorem Inv.trunc {δe : List (Nat × Blk)} (hI : Inv K w0 ρ0 hp0 w ρ a s) (hb : (wrote s).all (fun x => belowB s.base x.2) = true) (hn : ρ0[nid]? = some .fresh)
    (hlen : ρ'.length = s.base) (hsame : ∀ i, i < s.base → i ≠ nid → ρ'[i]? = ρ[i]?) (hlive : ∀ b, isLive K ρ' b → isLive K ρ b)
    (hE : (δe = [] ∧ ρ'[nid]? = some .fresh) ∨ ∃ x id b m, δe = [(nid, x)] ∧ ρ'[nid]? = some (Own.live b m) ∧ s.base ≤ id ∧ ρ[id]? = some (Own.live b m) ∧ RepB K w (mask K w ρ') ρ' (.live b m) x) :
    Eff K w0 ρ0 hp0 nid w ρ' (wrote s ++ δe) [] := by
  have hbase := hI.base
  have h0len := hI.start.len
  have hnl := (List.getElem?_eq_some_iff.1 hn).1
  have hblen := hI.blen
  have hrlen := hI.rlen
  have hsub := sub_mask (w := w) hlive
  have hfresh : own ρ nid = .fresh := own_get (hI.fr nid hn)
  have hst : SameTo s.base ρ ρ' := fun i hi hf => by
    have hne : i ≠ nid := fun e => hf (e ▸ hfresh)
    unfold own
    rw [List.getD_eq_getElem?_getD, List.getD_eq_getElem?_getD, hsame i hi hne]
  have hst0 : SameTo ρ0.length ρ ρ' := by rw [h0len, ← hbase]; exact hst
  refine ⟨hI.size, hI.keep, fun b h => hI.new b (hlive b h), by simp [hlen, hbase, h0len], fun i => ?_, fun hp2 hl2 hk2 => ?_, fun i h1 h2 => ?_, fun i h1 h2 => ?_, hI.env⟩
  · by_cases hi : i < s.base
    · by_cases hin : i = nid
      · subst hin
        rw [own_get hn]; trivial
      · have := hI.le i
        have e : own ρ' i = own ρ i := by
          unfold own
          rw [List.getD_eq_getElem?_getD, List.getD_eq_getElem?_getD, hsame i hi hin]
        rw [e]; exact this
    · have : own ρ0 i = .fresh := by unfold own; rw [List.getD_eq_getElem?_getD, List.getElem?_eq_none (by omega)]; rfl
      rw [this]; trivial
  · rw [List.append_nil]
    have hk := hI.ok hp2 hl2 hk2
    have hb2 : s.base = hp2.length := hbase.trans hl2.1
    -- what is live in ρ' is live in ρ, under the same name or as the new block
    have cases' : ∀ i b m : Nat, ρ'[i]? = some (Own.live b m) → (i ≠ nid ∧ ρ[i]? = some (Own.live b m)) ∨ (i = nid ∧ ∃ id, s.base ≤ id ∧ ρ[id]? = some (Own.live b m)) := fun i b m h => by
      have hi : i < s.base := by rw [← hlen]; exact (List.getElem?_eq_some_iff.1 h).1
      by_cases hin : i = nid
      · subst hin
        rcases hE with ⟨_, he⟩ | ⟨x, id, b', m', _, he, hid, hr, _⟩
        · rw [he] at h; cases h
        · rw [he] at h; cases h; exact .inr ⟨rfl, id, hid, hr⟩
      · exact .inl ⟨hin, by rw [← hsame i hi hin]; exact h⟩
    refine ⟨by simp [hlen, hb2], fun i b m h => ?_, fun i j b m m' h1 h2 => ?_, fun i x hx => ?_, hk.hid, fun i b m h => (cases' i b m h).elim (fun h => hk.apart _ _ _ h.2) (fun h => h.2.elim fun _ h => hk.apart _ _ _ h.2)⟩
    · rcases cases' i b m h with ⟨_, h⟩ | ⟨_, id, _, h⟩
      · exact hk.lt i b m h
      · exact hk.lt id b m h
    · have hi : i < s.base := by rw [← hlen]; exact (List.getElem?_eq_some_iff.1 h1).1
      have hj : j < s.base := by rw [← hlen]; exact (List.getElem?_eq_some_iff.1 h2).1
      rcases cases' i b m h1 with ⟨n1, h1⟩ | ⟨rfl, id1, g1, h1⟩ <;> rcases cases' j b m' h2 with ⟨n2, h2⟩ | ⟨rfl, id2, g2, h2⟩
      · exact hk.inj i j b m m' h1 h2
      · have := hk.inj _ _ _ _ _ h1 h2; omega
      · have := hk.inj _ _ _ _ _ h1 h2; omega
      · rfl
    · -- an old block
      have old : ∀ i x, i ≠ nid → (app (wrote s) hp2)[i]? = some x → RepB K w (mask K w ρ') ρ' (own ρ' i) x := fun i x hin hx => by
        have hi : i < s.base := by have := (List.getElem?_eq_some_iff.1 hx).1; simp at this; omega
        have hov : (over s hp2)[i]? = some x := by
          unfold over
          rw [List.getElem?_append_left (by simp; omega)]
          exact hx
        have hr := hk.blk i x hov
        cases x with
        | dead => cases own ρ' i <;> trivial
        | _ =>
          cases hoi : own ρ i with
          | live b m =>
            rw [hoi] at hr
            rw [hst i hi (by rw [hoi]; simp), hoi]
            unfold wrote at hx
            rw [app_map_get] at hx
            split at hx
            · rename_i hw
              have hbel := List.all_eq_true.1 hb (i, s.hp.getD i .dead) (List.mem_map.2 ⟨i, hw.1, rfl⟩)
              rw [Option.some.inj hx] at hbel
              exact belowB_rep hsub hst hbel hr
            · exact oldB_rep hsub hst0 (hk2.blk i _ hx) hr
          | _ => rw [hoi] at hr; exact hr.elim
      rcases hE with ⟨rfl, he⟩ | ⟨x', id, b, m, rfl, he, hid, hr, hrep⟩
      · rw [List.append_nil] at hx
        by_cases hin : i = nid
        · subst hin
          have hi : i < s.base := by omega
          rw [own_get he]
          have hov : (over s hp2)[i]? = some x := by
            unfold over
            rw [List.getElem?_append_left (by simp; omega)]
            exact hx
          have := hk.blk i x hov
          rw [hfresh] at this
          cases x with
          | dead => trivial
          | _ => exact this.elim
        · exact old i x hin hx
      · have e : app (wrote s ++ [(nid, x')]) hp2 = (app (wrote s) hp2).set nid x' := by
          unfold app
          rw [List.foldl_append]
          rfl
        rw [e, List.getElem?_set] at hx
        split at hx
        · rename_i hin
          subst hin
          split at hx
          · obtain rfl := Option.some.inj hx
            rw [own_get he]
            exact hrep
          · cases hx
        · rename_i hin
          exact old i x (Ne.symm hin) hx
  · obtain ⟨g1, g2, g3⟩ := hI.hid i h1 h2
    have hin : i ≠ nid := fun e => h2 (e ▸ hn)
    have hi : i < s.base := by have := (List.getElem?_eq_some_iff.1 h1).1; omega
    refine ⟨fun x hx => ?_, (hsame i hi hin).trans g3⟩
    rcases List.mem_append.1 hx with hx | hx
    · unfold wrote at hx
      obtain ⟨j, hj, rfl⟩ := List.mem_map.1 hx
      rintro rfl
      exact g2 hj
    · rcases hE with ⟨rfl, _⟩ | ⟨x', id, b, m, rfl, _⟩
      · cases hx
      · rw [List.mem_singleton] at hx
        subst hx
        exact Ne.symm hin
  · have hi : i < s.base := by have := (List.getElem?_eq_some_iff.1 h1).1; omega
    rw [hsame i hi h2]
    exact hI.fr i h1

theorem take_get {i : Nat} (hi : i < s.base) : (ρ.take s.base)[i]? = ρ[i]? := by rw [List.getElem?_take, if_pos hi]
theorem leave_ok {raw : Bool} {ds : List D} {v : Value} (hI : Inv K w0 ρ0 hp0 w ρ a s) (hv : Rep K (mask K w ρ) ρ (tupD ds) v) (h : leave raw nid s ds = some out) (hn : ρ0[nid]? = some .fresh) : Res K w0 ρ0 hp0 nid out v w := by
  have hbase := hI.base
  have h0len := hI.start.len
  have hnl := (List.getElem?_eq_some_iff.1 hn).1
  have hblen := hI.blen
  have hrlen := hI.rlen
  unfold leave at h
  split at h
  · obtain rfl := (Option.some.inj h).symm
    refine ⟨ρ, hv, hI.size, hI.keep, hI.new, by simp; omega, hI.le, fun hp2 h1 h2 => hI.ok hp2 h1 h2, fun i h1 h2 => ?_, fun i h1 _ => hI.fr i h1, hI.env⟩
    obtain ⟨g1, g2, g3⟩ := hI.hid i h1 h2
    refine ⟨fun x hx => ?_, g3⟩
    unfold wrote at hx
    obtain ⟨j, hj, rfl⟩ := List.mem_map.1 hx
    rintro rfl
    exact g2 hj
  · rename_i hraw
    have hb : (wrote s).all (fun x => belowB s.base x.2) = true := by
      rw [Bool.or_eq_false_iff] at hraw
      simpa using hraw.2
    split at h
    · rename_i id off len k cap ho
      split at h
      · rename_i cs hcs
        split at h
        · rename_i cs' hcs'
          obtain rfl := (Option.some.inj h).symm
          -- the result is a slice of a block that was made here
          have hds : ds = [.sl id off len k cap] ∧ s.base ≤ id := by
            unfold ownRes at ho
            split at ho
            · split at ho
              · cases ho
              · cases ho; exact ⟨rfl, by omega⟩
            · cases ho
          obtain ⟨rfl, hid⟩ := hds
          obtain ⟨b, m, e1, e2⟩ := cellsAt_own hI.okHp hcs
          have hrl := own_live e1
          have hgn : ∀ i, i < s.base → i ≠ nid → ((ρ.take s.base).set nid (.live b m))[i]? = ρ[i]? := fun i hi hin => by
            rw [List.getElem?_set, if_neg (Ne.symm hin), take_get hi]
          have hnid : ((ρ.take s.base).set nid (.live b m))[nid]? = some (Own.live b m) := by
            rw [List.getElem?_set, if_pos rfl, if_pos (by simp; omega)]
          have hlive : ∀ c, isLive K ((ρ.take s.base).set nid (.live b m)) c → isLive K ρ c := by
            rintro c (hh | ⟨i, q, hi⟩)
            · exact .inl hh
            by_cases hin : i = nid
            · subst hin
              rw [hnid] at hi
              cases hi
              exact .inr ⟨id, m, hrl⟩
            · rw [List.getElem?_set, if_neg (Ne.symm hin), List.getElem?_take] at hi
              split at hi
              · exact .inr ⟨i, q, hi⟩
              · cases hi
          have hst : SameTo s.base ρ ((ρ.take s.base).set nid (.live b m)) := fun i hi hf => by
            have hne : i ≠ nid := fun e => hf (e ▸ own_get (hI.fr nid hn))
            unfold own
            rw [List.getD_eq_getElem?_getD, List.getD_eq_getElem?_getD, hgn i hi hne]
          have hV : ∀ j b' m' : Nat, s.base ≤ j → bans (some id) j = false → own ρ j = .live b' m' → ∀ vs ty fr, w.heap[b']? = some (Obj.cells vs ty fr) → (mask K w ((ρ.take s.base).set nid (.live b m))).heap[b']? = some (Obj.cells vs ty fr) := fun j b' m' hj hban hoj vs ty fr hw => by
            rw [mask_some]
            refine ⟨?_, hw⟩
            rintro (hh | ⟨i, q, hi⟩)
            · exact absurd hh (hI.okHp.apart _ _ _ (own_live hoj))
            by_cases hin : i = nid
            · subst hin
              rw [hnid] at hi
              cases hi
              have := hI.okHp.inj _ _ _ _ _ hrl (own_live hoj)
              subst this
              simp [bans] at hban
            · rw [List.getElem?_set, if_neg (Ne.symm hin), List.getElem?_take] at hi
              split at hi
              · have := hI.okHp.inj _ _ _ _ _ hi (own_live hoj); omega
              · cases hi
          obtain ⟨vs, ty, g1, g2, g3⟩ := e2
          obtain ⟨q1, q2⟩ := mapM_get hcs'
          refine ⟨(ρ.take s.base).set nid (.live b m), ?_, hI.trunc hb hn (by simp; omega) hgn hlive (.inr ⟨.cells cs', id, b, m, rfl, hnid, hid, hrl, vs, ty, g1, g2, fun j d' hj => ?_⟩)⟩
          · simp only [tupD, Rep, e1] at hv
            simp only [Rep, own_get hnid]
            exact hv
          · obtain ⟨d, q3, q4⟩ := q2 j d' hj
            obtain ⟨u, q5, q6⟩ := g3 j d q3
            exact ⟨u, q5, froz_ok hI.okHp (sub_mask hlive) hst hV 20 d d' u q4 q6⟩
        · cases h
      · cases h
    · split at h
      · rename_i d hd
        obtain rfl := (Option.some.inj h).symm
        have hfn : (ρ.take s.base)[nid]? = some Own.fresh := by rw [take_get (by omega)]; exact hI.fr nid hn
        have hlive : ∀ c, isLive K (ρ.take s.base) c → isLive K ρ c := by
          rintro c (hh | ⟨i, q, hi⟩)
          · exact .inl hh
          rw [List.getElem?_take] at hi
          split at hi
          · exact .inr ⟨i, q, hi⟩
          · cases hi
        have hst : SameTo s.base ρ (ρ.take s.base) := fun i hi _ => by
          unfold own
          rw [List.getD_eq_getElem?_getD, List.getD_eq_getElem?_getD, take_get hi]
        have ht := hI.trunc (ρ' := ρ.take s.base) (δe := []) hb hn (by simp; omega) (fun i hi _ => take_get hi) hlive (.inl ⟨rfl, hfn⟩)
        rw [List.append_nil] at ht
        refine ⟨ρ.take s.base, froz_ok hI.okHp (sub_mask hlive) hst (fun j b m hj _ hoj vs ty fr hw => ?_) 20 _ d v hd hv, ht⟩
        rw [mask_some]
        refine ⟨?_, hw⟩
        rintro (hh | ⟨i, q, hi⟩)
        · exact absurd hh (hI.okHp.apart _ _ _ (own_live hoj))
        rw [List.getElem?_take] at hi
        split at hi
        · have := hI.okHp.inj _ _ _ _ _ hi (own_live hoj); omega
        · cases hi
      · cases h

theorem enters {fn : Func} {f : FuncId} {c : Code} (hf : P.funcs[f]? = some fn) (hname : (fn.name == "runtime.NumGoroutine") = false) (hb : fn.body = some c) (args : Array Value) (w : World) : (callFunc f args).run P w = .ok (.enter f args) w := by
  simp only [callFunc, Sem.run_bind, run_program', Result.andThen_ok, hf, hname, Bool.false_eq_true, if_false, hb, Option.isNone_some]
  rfl
/-- every call that the evaluator carries out to its end is carried out so by the program -/
theorem callF_ok {F : FuncId → Option AFun} {raw : Raw} (hdr : Drawn P) (hF : ∀ f fn, F f = some fn → compF P f = some fn) (hT : ClOK K P raw.tab) : ∀ n, ClOK K P (callF F raw n) := by
  intro n
  induction n using Nat.strongRecOn with
  | _ n ih =>
    intro f ds hp nid out h hcond
    cases n with
    | zero => simp [callF] at h
    | succ n =>
      rcases callF_cases h with ⟨_, h2, _⟩ | ⟨af, e, s, rds, haf, he, hex, hrd, hl⟩
      · exact hT f ds hp nid out h2 hcond
      have hc := hF f af haf
      unfold compF at hc
      split at hc
      · rename_i fn hfn
        split at hc
        · rename_i c hbody
          split at hc
          · rename_i ab rs hab hrs hname
            cases hc
            refine ⟨enters hfn hname hbody, fun w ρ args hk hr hn => ?_⟩
            have hsp : s.p := runC_true n _ _ _ _ he trivial
            refine calls_of_wp hfn hbody (wp_mono (runC_ok hdr (fun m hm => ih m (by omega)) n (Nat.le_refl _) c ab w ρ _ _ s e hab (Inv.init hk hr) he hsp) fun x a' w' hx => ?_)
            obtain ⟨rfl, ρ', hI⟩ := hx
            obtain ⟨v, hv1, hv2⟩ := results_ok (fn := fn) hI.okHp hI.slots hrs hrd
            have hres := leave_ok hI hv2 hl hn
            cases e with
            | normal => exact ⟨hI.defers, v, hv1, v, rfl, hres⟩
            | ret => exact ⟨hI.defers, v, hv1, v, rfl, hres⟩
            | exit i => simp [exD] at hex
          · cases hc
        · cases hc
      · cases hc
end
end Go.Ev
