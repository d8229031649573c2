import Derived.Test.YtmekepomgofiaaaC20
set_option linter.all false
section
namespace Go.Ev
section
variable {K : Cust} {P : Program} {w w' : World} {ρ : List Own} {hp : List Blk} {nid : Nat}
theorem see_subB {id0 b0 n0 : Nat} (ho0 : ρ[id0]? = some (Own.live b0 n0)) : Sub (mask K w ρ) (mask K w [.fresh, .live b0 n0]) := fun c cs ty fr h => by
  rw [mask_some] at *
  refine ⟨?_, h.2⟩
  rintro (hh | ⟨i, k, hi⟩)
  · exact h.1 (.inl hh)
  · match i, hi with
    | 0, hi => simp at hi
    | 1, hi =>
      simp at hi
      obtain ⟨rfl, rfl⟩ := hi
      exact h.1 (.inr ⟨id0, n0, ho0⟩)
    | i + 2, hi => simp at hi
theorem see_ownB {b b0 n0 : Nat} {cs : Array Value} {ty : TypeId} {fr : Nat × Nat} (h : w.heap[b]? = some (Obj.cells cs ty fr)) (hb : ¬ K.hid b) (hne : b ≠ b0) : (mask K w [.fresh, .live b0 n0]).heap[b]? = some (Obj.cells cs ty fr) := by
  rw [mask_some]
  refine ⟨?_, h⟩
  rintro (hh | ⟨i, k, hi⟩)
  · exact hb hh
  · match i, hi with
    | 0, hi => simp at hi
    | 1, hi => simp at hi; exact hne hi.1.symm
    | i + 2, hi => simp at hi
theorem own_blockB {id id0 : Nat} {x : Blk} (hk : OK K w ρ hp) (hg : getG (hp.set id0 .dead) id = some x) (hx : x ≠ .dead) : ∃ b n, own ρ id = .live b n ∧ RepB K w (mask K w ρ) ρ (.live b n) x ∧ id ≠ id0 := by
  rw [getG_eq, List.getElem?_set] at hg
  split at hg
  · split at hg
    · exact absurd (Option.some.inj hg).symm hx
    · cases hg
  · rename_i hne
    obtain ⟨b, n, h1, h2⟩ := own_block hk (by rw [getG_eq]; exact hg) hx
    exact ⟨b, n, h1, h2, fun e => hne e.symm⟩
theorem seeB_ok {id0 b0 n0 : Nat} (ho0 : ρ[id0]? = some (Own.live b0 n0)) (hk : OK K w ρ hp) : ∀ (n : Nat) (d d' : D) (v : Value) (p : Option Prop), Rep K (mask K w ρ) ρ d v → seeS (hp.set id0 .dead) n d = some (p, d') → holdsO p → Rep K (mask K w [.fresh, .live b0 n0]) [.fresh, .live b0 n0] d' v
  | 0, d, d', v, p, h, hs, _ => by simp [seeS] at hs
  | n + 1, d, d', v, p, h, hs, hq => by
    have ih := seeB_ok ho0 hk n
    have ihL : ∀ {ds ds' : List D} {vs : List Value} {p : Option Prop}, mapO (seeS (hp.set id0 .dead) n) ds = some (p, ds') → holdsO p → RepL K (mask K w ρ) ρ ds vs → RepL K (mask K w [.fresh, .live b0 n0]) [.fresh, .live b0 n0] ds' vs := fun {ds ds' vs p} hm hp hl => by
      obtain ⟨g1, g2⟩ := mapO_get hm hp
      refine repL_of (by rw [← g1]; exact repL_length hl) fun i e hi => ?_
      obtain ⟨d, q, q1, q2, q3⟩ := g2 i e hi
      obtain ⟨u, q4, q5⟩ := repL_get hl q1
      exact ⟨u, q4, ih d e u q q5 q2 q3⟩
    have ihB : ∀ {id b m : Nat} {cs cs' : List D} {p : Option Prop}, own ρ id = .live b m → id ≠ id0 → RepB K w (mask K w ρ) ρ (.live b m) (.cells cs) → mapO (seeS (hp.set id0 .dead) n) cs = some (p, cs') → holdsO p → Reads K (mask K w [.fresh, .live b0 n0]) (mask K w [.fresh, .live b0 n0]) [.fresh, .live b0 n0] cs' b 0 := fun {id b m cs cs' p} ho hne hB hm hp => by
      obtain ⟨vs, ty, q1, q2, q3⟩ := hB
      have hcell := see_ownB (b0 := b0) (n0 := n0) q1 (hk.apart id b m (own_live ho)) (fun (e : b = b0) => hne (hk.inj id id0 b m n0 (own_live ho) (by rw [e]; exact ho0)))
      obtain ⟨g1, g2⟩ := mapO_get hm hp
      intro j e hj
      obtain ⟨d, q, k1, k2, k3⟩ := g2 j e hj
      obtain ⟨x, k4, k5⟩ := q3 j d k1
      exact ⟨x, by rw [cell_of hcell, Nat.zero_add]; exact k4, ih d e x q k5 k2 k3⟩
    cases d with
    | any => simp only [seeS] at hs; cases hs; trivial
    | val x => simp only [seeS] at hs; cases hs; simpa only [Rep] using h
    | cust t q => simp only [seeS] at hs; cases hs; simp only [Rep] at *; exact K.mono _ _ _ _ _ (see_subB ho0) h
    | emp z => simp only [seeS] at hs; cases hs; simpa only [Rep] using h
    | map id => simp [seeS] at hs
    | row k len f =>
      simp only [seeS] at hs
      cases hs
      have hf := hq _ rfl
      simp only [Rep] at *
      exact h.imp id fun ⟨b, o, c, h1, h2, h3⟩ => ⟨b, o, c, h1, h2, fun i hi => RepC.free (K := K) (K' := K) (see_subB ho0) (fun t q v hc => K.mono _ _ _ _ _ (see_subB ho0) hc) (f i) b _ (hf i hi) (h3 i hi)⟩
    | ref cs off =>
      simp only [seeS] at hs
      split at hs
      · rename_i p' cs' hm
        cases hs
        obtain ⟨g1, g2⟩ := mapO_get hm hq
        simp only [Rep] at *
        obtain ⟨b, o, h1, h2⟩ := h
        refine ⟨b, o, h1, reads_C fun j e hj => ?_⟩
        obtain ⟨d, q, k1, k2, k3⟩ := g2 j e hj
        obtain ⟨x, k4, k5⟩ := repC_reads (w := mask K w ρ) (fun _ _ _ _ h => h) h2 j d k1
        exact ⟨x, (see_subB ho0).cell k4, ih d e x q k5 k2 k3⟩
      · cases hs
    | sl id off len k cap =>
      simp only [seeS] at hs
      split at hs
      · rename_i m f hg
        cases hs
        obtain ⟨hle, hf⟩ := hq _ rfl
        obtain ⟨b, N, ho, hB, hne⟩ := own_blockB hk hg (by intro e; cases e)
        simp only [Rep, ho] at h ⊢
        obtain ⟨c, rfl, hlc, _⟩ := h
        obtain ⟨vs, ty, q1, q2, q3, q4⟩ := hB
        have hcell := see_ownB (b0 := b0) (n0 := n0) q1 (hk.apart id b N (own_live ho)) (fun (e : b = b0) => hne (hk.inj id id0 b N n0 (own_live ho) (by rw [e]; exact ho0)))
        refine .inr ⟨b, off, c, rfl, hlc, fun i hi => reads_C fun j e hj => ?_⟩
        rw [addmul] at hj
        obtain ⟨hjk, rfl⟩ := tabF_at hj
        have hb : off + i * k + j < m := by
          have : (i + 1) * k ≤ len * k := Nat.mul_le_mul_right k hi
          rw [Nat.add_mul, Nat.one_mul] at this
          omega
        obtain ⟨x, p1, p2⟩ := q4 _ hb
        exact ⟨x, by rw [cell_of hcell]; exact p1, Rep.free (K := K) (K' := K) (see_subB ho0) (fun t q v hc => K.mono _ _ _ _ _ (see_subB ho0) hc) _ x (hf _ hb) p2⟩
      · rename_i cs hg
        split at hs
        · rename_i hle
          split at hs
          · rename_i p' cs' hm
            cases hs
            obtain ⟨b, N, ho, hB, hne⟩ := own_blockB hk hg (by intro e; cases e)
            have hrd := ihB ho hne hB hm hq
            simp only [Rep, ho] at h ⊢
            obtain ⟨c, rfl, hlc, _⟩ := h
            refine .inr ⟨b, off, c, rfl, hlc, fun i hi => reads_C fun j e hj => ?_⟩
            unfold cutC at hj
            rw [takeG_eq, dropG_eq, addmul, List.getElem?_take] at hj
            split at hj
            · rw [List.getElem?_drop] at hj
              have := hrd _ e hj
              rw [Nat.zero_add] at this
              exact this
            · cases hj
          · cases hs
        · cases hs
      · cases hs
    | ptr id off =>
      simp only [seeS] at hs
      split at hs
      · rename_i cs hg
        split at hs
        · rename_i p' cs' hm
          cases hs
          obtain ⟨b, N, ho, hB, hne⟩ := own_blockB hk hg (by intro e; cases e)
          have hrd := ihB ho hne hB hm hq
          simp only [Rep, ho] at h ⊢
          exact ⟨b, 0, by rw [Nat.zero_add]; exact h, reads_C hrd⟩
        · cases hs
      · cases hs
    | agg ds =>
      simp only [seeS] at hs
      split at hs
      · rename_i p' ds' hm
        cases hs
        simp only [Rep] at *
        obtain ⟨vs, rfl, h2⟩ := h
        exact ⟨vs, rfl, ihL hm hq h2⟩
      · cases hs
    | tup ds =>
      simp only [seeS] at hs
      split at hs
      · rename_i p' ds' hm
        cases hs
        simp only [Rep] at *
        obtain ⟨vs, rfl, h2⟩ := h
        exact ⟨vs, rfl, ihL hm hq h2⟩
      · cases hs
    | fn f a b =>
      simp only [seeS] at hs
      split at hs
      · rename_i p1 a' ha
        split at hs
        · rename_i p2 b' hb
          cases hs
          obtain ⟨k1, k2⟩ := holdsO_and hq
          simp only [Rep] at *
          obtain ⟨x, y, rfl, h1, h2⟩ := h
          exact ⟨x, y, rfl, ihL ha k1 h1, ihL hb k2 h2⟩
        · cases hs
      · cases hs
    | iface t d =>
      simp only [seeS] at hs
      split at hs
      · rename_i p' d' hd
        cases hs
        simp only [Rep] at *
        obtain ⟨x, rfl, h2⟩ := h
        exact ⟨x, rfl, ih d d' x _ h2 hd hq⟩
      · cases hs
end
end Go.Ev
end
section
namespace Go.Ev
section
variable {K : Cust} {P : Program} {w w' : World} {ρ : List Own} {hp : List Blk} {nid id b n m : Nat} {g g' : Nat → Value}
theorem OK.oneK (hk : OK K w ρ hp) (ho : ρ[id]? = some (Own.live b n)) (hb : hp[id]? = some (.arr m fun j => .val (g j))) : OK K w [.fresh, .live b n] [.dead, .arr m fun j => .val (g j)] := by
  refine ⟨rfl, fun i c k hi => ?_, fun i j c k l h1 h2 => ?_, fun i x hx => ?_, hk.hid, fun i c k hi hh => ?_⟩
  · match i, hi with
    | 0, hi => simp at hi
    | 1, hi => simp at hi; obtain ⟨rfl, rfl⟩ := hi; exact hk.lt id b n ho
    | i + 2, hi => simp at hi
  · match i, j, h1, h2 with
    | 0, _, h1, _ => simp at h1
    | _, 0, _, h2 => simp at h2
    | 1, 1, _, _ => rfl
    | i + 2, _, h1, _ => simp at h1
    | _, j + 2, _, h2 => simp at h2
  · match i, hx with
    | 0, hx => simp at hx; subst hx; trivial
    | 1, hx =>
      simp at hx
      subst hx
      have := hk.blk id _ hb
      rw [own_some ho] at this
      exact arr_cust (K := K) (K' := K) this
    | i + 2, hx => simp at hx
  · match i, hi with
    | 0, hi => simp at hi
    | 1, hi =>
      simp at hi
      obtain ⟨rfl, rfl⟩ := hi
      exact hk.apart id b n ho hh
    | i + 2, hi => simp at hi
theorem Res.oneK {d : D} {v : Value} {p : Option Prop} (hk : OK K w ρ hp) (ho : ρ[id]? = some (Own.live b n)) (hb : hp[id]? = some (.arr m fun j => .val (g j))) (hd : isPl d = true)
    (h : Res (K) w [.fresh, .live b n] [.dead, .arr m fun j => .val (g j)] 0 ⟨none, d, [(1, .arr m fun j => .val (g' j))], []⟩ v w') : Res K w ρ hp nid ⟨p, d, [(id, .arr m fun j => .val (g' j))], []⟩ v w' := by
  obtain ⟨ρ1, h1, h2⟩ := h
  have hkeep : ∀ c : Nat, c < w.heap.size → c ≠ b → w'.heap[c]? = w.heap[c]? := fun c hc hne => h2.keep c hc fun i k hi => by
    match i, hi with
    | 0, hi => simp at hi
    | 1, hi => simp at hi; exact absurd hi.1.symm hne
    | i + 2, hi => simp at hi
  have hok := h2.ok _ (Le.refl _) (hk.oneK ho hb)
  have hb1 : RepB (K) w' (mask (K) w' ρ1) ρ1 (own ρ1 1) (.arr m fun j => .val (g' j)) := hok.blk 1 _ (by simp [app])
  have hlive : own ρ1 1 = .live b n := by
    have hle : ole (.live b n) (own ρ1 1) := by simpa [own] using h2.le 1
    rcases hle with e | e
    · exact e
    · rw [e] at hb1
      exact hb1.elim
  rw [hlive] at hb1
  have hsub : Sub (mask K w ρ) (mask K w' ρ) := fun c cs ty fr hc => by
    rw [mask_some] at *
    refine ⟨hc.1, ?_⟩
    rw [hkeep c (lt_of_cells hc.2) (fun e => hc.1 (e ▸ .inr ⟨id, n, ho⟩))]
    exact hc.2
  have hidl := (List.getElem?_eq_some_iff.1 hb).1
  refine ⟨ρ, isPl_cust hd h1, h2.size, fun c hc hcond => hkeep c hc fun e => ?_, fun c hc => .inl hc, rfl, OwnLe.refl ρ, fun hp2 hle hk2 => ?_, fun i q1 q2 => ⟨fun y hy => ?_, rfl⟩, fun i h _ => h, h2.env⟩
  · subst e
    have := hcond id n ho
    rw [hb] at this
    cases this
  · rw [List.append_nil]
    refine ⟨by simp [app, hk2.len], fun i c k hi => Nat.lt_of_lt_of_le (hk2.lt i c k hi) h2.size, hk2.inj, fun i y hy => ?_, fun c hc => Nat.lt_of_lt_of_le (hk2.hid c hc) h2.size, hk2.apart⟩
    simp only [app, List.foldl_cons, List.foldl_nil, List.getElem?_set] at hy
    split at hy
    · rename_i e
      subst e
      have : y = .arr m fun j => .val (g' j) := by
        split at hy
        · exact (Option.some.inj hy).symm
        · cases hy
      rw [this, own_some ho]
      exact arr_cust (K := K) (K' := K) hb1
    · rename_i e
      refine (hk2.blk i y hy).mono hsub (OwnLe.refl ρ) fun c k hc => hkeep c (hk2.lt i c k (own_live hc)) ?_
      intro e2
      subst e2
      exact e (hk2.inj _ _ _ _ _ ho (own_live hc))
  · rw [List.mem_singleton] at hy
    subst hy
    rintro rfl
    rw [hb] at q1
    cases q1
/-- a table of one function that changes the array which is its first argument; the other arguments are seen as nobody's -/
noncomputable def chgS (f0 : FuncId) (r : Nat → Nat → (Nat → Value) → List D → Option (Option Prop × D × (Nat → Value))) (f : FuncId) (ds : List D) (hp : List Blk) (_ : Nat) : Option Out := match Nat.beq f f0 with
  | true => match ds with
    | .sl id 0 len k none :: ds => match getG hp id with
      | some (.arr m fn) => match mapO (seeS (hp.set id .dead) 6) ds with
        | some (q, ds) => match r len k (fun j => match fn j with | .val v => v | _ => undef) ds with
          | some (p, d, g') => match isPl d with
            | true => some ⟨andO (some (∀ j, j < m → ∃ v, fn j = .val v)) (andO (some (len * k = m)) (andO q p)), d, [(id, .arr m fun j => .val (g' j))], []⟩
            | false => none
          | none => none
        | none => none
      | _ => none
    | _ => none
  | false => none
theorem chgS_ok {f0 : FuncId} {r : Nat → Nat → (Nat → Value) → List D → Option (Option Prop × D × (Nat → Value))} (henter : ∀ args w, (callFunc f0 args).run P w = .ok (.enter f0 args) w)
    (h : ∀ len k g ds p d g', r len k g ds = some (p, d, g') → holdsO p → ∃ ds', Less ds ds' ∧ AloneB P f0 (.sl 1 0 len k none :: ds') (len * k) g d g') : ClOK K P (chgS f0 r) := by
  intro f ds hp nid out ho hc
  unfold chgS at ho
  split at ho
  · rename_i hfg
    obtain rfl := Nat.eq_of_beq_eq_true hfg
    split at ho
    · rename_i id len k ds0
      split at ho
      · rename_i m fn hg
        split at ho
        rotate_left
        · cases ho
        rename_i q dsee hsee
        split at ho
        · rename_i p d g2 hr
          split at ho
          · rename_i hpl
            obtain rfl := (Option.some.inj ho).symm
            obtain ⟨k1, k2⟩ := holdsO_and hc
            obtain ⟨k3, k45⟩ := holdsO_and k2
            obtain ⟨k5, k4⟩ := holdsO_and k45
            have k1 := k1 _ rfl
            obtain rfl := k3 _ rfl
            refine ⟨henter, fun w ρ args hk hrep hn => ?_⟩
            obtain ⟨ds', hl, hA⟩ := h len k _ dsee p d g2 hr k4
            obtain ⟨b, n, hob, hB⟩ := own_block hk hg (by intro e; cases e)
            have hol := own_live hob
            simp only [RepL] at hrep
            obtain ⟨x, xs, rfl, h1, h2⟩ := hrep
            -- the array is one of plain values
            have hB' : RepB K w (mask K w ρ) ρ (.live b n) (.arr (len * k) fun j => .val (match fn j with | .val v => v | _ => undef)) := by
              obtain ⟨vs, ty, q1, q2, q3, q4⟩ := hB
              refine ⟨vs, ty, q1, q2, q3, fun j hj => ?_⟩
              obtain ⟨y, p1, p2⟩ := q4 j hj
              obtain ⟨v, hv⟩ := k1 j hj
              refine ⟨y, p1, ?_⟩
              rw [hv] at p2
              simp only [Rep] at p2 ⊢
              rw [hv]
              exact p2
            have hidl : id < hp.length := by
              rw [getG_eq] at hg
              exact (List.getElem?_eq_some_iff.1 hg).1
            -- the caller's heap, with the array told so
            have hkk : OK K w ρ (hp.set id (.arr (len * k) fun j => .val (match fn j with | .val v => v | _ => undef))) := by
              refine ⟨by simp [hk.len], hk.lt, hk.inj, fun i y hy => ?_, hk.hid, hk.apart⟩
              rw [List.getElem?_set] at hy
              split at hy
              · rename_i e
                subst e
                try simp only [hidl, if_true] at hy
                cases hy
                rw [hob]
                exact hB'
              · exact hk.blk i y hy
            have hb' : (hp.set id (.arr (len * k) fun j => D.val (match fn j with | .val v => v | _ => undef)))[id]? = some (.arr (len * k) fun j => .val (match fn j with | .val v => v | _ => undef)) := by
              rw [List.getElem?_set, if_pos rfl, if_pos hidl]
            obtain ⟨m1, m2⟩ := mapO_get hsee k5
            have hseen : RepL K (mask K w [.fresh, .live b n]) [.fresh, .live b n] dsee xs := repL_of (by rw [← m1]; exact repL_length h2) fun i e he => by
              obtain ⟨d0, q0, e1, e2, e3⟩ := m2 i e he
              obtain ⟨u, hu, hru⟩ := repL_get h2 e1
              exact ⟨u, hu, seeB_ok hol hk 6 d0 e u q0 hru e2 e3⟩
            have hargs : RepL (K) (mask (K) w [.fresh, .live b n]) [.fresh, .live b n] (.sl 1 0 len k none :: ds') (x :: xs) := by
              simp only [RepL]
              refine ⟨x, xs, rfl, ?_, hl K _ _ _ hseen⟩
              simp only [Rep, hob] at h1
              have : own [Own.fresh, .live b n] 1 = .live b n := rfl
              simp only [Rep, this]
              exact h1
            refine (hA (K) w b n (x :: xs) (hkk.oneK hol hb') hargs).mono fun e w' hx => ?_
            obtain ⟨v, rfl, hres⟩ := hx
            have hR := Res.oneK (p := andO (some (∀ j, j < len * k → ∃ v, fn j = .val v)) (andO (some (len * k = len * k)) (andO q p))) (nid := nid) hkk hol hb' hpl hres
            obtain ⟨ρ2, r1, r2⟩ := hR
            refine ⟨v, rfl, ρ2, r1, r2.size, fun c hcc hcond => r2.keep c hcc fun i k hi => ?_, r2.new, r2.len, r2.le, fun hp2 hle hk2 => ?_, fun i q1 q2 => ?_, r2.fr, r2.env⟩
            · have := hcond i k hi
              rw [List.getElem?_set]
              split
              · rename_i e
                subst e
                rw [getG_eq] at hg
                rw [hg] at this
                cases this
              · exact this
            · have hlen2 := hle.1
              have hk3 : OK K w ρ (hp2.set id (.arr (len * k) fun j => .val (match fn j with | .val v => v | _ => undef))) := by
                refine ⟨by simp [hk2.len], hk2.lt, hk2.inj, fun i y hy => ?_, hk2.hid, hk2.apart⟩
                rw [List.getElem?_set] at hy
                split at hy
                · rename_i e
                  subst e
                  have hid2 : id < hp2.length := by omega
                  try simp only [hid2, if_true] at hy
                  cases hy
                  rw [hob]
                  exact hB'
                · exact hk2.blk i y hy
              have := r2.ok _ ⟨by simp [hlen2], fun i => by
                rw [List.getElem?_set, List.getElem?_set, hlen2]
                split
                · exact .inl rfl
                · exact hle.2 i⟩ hk3
              simpa [app] using this
            · have hne : id ≠ i := by
                rintro rfl
                rw [getG_eq] at hg
                rw [hg] at q1
                cases q1
              refine r2.hid i ?_ q2
              rw [List.getElem?_set, if_neg hne]
              exact q1
          · cases ho
        · cases ho
      · cases ho
    · cases ho
  · cases ho
end
end Go.Ev
end
section
open Go Go.Ev Go.RowKit
namespace Go.Ev
set_option maxRecDepth 100000
set_option maxHeartbeats 2000000
set_option linter.all false
def R108 (len k : Nat) (c : Nat → Value) : List D → Option (Option Prop × D × (Nat → Value))
  | [d1, d2, .fn 63 [] [d3]] => match inO d1, inO d2, runsR d3 with
    | some a, some b, some (q, N, x) => match Nat.beq k 1 with
      | true => some (some (a = 0 ∧ (∀ j, j < len → c j = .int .i64 (valI (c j))) ∧ q ∧ b = len ∧ (len ≤ 1000000 ∧ N ≤ 1000000) ∧ (∀ i, i < N → smallR (x i)) ∧ (∀ t, t < len → 0 ≤ valI (c t) ∧ valI (c t) < N)), .tup [], arrI (sortI (keyI x) (fun j => valI (c j)) len))
      | false => none
    | _, _, _ => none
  | _ => none
noncomputable def T108 := orCl (chgC 108 R108) T63
theorem T108_ok (K : Cust) : ClOK K PG T108 := ClOK.or (chgC_ok (ent cf_108) fun len k c ds p d g' h hp => by
    unfold R108 at h
    split at h
    · split at h
      · rename_i e0 e1 e2
        split at h
        · rename_i hk
          obtain rfl := Nat.eq_of_beq_eq_true hk
          obtain rfl := inO_eq e0
          obtain rfl := inO_eq e1
          cases h
          obtain ⟨h0, h1, h2, h3, h4, h5, h6⟩ := hp _ rfl
          subst h0
          subst h3
          exact ⟨_, less_cons (LessD.refl _) (less_cons (LessD.refl _) (less_cons (less_fn (Less.refl _) (less_cons (runsR_less e2 h2) (Less.refl _))) (Less.refl _))), by simp [freeL, freeD, rowR_free], AloneB.congr (fun j hj => h1 j (by omega)) (ins_alone _ _ len _ h4 h5 h6)⟩
        · cases h
      · cases h
    · cases h) (T63_ok K)
theorem stable_alone (N : Nat) (x : Nat → Run) (n : Nat) (c : Nat → Int) (hn : n ≤ 19 ∧ N ≤ 1000000) (hx : ∀ i, i < N → smallR (x i)) (hc : ∀ t, t < n → 0 ≤ c t ∧ c t < N) :
    AloneB PG 93 [.sl 1 0 n 1 none, i6 n, .fn 63 [] [.ref [rowR N x] 0]] (n * 1) (arrI c) (.tup []) (arrI (sortI (keyI x) c n)) :=
  AloneB.ofW (cl := T108) hm0 T108_ok cf_93 fun K w b B => by
    refine aw_reg0 (aw_reg0 (aw_unroll 1 hm0 (T108_ok K) (unr_step (aw_assoc (aw_reg0 (aw_ifsd ((20 : Int) ≤ (↑n : Int)) (fun h1 => aw_skips (aw_block (aw_reg (True ∧ (∀ (j : Nat), j < n * (1 : Nat) → ∃ (v : Value), D.val (arrI c j) = D.val v) ∧ n * (1 : Nat) = n * (1 : Nat) ∧ (0 : Int) = (0 : Int) ∧ (∀ (j : Nat), j < n → arrI c j = Value.int IntKind.i64 (valI (arrI c j))) ∧ (∀ (i : Nat), i < N → runD (x i) = runD (x i)) ∧ (20 : Int) = (↑n : Int) ∧ (n ≤ (1000000 : Nat) ∧ N ≤ (1000000 : Nat)) ∧ (∀ (i : Nat), i < N → smallR (x i)) ∧ ∀ (t : Nat), t < n → (0 : Int) ≤ valI (arrI c t) ∧ valI (arrI c t) < (↑N : Int)) (by (simp only [inRange_i64, true_and]; omega)) (aw_reg0 (aw_end (True ∧ inRange IntKind.i64 ((20 : Int) + (20 : Int))) (by (simp only [inRange_i64, true_and]; omega)) (blk_normal (?_))))))) (fun h2 => aw_exits (unr_exit (blk_exit (seq_normal (aw_reg (True ∧ (∀ (j : Nat), j < n * (1 : Nat) → ∃ (v : Value), D.val (arrI c j) = D.val v) ∧ n * (1 : Nat) = n * (1 : Nat) ∧ (0 : Int) = (0 : Int) ∧ (∀ (j : Nat), j < n → arrI c j = Value.int IntKind.i64 (valI (arrI c j))) ∧ (∀ (i : Nat), i < N → runD (x i) = runD (x i)) ∧ (↑n : Int) = (↑n : Int) ∧ (n ≤ (1000000 : Nat) ∧ N ≤ (1000000 : Nat)) ∧ (∀ (i : Nat), i < N → smallR (x i)) ∧ ∀ (t : Nat), t < n → (0 : Int) ≤ valI (arrI c t) ∧ valI (arrI c t) < (↑N : Int)) (by ((try simp only [inRange_i64] at *); (try simp only [implies_true, and_self, true_and, and_true]); (repeat' (with_reducible apply And.intro)) <;> first | exact True.intro | exact fun _ _ => rfl | exact fun _ _ => ⟨rfl, rfl⟩ | omega | assumption | (intros; simp [freeL, freeD]; done))) (?_))))))))))))
    · exfalso; omega
    · refine aw_loopE (ι := Unit) hm0 (T108_ok K) (fun _ => [(6, i6 20)]) (fun _ => [(1, .arr (n * 1) fun j => .val (arrI (sortI (keyI x) c n) j))]) (fun _ => 0) () (fun _ => ?_)
      refine aw_assoc (aw_reg0 (aw_ifsd ((20 : Int) < (↑n : Int)) (fun h3 => aw_skips (aw_block (aw_reg (True ∧ inRange IntKind.i64 ((2 : Int) * (20 : Int))) (by (simp only [inRange_i64, true_and]; omega)) (?_)))) (fun h4 => aw_exits (round_exit (blk_exit (end_w (fun (j : Nat) => D.val (arrI (sortI (keyI x) c n) j)) ?_))))))
      all_goals first
        | exact fun j _ => rfl
        | (exfalso; omega)

def R93 (len k : Nat) (c : Nat → Value) : List D → Option (Option Prop × D × (Nat → Value))
  | [d1, .fn 63 [] [d2]] => match inO d1, runsR d2 with
    | some b, some (q, N, x) => match Nat.beq k 1 with
      | true => some (some ((∀ j, j < len → c j = .int .i64 (valI (c j))) ∧ q ∧ b = len ∧ (len ≤ 19 ∧ N ≤ 1000000) ∧ (∀ i, i < N → smallR (x i)) ∧ (∀ t, t < len → 0 ≤ valI (c t) ∧ valI (c t) < N)), .tup [], arrI (sortI (keyI x) (fun j => valI (c j)) len))
      | false => none
    | _, _ => none
  | _ => none
noncomputable def T93 := orCl (chgC 93 R93) T108
theorem T93_ok (K : Cust) : ClOK K PG T93 := ClOK.or (chgC_ok (ent cf_93) fun len k c ds p d g' h hp => by
    unfold R93 at h
    split at h
    · split at h
      · rename_i e0 e1
        split at h
        · rename_i hk
          obtain rfl := Nat.eq_of_beq_eq_true hk
          obtain rfl := inO_eq e0
          cases h
          obtain ⟨h1, h2, h3, h4, h5, h6⟩ := hp _ rfl
          subst h3
          exact ⟨_, less_cons (LessD.refl _) (less_cons (less_fn (Less.refl _) (less_cons (runsR_less e1 h2) (Less.refl _))) (Less.refl _)), by simp [freeL, freeD, rowR_free], AloneB.congr (fun j hj => h1 j (by omega)) (stable_alone _ _ len _ h4 h5 h6)⟩
        · cases h
      · cases h
    · cases h) (T108_ok K)
theorem sort_alone (N : Nat) (x : Nat → Run) (n : Nat) (c : Nat → Int) (hn : n ≤ 19 ∧ N ≤ 1000000) (hx : ∀ i, i < N → smallR (x i)) (hc : ∀ t, t < n → 0 ≤ c t ∧ c t < N) :
    AloneB PG 62 [.sl 1 0 n 1 none, .fn 63 [] [.ref [rowR N x] 0]] (n * 1) (arrI c) (.tup []) (arrI (sortI (keyI x) c n)) :=
  AloneB.ofW (cl := T93) hm0 T93_ok cf_62 fun K w b B => by
    refine aw_end (True ∧ (∀ (j : Nat), j < n * (1 : Nat) → ∃ (v : Value), D.val (arrI c j) = D.val v) ∧ n * (1 : Nat) = n * (1 : Nat) ∧ (∀ (j : Nat), j < n → arrI c j = Value.int IntKind.i64 (valI (arrI c j))) ∧ (∀ (i : Nat), i < N → runD (x i) = runD (x i)) ∧ (↑n : Int) = (↑n : Int) ∧ (n ≤ (19 : Nat) ∧ N ≤ (1000000 : Nat)) ∧ (∀ (i : Nat), i < N → smallR (x i)) ∧ ∀ (t : Nat), t < n → (0 : Int) ≤ valI (arrI c t) ∧ valI (arrI c t) < (↑N : Int)) (by ((try simp only [inRange_i64] at *); (try simp only [implies_true, and_self, true_and, and_true]); (repeat' (with_reducible apply And.intro)) <;> first | exact True.intro | exact fun _ _ => rfl | exact fun _ _ => ⟨rfl, rfl⟩ | omega | assumption | (intros; simp [freeL, freeD]; done))) (end_w (fun (j : Nat) => D.val (arrI (sortI (keyI x) (fun (j : Nat) => valI (arrI c j)) n) j)) ?_)
    all_goals exact fun j _ => rfl

def R62 (len k : Nat) (c : Nat → Value) : List D → Option (Option Prop × D × (Nat → Value))
  | [.fn 63 [] [d1]] => match runsR d1 with
    | some (q, N, x) => match Nat.beq k 1 with
      | true => some (some ((∀ j, j < len → c j = .int .i64 (valI (c j))) ∧ q ∧ (len ≤ 19 ∧ N ≤ 1000000) ∧ (∀ i, i < N → smallR (x i)) ∧ (∀ t, t < len → 0 ≤ valI (c t) ∧ valI (c t) < N)), .tup [], arrI (sortI (keyI x) (fun j => valI (c j)) len))
      | false => none
    | _ => none
  | _ => none
noncomputable def T62 := orCl (chgS 62 R62) T93
theorem T62_ok (K : Cust) : ClOK K PG T62 := ClOK.or (chgS_ok (ent cf_62) fun len k c ds p d g' h hp => by
    unfold R62 at h
    split at h
    · split at h
      · rename_i e0
        split at h
        · rename_i hk
          obtain rfl := Nat.eq_of_beq_eq_true hk
          cases h
          obtain ⟨h1, h2, h4, h5, h6⟩ := hp _ rfl
          exact ⟨_, less_cons (less_fn (Less.refl _) (less_cons (runsR_less e0 h2) (Less.refl _))) (Less.refl _), AloneB.congr (fun j hj => h1 j (by omega)) (sort_alone _ _ len _ h4 h5 h6)⟩
        · cases h
      · cases h
    · cases h) (T93_ok K)
end Go.Ev
end
section
open Go Go.Ev Go.RowKit
namespace Go.Ev
set_option linter.all false
/-! ### Rooms: what order the sort gives, and why a room is free -/
theorem cntN_mono {p : Nat → Bool} {n : Nat} : cntN p n ≤ cntN p (n + 1) := by
  simp only [cntN]
  cases p n <;> simp <;> omega
/-- as many as there are different ones that have the property -/
theorem pigeon {p : Nat → Bool} : ∀ (n a : Nat) (f : Nat → Nat), (∀ t, t < a → f t < n ∧ p (f t) = true) → (∀ s t, s < a → t < a → f s = f t → s = t) → (a : Int) ≤ cntN p n
  | 0, a, f, h, _ => by
    rcases Nat.eq_zero_or_pos a with q | q
    · rw [q]; simp [cntN]
    · have := (h 0 q).1; omega
  | n + 1, a, f, h, hi => by
    by_cases q : ∃ t, t < a ∧ f t = n
    · obtain ⟨t0, h0, e0⟩ := q
      have hp : p n = true := e0 ▸ (h t0 h0).2
      have ih := pigeon n (a - 1) (fun t => if t < t0 then f t else f (t + 1)) (fun t ht => by
        by_cases q : t < t0
        · simp only [if_pos q]
          have h1 := h t (by omega)
          refine ⟨?_, h1.2⟩
          have : f t ≠ n := fun e => by
            have := hi t t0 (by omega) h0 (e.trans e0.symm)
            omega
          omega
        · simp only [if_neg q]
          have h1 := h (t + 1) (by omega)
          refine ⟨?_, h1.2⟩
          have : f (t + 1) ≠ n := fun e => by
            have := hi (t + 1) t0 (by omega) h0 (e.trans e0.symm)
            omega
          omega) (fun s t hs ht e => by
        by_cases q1 : s < t0 <;> by_cases q2 : t < t0
        · simp only [if_pos q1, if_pos q2] at e
          exact hi s t (by omega) (by omega) e
        · simp only [if_pos q1, if_neg q2] at e
          have := hi s (t + 1) (by omega) (by omega) e
          omega
        · simp only [if_neg q1, if_pos q2] at e
          have := hi (s + 1) t (by omega) (by omega) e
          omega
        · simp only [if_neg q1, if_neg q2] at e
          have := hi (s + 1) (t + 1) (by omega) (by omega) e
          omega)
      simp only [cntN, hp, cond_true]
      omega
    · have ih := pigeon n a f (fun t ht => by
        have h1 := h t ht
        have : f t ≠ n := fun e => q ⟨t, ht, e⟩
        exact ⟨by omega, h1.2⟩) hi
      have := cntN_mono (p := p) (n := n)
      omega
/-- first by the key, then by the number -/
def lexP (key : Int → Int) (a b : Int) : Prop := key a < key b ∨ key a = key b ∧ a < b
theorem insGo_spec {key : Int → Int} {s : Nat → Int} {v : Int} : ∀ i, insGo key s v i ≤ i ∧ (∀ t, insGo key s v i ≤ t → t < i → key v < key (s t)) ∧ (insGo key s v i = 0 ∨ ¬ key v < key (s (insGo key s v i - 1)))
  | 0 => ⟨Nat.le_refl _, fun t _ h => by omega, .inl rfl⟩
  | i + 1 => by
    obtain ⟨h1, h2, h3⟩ := insGo_spec (key := key) (s := s) (v := v) i
    by_cases q : key v < key (s i)
    · have e : insGo key s v (i + 1) = insGo key s v i := by simp only [insGo, decide_eq_true q, cond_true]
      rw [e]
      refine ⟨by omega, fun t a b => ?_, h3⟩
      by_cases q2 : t = i
      · rw [q2]; exact q
      · exact h2 t a (by omega)
    · have e : insGo key s v (i + 1) = i + 1 := by simp only [insGo, decide_eq_false q, cond_false]
      rw [e]
      exact ⟨Nat.le_refl _, fun t a b => by omega, .inr q⟩
structure SortP (key : Int → Int) (c : Nat → Int) (n i : Nat) : Prop where
  lex : ∀ s t, s < t → t < i → lexP key (sortI key c i s) (sortI key c i t)
  rest : ∀ t, i ≤ t → t < n → sortI key c i t = c t
  from' : ∀ t, t < i → ∃ t', t' < i ∧ sortI key c i t = c t'
  all : ∀ t', t' < i → ∃ t, t < i ∧ sortI key c i t = c t'
theorem sort_spec {key : Int → Int} {c : Nat → Int} {n : Nat} (hc : ∀ s t, s < t → t < n → c s < c t) : ∀ i, i ≤ n → SortP key c n i
  | 0, _ => ⟨fun s t _ h => by omega, fun t _ _ => rfl, fun t h => by omega, fun t h => by omega⟩
  | i + 1, hi => by
    obtain ⟨l, r, f, a⟩ := sort_spec (key := key) hc i (by omega)
    have hv : sortI key c i i = c i := r i (Nat.le_refl _) (by omega)
    obtain ⟨g1, g2, g3⟩ := insGo_spec (key := key) (s := sortI key c i) (v := sortI key c i i) i
    have hS : sortI key c (i + 1) = shiftA (sortI key c i) i (insGo key (sortI key c i) (sortI key c i i) i) := rfl
    suffices hh : (∀ s t, s < t → t < i + 1 → lexP key (sortI key c (i + 1) s) (sortI key c (i + 1) t)) ∧ (∀ t, i + 1 ≤ t → t < n → sortI key c (i + 1) t = c t) ∧ (∀ t, t < i + 1 → ∃ t', t' < i + 1 ∧ sortI key c (i + 1) t = c t') ∧ (∀ t', t' < i + 1 → ∃ t, t < i + 1 ∧ sortI key c (i + 1) t = c t') from ⟨hh.1, hh.2.1, hh.2.2.1, hh.2.2.2⟩
    rw [hS]
    clear hS
    generalize insGo key (sortI key c i) (sortI key c i i) i = j at *
    generalize sortI key c i = S at *
    have lo : ∀ s, s < j → lexP key (S s) (S i) := fun s hs => by
      have k1 : ¬ key (S i) < key (S (j - 1)) := by
        rcases g3 with g3 | g3
        · omega
        · exact g3
      have k2 : key (S s) ≤ key (S (j - 1)) := by
        by_cases q : s = j - 1
        · rw [q]; exact Int.le_refl _
        · rcases l s (j - 1) (by omega) (by omega) with h | ⟨h, _⟩ <;> omega
      by_cases q : key (S s) < key (S i)
      · exact .inl q
      · refine .inr ⟨by omega, ?_⟩
        obtain ⟨t', h1, h2⟩ := f s (by omega)
        rw [h2, hv]
        exact hc t' i h1 (by omega)
    have at1 : ∀ t, t < j → shiftA S i j t = S t := fun t h => shift_lt h
    have at2 : ∀ t, j < t → t ≤ i → shiftA S i j t = S (t - 1) := fun t h1 h2 => by
      unfold shiftA
      rw [if_neg (by omega), if_neg (by omega), if_pos h2]
    have at3 : ∀ t, i < t → shiftA S i j t = S t := fun t h => by
      unfold shiftA
      rw [if_neg (by omega), if_neg (by omega), if_neg (by omega)]
    refine ⟨fun s t hst ht => ?_, fun t h1 h2 => ?_, fun t ht => ?_, fun t' ht => ?_⟩
    · rcases Nat.lt_trichotomy t j with q | q | q
      · rw [at1 t q, at1 s (by omega)]
        exact l s t hst (by omega)
      · rw [q, shift_at, at1 s (by omega)]
        exact lo s (by omega)
      · rw [at2 t q (by omega)]
        rcases Nat.lt_trichotomy s j with q2 | q2 | q2
        · rw [at1 s q2]
          exact l s (t - 1) (by omega) (by omega)
        · rw [q2, shift_at]
          exact .inl (g2 (t - 1) (by omega) (by omega))
        · rw [at2 s q2 (by omega)]
          exact l (s - 1) (t - 1) (by omega) (by omega)
    · rw [at3 t (by omega)]
      exact r t (by omega) h2
    · rcases Nat.lt_trichotomy t j with q | q | q
      · rw [at1 t q]
        obtain ⟨t', h1, h2⟩ := f t (by omega)
        exact ⟨t', by omega, h2⟩
      · rw [q, shift_at]
        exact ⟨i, by omega, hv⟩
      · rw [at2 t q (by omega)]
        obtain ⟨t', h1, h2⟩ := f (t - 1) (by omega)
        exact ⟨t', by omega, h2⟩
    · by_cases q : t' = i
      · exact ⟨j, by omega, by rw [shift_at, q]; exact hv⟩
      · obtain ⟨t, h1, h2⟩ := a t' (by omega)
        by_cases q2 : t < j
        · exact ⟨t, by omega, by rw [at1 t q2]; exact h2⟩
        · exact ⟨t + 1, by omega, by rw [at2 (t + 1) (by omega) (by omega)]; exact h2⟩
end Go.Ev
end
section
open Go Go.Ev Go.RowKit
namespace Go.Ev
set_option linter.all false
def upd (f : Nat → Int) (i : Nat) (v : Int) : Nat → Int := fun j => if j = i then v else f j
theorem upd_at {f : Nat → Int} {i : Nat} {v : Int} : upd f i v i = v := by simp [upd]
theorem upd_ne {f : Nat → Int} {i j : Nat} {v : Int} (h : j ≠ i) : upd f i v j = f j := by simp [upd, h]
def begR (r : Run) : Int := r.first - r.c.pr
/-- the room that is taken next -/
def nextR (ro : Nat) (F : Nat → Int) (b : Int) : Int := findI (fun r => decide (F r ≤ b)) ro
/-- from which hour each room is free, and which room each run has, behind k of the runs in their order -/
def roomS (x : Nat → Run) (ro : Nat) (o : Nat → Nat) : Nat → (Nat → Int) × (Nat → Int)
  | 0 => (fun _ => 0, fun _ => -1)
  | k + 1 => (upd (roomS x ro o k).1 (nextR ro (roomS x ro o k).1 (begR (x (o k)))).toNat (x (o k)).first, upd (roomS x ro o k).2 (o k) (nextR ro (roomS x ro o k).1 (begR (x (o k)))))
/-- the runs in the order in which they are given rooms -/
structure OrdP (x : Nat → Run) (n m : Nat) (o : Nat → Nat) : Prop where
  lt : ∀ t, t < m → o t < n
  inj : ∀ s t, s < m → t < m → o s = o t → s = t
  asc : ∀ s t, s < t → t < m → begR (x (o s)) ≤ begR (x (o t))
  pos : ∀ t, t < m → 0 ≤ begR (x (o t)) ∧ begR (x (o t)) < (x (o t)).first
def prepAt (x : Nat → Run) (hour : Int) (i : Nat) : Bool := decide (hour < (x i).first ∧ (x i).first - hour ≤ (x i).c.pr)
structure RoomP (x : Nat → Run) (ro : Nat) (o : Nat → Nat) (k : Nat) : Prop where
  held : ∀ r, r < ro → (roomS x ro o k).1 r = 0 ∨ ∃ t, t < k ∧ (roomS x ro o k).1 r = (x (o t)).first ∧ (roomS x ro o k).2 (o t) = r
  has : ∀ t, t < k → ∃ r : Nat, r < ro ∧ (roomS x ro o k).2 (o t) = r ∧ (x (o t)).first ≤ (roomS x ro o k).1 r
  none' : ∀ i, (∀ t, t < k → o t ≠ i) → (roomS x ro o k).2 i = -1
theorem room_free {x : Nat → Run} {ro n m : Nat} {o : Nat → Nat} (ho : OrdP x n m o) (hro : ∀ k, k < m → cntN (prepAt x (begR (x (o k)))) n ≤ ro) {k : Nat} (hk : k < m) (hi : RoomP x ro o k) :
    ∃ r, r < ro ∧ (roomS x ro o k).1 r ≤ begR (x (o k)) := by
  apply Classical.byContradiction
  intro hno
  have hall : ∀ r, r < ro → ∃ t, t < k ∧ (roomS x ro o k).1 r = (x (o t)).first ∧ (roomS x ro o k).2 (o t) = r := fun r hr => by
    rcases hi.held r hr with h | h
    · exact absurd ⟨r, hr, by have := (ho.pos k hk).1; omega⟩ hno
    · exact h
  let f : Nat → Nat := fun r => if h : ∃ t, t < k ∧ (roomS x ro o k).1 r = (x (o t)).first ∧ (roomS x ro o k).2 (o t) = r then Classical.choose h else 0
  have hf : ∀ r, r < ro → f r < k ∧ (roomS x ro o k).1 r = (x (o (f r))).first ∧ (roomS x ro o k).2 (o (f r)) = r := fun r hr => by
    have e : f r = Classical.choose (hall r hr) := dif_pos (hall r hr)
    rw [e]
    exact Classical.choose_spec (hall r hr)
  have hbig : ∀ r, r < ro → begR (x (o k)) < (roomS x ro o k).1 r := fun r hr => by
    have : ¬ (roomS x ro o k).1 r ≤ begR (x (o k)) := fun h => hno ⟨r, hr, h⟩
    omega
  have := pigeon (p := prepAt x (begR (x (o k)))) n (ro + 1) (fun t => if t < ro then o (f t) else o k) (fun t ht => by
    by_cases q : t < ro
    · simp only [if_pos q]
      obtain ⟨h1, h2, h3⟩ := hf t q
      refine ⟨ho.lt _ (by omega), ?_⟩
      have a1 := ho.asc (f t) k h1 hk
      have a2 := hbig t q
      unfold prepAt
      exact decide_eq_true (by unfold begR at *; omega)
    · simp only [if_neg q]
      refine ⟨ho.lt k hk, ?_⟩
      have a1 := (ho.pos k hk).2
      unfold prepAt
      exact decide_eq_true (by unfold begR at *; omega)) (fun s t hs ht e => by
    by_cases q1 : s < ro <;> by_cases q2 : t < ro
    · simp only [if_pos q1, if_pos q2] at e
      obtain ⟨h1, h2, h3⟩ := hf s q1
      obtain ⟨g1, g2, g3⟩ := hf t q2
      rw [e] at h3
      omega
    · simp only [if_pos q1, if_neg q2] at e
      have := ho.inj _ _ (by have := (hf s q1).1; omega) hk e
      have := (hf s q1).1
      omega
    · simp only [if_neg q1, if_pos q2] at e
      have := ho.inj _ _ hk (by have := (hf t q2).1; omega) e
      have := (hf t q2).1
      omega
    · omega)
  have := hro k hk
  omega
theorem room_step {x : Nat → Run} {ro n m : Nat} {o : Nat → Nat} (ho : OrdP x n m o) {k : Nat} (hk : k < m) (hi : RoomP x ro o k) (hfree : ∃ r, r < ro ∧ (roomS x ro o k).1 r ≤ begR (x (o k))) : RoomP x ro o (k + 1) ∧ ∃ r : Nat, r < ro ∧ nextR ro (roomS x ro o k).1 (begR (x (o k))) = r ∧ (roomS x ro o k).1 r ≤ begR (x (o k)) := by
  have hn : ∃ r : Nat, r < ro ∧ nextR ro (roomS x ro o k).1 (begR (x (o k))) = r ∧ (roomS x ro o k).1 r ≤ begR (x (o k)) := by
    rcases findI_cases (fun r => decide ((roomS x ro o k).1 r ≤ begR (x (o k)))) ro with ⟨r, h1, h2, _, h4⟩ | ⟨h1, _⟩
    · exact ⟨r, h1, h4, of_decide_eq_true h2⟩
    · obtain ⟨r, g1, g2⟩ := hfree
      have := of_decide_eq_false (h1 r g1)
      omega
  refine ⟨?_, hn⟩
  obtain ⟨r, hr, e, hle⟩ := hn
  have hF : (roomS x ro o (k + 1)).1 = upd (roomS x ro o k).1 r (x (o k)).first := by
    show upd _ (nextR ro (roomS x ro o k).1 (begR (x (o k)))).toNat _ = _
    rw [e, Int.toNat_natCast]
  have hR : (roomS x ro o (k + 1)).2 = upd (roomS x ro o k).2 (o k) r := by
    show upd _ _ (nextR ro (roomS x ro o k).1 (begR (x (o k)))) = _
    rw [e]
  have hne : ∀ t, t < k → o t ≠ o k := fun t ht e => by
    have := ho.inj t k (by omega) hk e
    omega
  have hp := (ho.pos k hk).2
  refine ⟨fun q hq => ?_, fun t ht => ?_, fun i h => ?_⟩
  · rw [hF, hR]
    by_cases e1 : q = r
    · subst e1
      exact .inr ⟨k, by omega, by rw [upd_at], by rw [upd_at]⟩
    · rw [upd_ne e1]
      rcases hi.held q hq with h | ⟨t, h1, h2, h3⟩
      · exact .inl h
      · exact .inr ⟨t, by omega, h2, by rw [upd_ne (hne t h1)]; exact h3⟩
  · rw [hF, hR]
    by_cases e1 : t = k
    · subst e1
      exact ⟨r, hr, by rw [upd_at], by rw [upd_at]; exact Int.le_refl _⟩
    · obtain ⟨q, h1, h2, h3⟩ := hi.has t (by omega)
      refine ⟨q, h1, by rw [upd_ne (hne t (by omega))]; exact h2, ?_⟩
      by_cases e2 : q = r
      · subst e2
        rw [upd_at]
        omega
      · rw [upd_ne e2]; exact h3
  · rw [hR, upd_ne (fun e => h k (by omega) e.symm)]
    exact hi.none' i fun t ht => h t (by omega)
theorem room_all {x : Nat → Run} {ro n m : Nat} {o : Nat → Nat} (ho : OrdP x n m o) (hro : ∀ k, k < m → cntN (prepAt x (begR (x (o k)))) n ≤ ro) : ∀ k, k ≤ m → RoomP x ro o k
  | 0, _ => ⟨fun r _ => .inl rfl, fun t h => by omega, fun i _ => rfl⟩
  | k + 1, h => by
    have hi := room_all ho hro k (by omega)
    exact (room_step ho (by omega) hi (room_free ho hro (by omega) hi)).1
end Go.Ev
end
section
open Go Go.Ev Go.RowKit
namespace Go.Ev
set_option maxRecDepth 100000
set_option maxHeartbeats 2000000
set_option linter.all false
def nilO : D → Option Unit
  | .val (.slice none 0 0) => some ()
  | _ => none
theorem nilO_eq {d : D} {u : Unit} (h : nilO d = some u) : d = .val (.slice none 0 0) := by
  unfold nilO at h
  split at h
  · rfl
  · cases h

theorem ins_nil (N : Nat) (x : Nat → Run) : Alone PG 108 [.val (.slice none 0 0), i6 0, i6 0, .fn 63 [] [.ref [rowR N x] 0]] (.tup []) :=
  Alone.ofW (cl := T62) (raw := false) hm0 T62_ok cf_108 fun K w => by
    refine aw_reg (True ∧ inRange IntKind.i64 ((0 : Int) + (1 : Int))) (by (simp only [inRange_i64, true_and]; omega)) (?_)
    refine aw_loopE (ι := Unit) hm0 (T62_ok K) (fun _ => [(8, i6 1)]) (fun _ => []) (fun _ => 0) () (fun _ => ?_)
    refine aw_assoc (aw_reg0 (aw_no (aw_exits (round_exit (blk_exit (end_d (D.tup []) ?_))))))
    all_goals rfl

def R108n : List D → Option (Option Prop × D)
  | [d0, d1, d2, .fn 63 [] [d3]] => match nilO d0, inO d1, inO d2, runsR d3 with
    | some _, some a0, some a1, some (q, N, x) => some (some (q ∧ a0 = 0 ∧ a1 = 0), .tup [])
    | _, _, _, _ => none
  | _ => none
noncomputable def T108n := orCl (aloC 108 R108n) T62
theorem T108n_ok (K : Cust) : ClOK K PG T108n := tab_cons cf_108 (fun ds p d h hp => by
    unfold R108n at h
    split at h
    · split at h
      · rename_i e0 e1 e2 e3
        obtain rfl := nilO_eq e0
        obtain rfl := inO_eq e1
        obtain rfl := inO_eq e2
        cases h
        obtain ⟨h1, h2, h3⟩ := hp _ rfl
        subst h2
        subst h3
        exact ⟨_, less_cons (LessD.refl _) (less_cons (LessD.refl _) (less_cons (LessD.refl _) (less_cons (less_fn (Less.refl _) (less_cons (runsR_less e3 h1) (Less.refl _))) (Less.refl _)))), by simp [freeL, freeD, rowR_free], by simp [freeD, freeL], ins_nil _ _⟩
      · cases h
    · cases h) (T62_ok K)
theorem stable_nil (N : Nat) (x : Nat → Run) : Alone PG 93 [.val (.slice none 0 0), i6 0, .fn 63 [] [.ref [rowR N x] 0]] (.tup []) :=
  Alone.ofW (cl := T108n) (raw := false) hm0 T108n_ok cf_93 fun K w => by
    refine aw_reg0 (aw_reg0 (aw_unroll 1 hm0 (T108n_ok K) (unr_step (aw_assoc (aw_reg0 (aw_no (aw_exits (unr_exit (blk_exit (seq_normal (aw_reg (True ∧ (∀ (i : Nat), i < N → runD (x i) = runD (x i)) ∧ (0 : Int) = (0 : Int) ∧ (0 : Int) = (0 : Int)) ?_ (?_))))))))))))
    · exact ⟨trivial, fun _ _ => rfl, rfl, rfl⟩
    · refine aw_loopE (ι := Unit) hm0 (T108n_ok K) (fun _ => [(6, i6 20)]) (fun _ => []) (fun _ => 0) () (fun _ => ?_)
      refine aw_assoc (aw_reg0 (aw_no (aw_exits (round_exit (blk_exit (end_d (D.tup []) ?_))))))
      all_goals rfl

def R93n : List D → Option (Option Prop × D)
  | [d0, d1, .fn 63 [] [d2]] => match nilO d0, inO d1, runsR d2 with
    | some _, some a0, some (q, N, x) => some (some (q ∧ a0 = 0), .tup [])
    | _, _, _ => none
  | _ => none
noncomputable def T93n := orCl (aloC 93 R93n) T108n
theorem T93n_ok (K : Cust) : ClOK K PG T93n := tab_cons cf_93 (fun ds p d h hp => by
    unfold R93n at h
    split at h
    · split at h
      · rename_i e0 e1 e2
        obtain rfl := nilO_eq e0
        obtain rfl := inO_eq e1
        cases h
        obtain ⟨h1, h2⟩ := hp _ rfl
        subst h2
        exact ⟨_, less_cons (LessD.refl _) (less_cons (LessD.refl _) (less_cons (less_fn (Less.refl _) (less_cons (runsR_less e2 h1) (Less.refl _))) (Less.refl _))), by simp [freeL, freeD, rowR_free], by simp [freeD, freeL], stable_nil _ _⟩
      · cases h
    · cases h) (T108n_ok K)
theorem sort_nil (N : Nat) (x : Nat → Run) : Alone PG 62 [.val (.slice none 0 0), .fn 63 [] [.ref [rowR N x] 0]] (.tup []) :=
  Alone.ofW (cl := T93n) (raw := false) hm0 T93n_ok cf_62 fun K w => by
    refine aw_end (True ∧ (∀ (i : Nat), i < N → runD (x i) = runD (x i)) ∧ (0 : Int) = (0 : Int)) ?_ (end_d (D.tup []) ?_)
    all_goals first
      | rfl
      | exact ⟨trivial, fun _ _ => rfl, rfl⟩

def R62n : List D → Option (Option Prop × D)
  | [d0, .fn 63 [] [d1]] => match nilO d0, runsR d1 with
    | some _, some (q, N, x) => some (some (q), .tup [])
    | _, _ => none
  | _ => none
noncomputable def T62n := orCl (seeC 62 R62n) T93n
theorem T62n_ok (K : Cust) : ClOK K PG T62n := tab_see cf_62 (fun ds p d h hp => by
    unfold R62n at h
    split at h
    · split at h
      · rename_i e0 e1
        obtain rfl := nilO_eq e0
        cases h
        have h1 := hp _ rfl
        exact ⟨_, less_cons (LessD.refl _) (less_cons (less_fn (Less.refl _) (less_cons (runsR_less e1 h1) (Less.refl _))) (Less.refl _)), sort_nil _ _⟩
      · cases h
    · cases h) (T93n_ok K)
theorem free_alone (n : Nat) (x : Nat → Run) (t : Int) (i : Nat) (hi : i < n) (h : ∀ i, i < n → smallR (x i)) : Alone PG 67 [i6 t, .ref [rowR n x] 0, .ref [i6 i] 0] (bD (decide (t ≤ begR (x i)))) :=
  Alone.ofW (cl := T62n) (raw := false) hm0 T62n_ok cf_67 fun K w => by
    refine aw_reg0 (aw_reg ((True ∧ (0 : Int) ≤ (↑i : Int) ∧ (↑i : Int) < (↑n : Int)) ∧ inRange IntKind.i64 ((x i).first - (x i).c.pr)) (by (have q1 := h i hi; unfold smallR at q1; simp only [inRange_i64, true_and]; omega)) (aw_ret (end_b (decide (t ≤ (x i).first - (x i).c.pr)) ?_)))
    rfl

theorem free_int (n : Nat) (x : Nat → Run) (t a : Int) (ha : 0 ≤ a ∧ a < n) (h : ∀ i, i < n → smallR (x i)) : Alone PG 67 [i6 t, .ref [rowR n x] 0, .ref [i6 a] 0] (bD (decide (t ≤ begR (x a.toNat)))) := by
  have := free_alone n x t a.toNat (by omega) h
  rwa [Int.toNat_of_nonneg ha.1] at this
def R67 : List D → Option (Option Prop × D)
  | [d0, d1, d2] => match inO d0, runsR d1, refI d2 with
    | some t, some (q, n, x), some a => some (some (q ∧ (0 ≤ a ∧ a < n) ∧ ∀ i, i < n → smallR (x i)), bD (decide (t ≤ begR (x a.toNat))))
    | _, _, _ => none
  | _ => none
noncomputable def T67 := orCl (aloC 67 R67) T62n
theorem T67_ok (K : Cust) : ClOK K PG T67 := tab_cons cf_67 (fun ds p d h hp => by
    unfold R67 at h
    split at h
    · split at h
      · rename_i e0 e1 e2
        obtain rfl := inO_eq e0
        obtain rfl := refI_eq e2
        cases h
        obtain ⟨h1, h2, h3⟩ := hp _ rfl
        exact ⟨_, less_cons (LessD.refl _) (less_cons (runsR_less e1 h1) (Less.refl _)), by simp [freeL, freeD, rowR_free], by simp [freeD], free_int _ _ _ _ h2 h3⟩
      · cases h
    · cases h) (T62n_ok K)
theorem ix67 (N : Nat) (X : Nat → Run) (a : Int) (n : Nat) (x : Nat → Int) (hn : n ≤ 1000000) (ha : 0 ≤ a ∧ a < N) (hX : ∀ i, i < N → smallR (X i)) : Alone PG 66 [rowI n x, .fn 67 [] [.ref [rowR N X] 0, .ref [i6 a] 0]] (i6 (findI (fun i => decide (x i ≤ begR (X a.toNat))) n)) :=
  Alone.ofW (cl := T67) (raw := false) hm0 T67_ok cf_66 fun K w => by
    refine aw_reg0 (aw_assoc (aw_reg0 (?_)))
    refine aw_loopV (ι := {i : Nat // i ≤ n ∧ ∀ j, j < i → (decide (x j ≤ begR (X a.toNat))) = false}) hm0 (T67_ok K) (fun z => [(8, i6 z.1)]) (fun _ => []) (fun z => n - z.1) ⟨0, Nat.zero_le n, fun j hj => by omega⟩ (fun z => ?_)
    obtain ⟨i, hin, hall⟩ := z
    
    refine aw_reg0 (aw_ifsd ((↑i : Int) < (↑n : Int)) (fun h1 => aw_skips (aw_blocks (aw_reg0 (aw_reg ((True ∧ (0 : Int) ≤ (↑i : Int) ∧ (↑i : Int) < (↑n : Int)) ∧ (∀ (i : Nat), i < N → runD (X i) = runD (X i)) ∧ ((0 : Int) ≤ a ∧ a < (↑N : Int)) ∧ ∀ (i : Nat), i < N → smallR (X i)) (by ((try simp only [inRange_i64] at *); (try simp only [implies_true, and_self, true_and, and_true]); (repeat' (with_reducible apply And.intro)) <;> first | exact True.intro | exact fun _ _ => rfl | exact fun _ _ => ⟨rfl, rfl⟩ | omega | assumption | (intros; simp [freeL, freeD]; done))) (aw_ifd (x i ≤ begR (X (Int.toNat a))) (fun h2 => aw_reg0 (aw_ret (blk_ret (seq_ret (round_ret (blk_ret (seq_ret (end_i ((↑i : Int)) ?_)))))))) (fun h3 => aw_skip (blk_normal (seq_normal (aw_end (True ∧ inRange IntKind.i64 ((↑i : Int) + (1 : Int))) (by (simp only [inRange_i64, true_and]; omega)) (round_t 1 ((∀ (i : Nat), i < n → True ∧ True) ∧ (True ∧ ((∀ (i : Nat), i < N → True ∧ True ∧ True ∧ True ∧ True ∧ True ∧ True ∧ True ∧ True) ∧ True) ∧ (True ∧ True) ∧ True) ∧ (∀ (i : Nat), i < n → True ∧ True) ∧ True) (True) (by (simp)) (by (exact True.intro)) ?_)))))))))) (fun h4 => aw_exits (round_exit (blk_exit (seq_normal (aw_reg0 (aw_ret (end_i ((-1 : Int)) ?_))))))))
    · exact (findI_at (p := fun i => decide (x i ≤ begR (X a.toNat))) (by omega) (by simp_all [intL_i6]; try omega) hall).symm
    · exact round_v ⟨i + 1, by omega, fun j hj => by
        rcases Nat.lt_or_ge j i with h | h
        · exact hall j h
        · have : j = i := by omega
          subst this; simp_all [intL_i6]; try omega⟩ (by show n - (i + 1) < n - i; omega)
    · have hin' : i = n := by omega
      subst hin'
      exact (findI_none hall).symm

def R66_67 : List D → Option (Option Prop × D)
  | [d0, .fn 67 [] [d1, d2]] => match intsO d0, runsR d1, refI d2 with
    | some (p, n, x), some (q, N, X), some a => some (some (p ∧ q ∧ n ≤ 1000000 ∧ (0 ≤ a ∧ a < N) ∧ ∀ i, i < N → smallR (X i)), i6 (findI (fun i => decide (x i ≤ begR (X a.toNat))) n))
    | _, _, _ => none
  | _ => none
noncomputable def T66_67 := orCl (seeC 66 R66_67) T67
theorem T66_67_ok (K : Cust) : ClOK K PG T66_67 := tab_see cf_66 (fun ds p d h hp => by
    unfold R66_67 at h
    split at h
    · split at h
      · rename_i e0 e1 e2
        obtain rfl := refI_eq e2
        cases h
        obtain ⟨h1, h2, h3, h4, h5⟩ := hp _ rfl
        exact ⟨_, less_cons (intsO_less e0 h1) (less_cons (less_fn (Less.refl _) (less_cons (runsR_less e1 h2) (Less.refl _))) (Less.refl _)), ix67 _ _ _ _ _ h3 h4 h5⟩
      · cases h
    · cases h) (T67_ok K)
end Go.Ev
end
section
open Go Go.Ev Go.RowKit
namespace Go.Ev
set_option linter.all false
def ordN (x : Nat → Run) : Nat → Nat
  | 0 => 0
  | i + 1 => bif decide ((x i).c.pr > 0) then ordN x i + 1 else ordN x i
def ordF (x : Nat → Run) : Nat → Nat → Int
  | 0 => fun _ => 0
  | i + 1 => bif decide ((x i).c.pr > 0) then (fun t => if t < ordN x i then ordF x i t else i) else ordF x i
theorem ord_t {x : Nat → Run} {i : Nat} (h : (x i).c.pr > 0) : ordN x (i + 1) = ordN x i + 1 ∧ ordF x (i + 1) = fun t => if t < ordN x i then ordF x i t else i := by
  simp only [ordN, ordF, decide_eq_true h, cond_true]
  exact ⟨trivial, trivial⟩
theorem ord_f {x : Nat → Run} {i : Nat} (h : ¬ (x i).c.pr > 0) : ordN x (i + 1) = ordN x i ∧ ordF x (i + 1) = ordF x i := by
  simp only [ordN, ordF, decide_eq_false h, cond_false]
  exact ⟨trivial, trivial⟩
theorem ord_le {x : Nat → Run} : ∀ i, ordN x i ≤ i
  | 0 => Nat.le_refl _
  | i + 1 => by
    have := ord_le (x := x) i
    simp only [ordN]
    cases decide ((x i).c.pr > 0) <;> simp <;> omega
theorem ord_val {x : Nat → Run} : ∀ i t, t < ordN x i → ∃ j : Nat, j < i ∧ ordF x i t = j ∧ (x j).c.pr > 0
  | 0, t, h => by simp [ordN] at h
  | i + 1, t, h => by
    by_cases q : (x i).c.pr > 0
    · obtain ⟨e1, e2⟩ := ord_t q
      rw [e1] at h
      rw [e2]
      by_cases q2 : t < ordN x i
      · obtain ⟨j, h1, h2, h3⟩ := ord_val i t q2
        exact ⟨j, by omega, by simp only [if_pos q2]; exact h2, h3⟩
      · exact ⟨i, by omega, by simp only [if_neg q2], q⟩
    · obtain ⟨e1, e2⟩ := ord_f q
      rw [e1] at h
      rw [e2]
      obtain ⟨j, h1, h2, h3⟩ := ord_val i t h
      exact ⟨j, by omega, h2, h3⟩
theorem ord_asc {x : Nat → Run} : ∀ i s t, s < t → t < ordN x i → ordF x i s < ordF x i t
  | 0, s, t, _, h => by simp [ordN] at h
  | i + 1, s, t, hst, h => by
    by_cases q : (x i).c.pr > 0
    · obtain ⟨e1, e2⟩ := ord_t q
      rw [e1] at h
      rw [e2]
      by_cases q2 : t < ordN x i
      · simp only [if_pos q2, if_pos (show s < ordN x i by omega)]
        exact ord_asc i s t hst q2
      · obtain ⟨j, h1, h2, h3⟩ := ord_val (x := x) i s (by omega)
        simp only [if_neg q2, if_pos (show s < ordN x i by omega), h2]
        omega
    · obtain ⟨e1, e2⟩ := ord_f q
      rw [e1] at h
      rw [e2]
      exact ord_asc i s t hst h
theorem ord_all {x : Nat → Run} : ∀ i j, j < i → (x j).c.pr > 0 → ∃ t, t < ordN x i ∧ ordF x i t = j
  | 0, j, h, _ => by omega
  | i + 1, j, h, hp => by
    by_cases q : (x i).c.pr > 0
    · obtain ⟨e1, e2⟩ := ord_t q
      rw [e1, e2]
      by_cases q2 : j = i
      · exact ⟨ordN x i, by omega, by simp [q2]⟩
      · obtain ⟨t, h1, h2⟩ := ord_all i j (by omega) hp
        exact ⟨t, by omega, by simp only [if_pos h1]; exact h2⟩
    · obtain ⟨e1, e2⟩ := ord_f q
      rw [e1, e2]
      have : j ≠ i := fun e => q (e ▸ hp)
      exact ord_all i j (by omega) hp
/-- the order in which runs are given rooms -/
def ordO (x : Nat → Run) (n : Nat) (k : Nat) : Nat := (sortI (keyI x) (ordF x n) (ordN x n) k).toNat
theorem ordO_val {x : Nat → Run} {n k : Nat} (hk : k < ordN x n) : ordO x n k < n ∧ sortI (keyI x) (ordF x n) (ordN x n) k = ordO x n k ∧ (x (ordO x n k)).c.pr > 0 := by
  obtain ⟨l, r, f, a⟩ := sort_spec (key := keyI x) (c := ordF x n) (n := ordN x n) (fun s t h1 h2 => ord_asc n s t h1 h2) (ordN x n) (Nat.le_refl _)
  obtain ⟨t', h1, h2⟩ := f k hk
  obtain ⟨j, h3, h4, h5⟩ := ord_val n t' h1
  have e : sortI (keyI x) (ordF x n) (ordN x n) k = (j : Int) := h2.trans h4
  have e2 : ordO x n k = j := by unfold ordO; rw [e, Int.toNat_natCast]
  rw [e2]
  exact ⟨h3, e, h5⟩
theorem ordO_ok {x : Nat → Run} {n : Nat} (h : ∀ i, i < n → 0 ≤ begR (x i)) : OrdP x n (ordN x n) (ordO x n) := by
  obtain ⟨l, r, f, a⟩ := sort_spec (key := keyI x) (c := ordF x n) (n := ordN x n) (fun s t h1 h2 => ord_asc n s t h1 h2) (ordN x n) (Nat.le_refl _)
  have key : ∀ t, t < ordN x n → keyI x (sortI (keyI x) (ordF x n) (ordN x n) t) = begR (x (ordO x n t)) := fun t ht => rfl
  have lex : ∀ s t, s < t → t < ordN x n → begR (x (ordO x n s)) < begR (x (ordO x n t)) ∨ begR (x (ordO x n s)) = begR (x (ordO x n t)) ∧ ordO x n s < ordO x n t := fun s t h1 h2 => by
    rcases l s t h1 h2 with q | ⟨q1, q2⟩
    · rw [key s (by omega), key t h2] at q
      exact .inl q
    · rw [key s (by omega), key t h2] at q1
      rw [(ordO_val (show s < ordN x n by omega)).2.1, (ordO_val h2).2.1] at q2
      exact .inr ⟨q1, by omega⟩
  refine ⟨fun t ht => (ordO_val ht).1, fun s t hs ht e => ?_, fun s t h1 h2 => ?_, fun t ht => ?_⟩
  · rcases Nat.lt_trichotomy s t with q | q | q
    · rcases lex s t q ht with q2 | ⟨_, q2⟩
      · rw [e] at q2; omega
      · omega
    · exact q
    · rcases lex t s q hs with q2 | ⟨_, q2⟩
      · rw [e] at q2; omega
      · omega
  · rcases lex s t h1 h2 with q | ⟨q, _⟩ <;> omega
  · have h1 := h _ (ordO_val ht).1
    have h2 := (ordO_val ht).2.2
    refine ⟨h1, ?_⟩
    unfold begR
    omega
theorem breB_room {h : Hall} {n : Nat} {x : Nat → Run} (e : (breB h n x).rule = 0) : (roomB h n x).rule = 0 := by
  unfold breB at e
  repeat' split at e
  all_goals first
    | (exfalso; omega)
    | exact e
    | assumption
    | (rename_i q; exact absurd e q)
    | (rename_i q; exact Classical.not_not.1 q)
theorem roomB_le {h : Hall} {n : Nat} {x : Nat → Run} (e : (roomB h n x).rule = 0) (j : Nat) (hj : j < h.n) : prepI x n j ≤ h.ro := by
  rcases findI_cases (fun i => decide (prepI x n i > h.ro)) h.n with ⟨k, hk, h1, h2, h3⟩ | ⟨h1, h2⟩
  · have : (roomB h n x).rule = 5 := by unfold roomB; rw [h3, decide_eq_true (by omega)]; rfl
    omega
  · have := of_decide_eq_false (h1 j hj)
    omega
theorem keepB_rooms {h : Hall} {n : Nat} {c : Nat → Camp} {m : Nat} {p : Nat → Int} (e : keepB h n c m p = true) (hro : 1 ≤ h.ro) : OrdP (planR c p) n (ordN (planR c p) n) (ordO (planR c p) n) ∧ ∀ k, k < ordN (planR c p) n → cntN (prepAt (planR c p) (begR (planR c p (ordO (planR c p) n k)))) n ≤ h.ro.toNat := by
  have hk := keepB_prep e
  refine ⟨ordO_ok fun i hi => by have := hk i hi; show 0 ≤ p i - (c i).pr; omega, fun k hkm => ?_⟩
  obtain ⟨h1, h2, h3⟩ := ordO_val hkm
  generalize ordO (planR c p) n k = i at *
  have q := hk i h1
  have h3' : (c i).pr > 0 := h3
  have hle := roomB_le (breB_room (keepB_ok e).2) (p i - (c i).pr).toNat (by omega)
  rw [prep_count] at hle
  have e1 : ((p i - (c i).pr).toNat : Int) = p i - (c i).pr := by omega
  rw [e1] at hle
  rw [Int.toNat_of_nonneg (by omega)]
  exact hle
end Go.Ev
end
