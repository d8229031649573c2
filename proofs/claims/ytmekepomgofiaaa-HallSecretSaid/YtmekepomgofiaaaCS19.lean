import Derived.Test.YtmekepomgofiaaaCS18
import Derived.Test.YtmekepomgofiaaaCS14
import Derived.Test.YtmekepomgofiaaaCS12
set_option linter.all false
section
namespace Go.Ev
section
variable {K : Cust} {P : Program} {w w' : World} {ρ : List Own} {hp : List Blk} {nid : Nat}
theorem see_subB {id0 b0 n0 : Nat} (ho0 : ρ[id0]? = some (Own.live b0 n0)) : Sub (mask K w ρ) (mask K w [.fresh, .live b0 n0]) := fun c cs ty fr h => by
  rw [mask_some] at *
  refine ⟨?_, h.2⟩
  rintro (hh | ⟨i, k, hi⟩)
  · exact h.1 (.inl hh)
  · match i, hi with
    | 0, hi => simp at hi
    | 1, hi =>
      simp at hi
      obtain ⟨rfl, rfl⟩ := hi
      exact h.1 (.inr ⟨id0, n0, ho0⟩)
    | i + 2, hi => simp at hi
theorem see_ownB {b b0 n0 : Nat} {cs : Array Value} {ty : TypeId} {fr : Nat × Nat} (h : w.heap[b]? = some (Obj.cells cs ty fr)) (hb : ¬ K.hid b) (hne : b ≠ b0) : (mask K w [.fresh, .live b0 n0]).heap[b]? = some (Obj.cells cs ty fr) := by
  rw [mask_some]
  refine ⟨?_, h⟩
  rintro (hh | ⟨i, k, hi⟩)
  · exact hb hh
  · match i, hi with
    | 0, hi => simp at hi
    | 1, hi => simp at hi; exact hne hi.1.symm
    | i + 2, hi => simp at hi
theorem own_blockB {id id0 : Nat} {x : Blk} (hk : OK K w ρ hp) (hg : getG (hp.set id0 .dead) id = some x) (hx : x ≠ .dead) : ∃ b n, own ρ id = .live b n ∧ RepB K w (mask K w ρ) ρ (.live b n) x ∧ id ≠ id0 := by
  rw [getG_eq, List.getElem?_set] at hg
  split at hg
  · split at hg
    · exact absurd (Option.some.inj hg).symm hx
    · cases hg
  · rename_i hne
    obtain ⟨b, n, h1, h2⟩ := own_block hk (by rw [getG_eq]; exact hg) hx
    exact ⟨b, n, h1, h2, fun e => hne e.symm⟩
theorem seeB_ok {id0 b0 n0 : Nat} (ho0 : ρ[id0]? = some (Own.live b0 n0)) (hk : OK K w ρ hp) : ∀ (n : Nat) (d d' : D) (v : Value) (p : Option Prop), Rep K (mask K w ρ) ρ d v → seeS (hp.set id0 .dead) n d = some (p, d') → holdsO p → Rep K (mask K w [.fresh, .live b0 n0]) [.fresh, .live b0 n0] d' v
  | 0, d, d', v, p, h, hs, _ => by simp [seeS] at hs
  | n + 1, d, d', v, p, h, hs, hq => by
    have ih := seeB_ok ho0 hk n
    have ihL : ∀ {ds ds' : List D} {vs : List Value} {p : Option Prop}, mapO (seeS (hp.set id0 .dead) n) ds = some (p, ds') → holdsO p → RepL K (mask K w ρ) ρ ds vs → RepL K (mask K w [.fresh, .live b0 n0]) [.fresh, .live b0 n0] ds' vs := fun {ds ds' vs p} hm hp hl => by
      obtain ⟨g1, g2⟩ := mapO_get hm hp
      refine repL_of (by rw [← g1]; exact repL_length hl) fun i e hi => ?_
      obtain ⟨d, q, q1, q2, q3⟩ := g2 i e hi
      obtain ⟨u, q4, q5⟩ := repL_get hl q1
      exact ⟨u, q4, ih d e u q q5 q2 q3⟩
    have ihB : ∀ {id b m : Nat} {cs cs' : List D} {p : Option Prop}, own ρ id = .live b m → id ≠ id0 → RepB K w (mask K w ρ) ρ (.live b m) (.cells cs) → mapO (seeS (hp.set id0 .dead) n) cs = some (p, cs') → holdsO p → Reads K (mask K w [.fresh, .live b0 n0]) (mask K w [.fresh, .live b0 n0]) [.fresh, .live b0 n0] cs' b 0 := fun {id b m cs cs' p} ho hne hB hm hp => by
      obtain ⟨vs, ty, q1, q2, q3⟩ := hB
      have hcell := see_ownB (b0 := b0) (n0 := n0) q1 (hk.apart id b m (own_live ho)) (fun (e : b = b0) => hne (hk.inj id id0 b m n0 (own_live ho) (by rw [e]; exact ho0)))
      obtain ⟨g1, g2⟩ := mapO_get hm hp
      intro j e hj
      obtain ⟨d, q, k1, k2, k3⟩ := g2 j e hj
      obtain ⟨x, k4, k5⟩ := q3 j d k1
      exact ⟨x, by rw [cell_of hcell, Nat.zero_add]; exact k4, ih d e x q k5 k2 k3⟩
    cases d with
    | any => simp only [seeS] at hs; cases hs; trivial
    | val x => simp only [seeS] at hs; cases hs; simpa only [Rep] using h
    | cust t q => simp only [seeS] at hs; cases hs; simp only [Rep] at *; exact K.mono _ _ _ _ _ (see_subB ho0) h
    | emp z => simp only [seeS] at hs; cases hs; simpa only [Rep] using h
    | map id => simp [seeS] at hs
    | row k len f =>
      simp only [seeS] at hs
      cases hs
      have hf := hq _ rfl
      simp only [Rep] at *
      exact h.imp id fun ⟨b, o, c, h1, h2, h3⟩ => ⟨b, o, c, h1, h2, fun i hi => RepC.free (K := K) (K' := K) (see_subB ho0) (fun t q v hc => K.mono _ _ _ _ _ (see_subB ho0) hc) (f i) b _ (hf i hi) (h3 i hi)⟩
    | ref cs off =>
      simp only [seeS] at hs
      split at hs
      · rename_i p' cs' hm
        cases hs
        obtain ⟨g1, g2⟩ := mapO_get hm hq
        simp only [Rep] at *
        obtain ⟨b, o, h1, h2⟩ := h
        refine ⟨b, o, h1, reads_C fun j e hj => ?_⟩
        obtain ⟨d, q, k1, k2, k3⟩ := g2 j e hj
        obtain ⟨x, k4, k5⟩ := repC_reads (w := mask K w ρ) (fun _ _ _ _ h => h) h2 j d k1
        exact ⟨x, (see_subB ho0).cell k4, ih d e x q k5 k2 k3⟩
      · cases hs
    | sl id off len k cap =>
      simp only [seeS] at hs
      split at hs
      · rename_i m f hg
        cases hs
        obtain ⟨hle, hf⟩ := hq _ rfl
        obtain ⟨b, N, ho, hB, hne⟩ := own_blockB hk hg (by intro e; cases e)
        simp only [Rep, ho] at h ⊢
        obtain ⟨c, rfl, hlc, _⟩ := h
        obtain ⟨vs, ty, q1, q2, q3, q4⟩ := hB
        have hcell := see_ownB (b0 := b0) (n0 := n0) q1 (hk.apart id b N (own_live ho)) (fun (e : b = b0) => hne (hk.inj id id0 b N n0 (own_live ho) (by rw [e]; exact ho0)))
        refine .inr ⟨b, off, c, rfl, hlc, fun i hi => reads_C fun j e hj => ?_⟩
        rw [addmul] at hj
        obtain ⟨hjk, rfl⟩ := tabF_at hj
        have hb : off + i * k + j < m := by
          have : (i + 1) * k ≤ len * k := Nat.mul_le_mul_right k hi
          rw [Nat.add_mul, Nat.one_mul] at this
          omega
        obtain ⟨x, p1, p2⟩ := q4 _ hb
        exact ⟨x, by rw [cell_of hcell]; exact p1, Rep.free (K := K) (K' := K) (see_subB ho0) (fun t q v hc => K.mono _ _ _ _ _ (see_subB ho0) hc) _ x (hf _ hb) p2⟩
      · rename_i cs hg
        split at hs
        · rename_i hle
          split at hs
          · rename_i p' cs' hm
            cases hs
            obtain ⟨b, N, ho, hB, hne⟩ := own_blockB hk hg (by intro e; cases e)
            have hrd := ihB ho hne hB hm hq
            simp only [Rep, ho] at h ⊢
            obtain ⟨c, rfl, hlc, _⟩ := h
            refine .inr ⟨b, off, c, rfl, hlc, fun i hi => reads_C fun j e hj => ?_⟩
            unfold cutC at hj
            rw [takeG_eq, dropG_eq, addmul, List.getElem?_take] at hj
            split at hj
            · rw [List.getElem?_drop] at hj
              have := hrd _ e hj
              rw [Nat.zero_add] at this
              exact this
            · cases hj
          · cases hs
        · cases hs
      · cases hs
    | ptr id off =>
      simp only [seeS] at hs
      split at hs
      · rename_i cs hg
        split at hs
        · rename_i p' cs' hm
          cases hs
          obtain ⟨b, N, ho, hB, hne⟩ := own_blockB hk hg (by intro e; cases e)
          have hrd := ihB ho hne hB hm hq
          simp only [Rep, ho] at h ⊢
          exact ⟨b, 0, by rw [Nat.zero_add]; exact h, reads_C hrd⟩
        · cases hs
      · cases hs
    | agg ds =>
      simp only [seeS] at hs
      split at hs
      · rename_i p' ds' hm
        cases hs
        simp only [Rep] at *
        obtain ⟨vs, rfl, h2⟩ := h
        exact ⟨vs, rfl, ihL hm hq h2⟩
      · cases hs
    | tup ds =>
      simp only [seeS] at hs
      split at hs
      · rename_i p' ds' hm
        cases hs
        simp only [Rep] at *
        obtain ⟨vs, rfl, h2⟩ := h
        exact ⟨vs, rfl, ihL hm hq h2⟩
      · cases hs
    | fn f a b =>
      simp only [seeS] at hs
      split at hs
      · rename_i p1 a' ha
        split at hs
        · rename_i p2 b' hb
          cases hs
          obtain ⟨k1, k2⟩ := holdsO_and hq
          simp only [Rep] at *
          obtain ⟨x, y, rfl, h1, h2⟩ := h
          exact ⟨x, y, rfl, ihL ha k1 h1, ihL hb k2 h2⟩
        · cases hs
      · cases hs
    | iface t d =>
      simp only [seeS] at hs
      split at hs
      · rename_i p' d' hd
        cases hs
        simp only [Rep] at *
        obtain ⟨x, rfl, h2⟩ := h
        exact ⟨x, rfl, ih d d' x _ h2 hd hq⟩
      · cases hs
end
end Go.Ev
end
section
namespace Go.Ev
section
variable {K : Cust} {P : Program} {w w' : World} {ρ : List Own} {hp : List Blk} {nid id b n m : Nat} {g g' : Nat → Value}
theorem OK.oneK (hk : OK K w ρ hp) (ho : ρ[id]? = some (Own.live b n)) (hb : hp[id]? = some (.arr m fun j => .val (g j))) : OK K w [.fresh, .live b n] [.dead, .arr m fun j => .val (g j)] := by
  refine ⟨rfl, fun i c k hi => ?_, fun i j c k l h1 h2 => ?_, fun i x hx => ?_, hk.hid, fun i c k hi hh => ?_⟩
  · match i, hi with
    | 0, hi => simp at hi
    | 1, hi => simp at hi; obtain ⟨rfl, rfl⟩ := hi; exact hk.lt id b n ho
    | i + 2, hi => simp at hi
  · match i, j, h1, h2 with
    | 0, _, h1, _ => simp at h1
    | _, 0, _, h2 => simp at h2
    | 1, 1, _, _ => rfl
    | i + 2, _, h1, _ => simp at h1
    | _, j + 2, _, h2 => simp at h2
  · match i, hx with
    | 0, hx => simp at hx; subst hx; trivial
    | 1, hx =>
      simp at hx
      subst hx
      have := hk.blk id _ hb
      rw [own_some ho] at this
      exact arr_cust (K := K) (K' := K) this
    | i + 2, hx => simp at hx
  · match i, hi with
    | 0, hi => simp at hi
    | 1, hi =>
      simp at hi
      obtain ⟨rfl, rfl⟩ := hi
      exact hk.apart id b n ho hh
    | i + 2, hi => simp at hi
theorem Res.oneK {d : D} {v : Value} {p : Option Prop} (hk : OK K w ρ hp) (ho : ρ[id]? = some (Own.live b n)) (hb : hp[id]? = some (.arr m fun j => .val (g j))) (hd : isPl d = true)
    (h : Res (K) w [.fresh, .live b n] [.dead, .arr m fun j => .val (g j)] 0 ⟨none, d, [(1, .arr m fun j => .val (g' j))], []⟩ v w') : Res K w ρ hp nid ⟨p, d, [(id, .arr m fun j => .val (g' j))], []⟩ v w' := by
  obtain ⟨ρ1, h1, h2⟩ := h
  have hkeep : ∀ c : Nat, c < w.heap.size → c ≠ b → w'.heap[c]? = w.heap[c]? := fun c hc hne => h2.keep c hc fun i k hi => by
    match i, hi with
    | 0, hi => simp at hi
    | 1, hi => simp at hi; exact absurd hi.1.symm hne
    | i + 2, hi => simp at hi
  have hok := h2.ok _ (Le.refl _) (hk.oneK ho hb)
  have hb1 : RepB (K) w' (mask (K) w' ρ1) ρ1 (own ρ1 1) (.arr m fun j => .val (g' j)) := hok.blk 1 _ (by simp [app])
  have hlive : own ρ1 1 = .live b n := by
    have hle : ole (.live b n) (own ρ1 1) := by simpa [own] using h2.le 1
    rcases hle with e | e
    · exact e
    · rw [e] at hb1
      exact hb1.elim
  rw [hlive] at hb1
  have hsub : Sub (mask K w ρ) (mask K w' ρ) := fun c cs ty fr hc => by
    rw [mask_some] at *
    refine ⟨hc.1, ?_⟩
    rw [hkeep c (lt_of_cells hc.2) (fun e => hc.1 (e ▸ .inr ⟨id, n, ho⟩))]
    exact hc.2
  have hidl := (List.getElem?_eq_some_iff.1 hb).1
  refine ⟨ρ, isPl_cust hd h1, h2.size, fun c hc hcond => hkeep c hc fun e => ?_, fun c hc => .inl hc, rfl, OwnLe.refl ρ, fun hp2 hle hk2 => ?_, fun i q1 q2 => ⟨fun y hy => ?_, rfl⟩, fun i h _ => h, h2.env⟩
  · subst e
    have := hcond id n ho
    rw [hb] at this
    cases this
  · rw [List.append_nil]
    refine ⟨by simp [app, hk2.len], fun i c k hi => Nat.lt_of_lt_of_le (hk2.lt i c k hi) h2.size, hk2.inj, fun i y hy => ?_, fun c hc => Nat.lt_of_lt_of_le (hk2.hid c hc) h2.size, hk2.apart⟩
    simp only [app, List.foldl_cons, List.foldl_nil, List.getElem?_set] at hy
    split at hy
    · rename_i e
      subst e
      have : y = .arr m fun j => .val (g' j) := by
        split at hy
        · exact (Option.some.inj hy).symm
        · cases hy
      rw [this, own_some ho]
      exact arr_cust (K := K) (K' := K) hb1
    · rename_i e
      refine (hk2.blk i y hy).mono hsub (OwnLe.refl ρ) fun c k hc => hkeep c (hk2.lt i c k (own_live hc)) ?_
      intro e2
      subst e2
      exact e (hk2.inj _ _ _ _ _ ho (own_live hc))
  · rw [List.mem_singleton] at hy
    subst hy
    rintro rfl
    rw [hb] at q1
    cases q1
/-- a table of one function that changes the array which is its first argument; the other arguments are seen as nobody's -/
noncomputable def chgS (f0 : FuncId) (r : Nat → Nat → (Nat → Value) → List D → Option (Option Prop × D × (Nat → Value))) (f : FuncId) (ds : List D) (hp : List Blk) (_ : Nat) : Option Out := match Nat.beq f f0 with
  | true => match ds with
    | .sl id 0 len k none :: ds => match getG hp id with
      | some (.arr m fn) => match mapO (seeS (hp.set id .dead) 6) ds with
        | some (q, ds) => match r len k (fun j => match fn j with | .val v => v | _ => undef) ds with
          | some (p, d, g') => match isPl d with
            | true => some ⟨andO (some (∀ j, j < m → ∃ v, fn j = .val v)) (andO (some (len * k = m)) (andO q p)), d, [(id, .arr m fun j => .val (g' j))], []⟩
            | false => none
          | none => none
        | none => none
      | _ => none
    | _ => none
  | false => none
theorem chgS_ok {f0 : FuncId} {r : Nat → Nat → (Nat → Value) → List D → Option (Option Prop × D × (Nat → Value))} (henter : ∀ args w, (callFunc f0 args).run P w = .ok (.enter f0 args) w)
    (h : ∀ len k g ds p d g', r len k g ds = some (p, d, g') → holdsO p → ∃ ds', Less ds ds' ∧ AloneB P f0 (.sl 1 0 len k none :: ds') (len * k) g d g') : ClOK K P (chgS f0 r) := by
  intro f ds hp nid out ho hc
  unfold chgS at ho
  split at ho
  · rename_i hfg
    obtain rfl := Nat.eq_of_beq_eq_true hfg
    split at ho
    · rename_i id len k ds0
      split at ho
      · rename_i m fn hg
        split at ho
        rotate_left
        · cases ho
        rename_i q dsee hsee
        split at ho
        · rename_i p d g2 hr
          split at ho
          · rename_i hpl
            obtain rfl := (Option.some.inj ho).symm
            obtain ⟨k1, k2⟩ := holdsO_and hc
            obtain ⟨k3, k45⟩ := holdsO_and k2
            obtain ⟨k5, k4⟩ := holdsO_and k45
            have k1 := k1 _ rfl
            obtain rfl := k3 _ rfl
            refine ⟨henter, fun w ρ args hk hrep hn => ?_⟩
            obtain ⟨ds', hl, hA⟩ := h len k _ dsee p d g2 hr k4
            obtain ⟨b, n, hob, hB⟩ := own_block hk hg (by intro e; cases e)
            have hol := own_live hob
            simp only [RepL] at hrep
            obtain ⟨x, xs, rfl, h1, h2⟩ := hrep
            -- the array is one of plain values
            have hB' : RepB K w (mask K w ρ) ρ (.live b n) (.arr (len * k) fun j => .val (match fn j with | .val v => v | _ => undef)) := by
              obtain ⟨vs, ty, q1, q2, q3, q4⟩ := hB
              refine ⟨vs, ty, q1, q2, q3, fun j hj => ?_⟩
              obtain ⟨y, p1, p2⟩ := q4 j hj
              obtain ⟨v, hv⟩ := k1 j hj
              refine ⟨y, p1, ?_⟩
              rw [hv] at p2
              simp only [Rep] at p2 ⊢
              rw [hv]
              exact p2
            have hidl : id < hp.length := by
              rw [getG_eq] at hg
              exact (List.getElem?_eq_some_iff.1 hg).1
            -- the caller's heap, with the array told so
            have hkk : OK K w ρ (hp.set id (.arr (len * k) fun j => .val (match fn j with | .val v => v | _ => undef))) := by
              refine ⟨by simp [hk.len], hk.lt, hk.inj, fun i y hy => ?_, hk.hid, hk.apart⟩
              rw [List.getElem?_set] at hy
              split at hy
              · rename_i e
                subst e
                try simp only [hidl, if_true] at hy
                cases hy
                rw [hob]
                exact hB'
              · exact hk.blk i y hy
            have hb' : (hp.set id (.arr (len * k) fun j => D.val (match fn j with | .val v => v | _ => undef)))[id]? = some (.arr (len * k) fun j => .val (match fn j with | .val v => v | _ => undef)) := by
              rw [List.getElem?_set, if_pos rfl, if_pos hidl]
            obtain ⟨m1, m2⟩ := mapO_get hsee k5
            have hseen : RepL K (mask K w [.fresh, .live b n]) [.fresh, .live b n] dsee xs := repL_of (by rw [← m1]; exact repL_length h2) fun i e he => by
              obtain ⟨d0, q0, e1, e2, e3⟩ := m2 i e he
              obtain ⟨u, hu, hru⟩ := repL_get h2 e1
              exact ⟨u, hu, seeB_ok hol hk 6 d0 e u q0 hru e2 e3⟩
            have hargs : RepL (K) (mask (K) w [.fresh, .live b n]) [.fresh, .live b n] (.sl 1 0 len k none :: ds') (x :: xs) := by
              simp only [RepL]
              refine ⟨x, xs, rfl, ?_, hl K _ _ _ hseen⟩
              simp only [Rep, hob] at h1
              have : own [Own.fresh, .live b n] 1 = .live b n := rfl
              simp only [Rep, this]
              exact h1
            refine (hA (K) w b n (x :: xs) (hkk.oneK hol hb') hargs).mono fun e w' hx => ?_
            obtain ⟨v, rfl, hres⟩ := hx
            have hR := Res.oneK (p := andO (some (∀ j, j < len * k → ∃ v, fn j = .val v)) (andO (some (len * k = len * k)) (andO q p))) (nid := nid) hkk hol hb' hpl hres
            obtain ⟨ρ2, r1, r2⟩ := hR
            refine ⟨v, rfl, ρ2, r1, r2.size, fun c hcc hcond => r2.keep c hcc fun i k hi => ?_, r2.new, r2.len, r2.le, fun hp2 hle hk2 => ?_, fun i q1 q2 => ?_, r2.fr, r2.env⟩
            · have := hcond i k hi
              rw [List.getElem?_set]
              split
              · rename_i e
                subst e
                rw [getG_eq] at hg
                rw [hg] at this
                cases this
              · exact this
            · have hlen2 := hle.1
              have hk3 : OK K w ρ (hp2.set id (.arr (len * k) fun j => .val (match fn j with | .val v => v | _ => undef))) := by
                refine ⟨by simp [hk2.len], hk2.lt, hk2.inj, fun i y hy => ?_, hk2.hid, hk2.apart⟩
                rw [List.getElem?_set] at hy
                split at hy
                · rename_i e
                  subst e
                  have hid2 : id < hp2.length := by omega
                  try simp only [hid2, if_true] at hy
                  cases hy
                  rw [hob]
                  exact hB'
                · exact hk2.blk i y hy
              have := r2.ok _ ⟨by simp [hlen2], fun i => by
                rw [List.getElem?_set, List.getElem?_set, hlen2]
                split
                · exact .inl rfl
                · exact hle.2 i⟩ hk3
              simpa [app] using this
            · have hne : id ≠ i := by
                rintro rfl
                rw [getG_eq] at hg
                rw [hg] at q1
                cases q1
              refine r2.hid i ?_ q2
              rw [List.getElem?_set, if_neg hne]
              exact q1
          · cases ho
        · cases ho
      · cases ho
    · cases ho
  · cases ho
end
end Go.Ev
end
section
open Go Go.Ev Go.RowKit
namespace Go.Ev
set_option maxRecDepth 100000
set_option maxHeartbeats 2000000
set_option linter.all false
end Go.Ev
end
section
open Go Go.Ev Go.RowKit
namespace Go.Ev
set_option linter.all false
/-- first by the key, then by the number -/
def lexP (key : Int → Int) (a b : Int) : Prop := key a < key b ∨ key a = key b ∧ a < b
structure SortP (key : Int → Int) (c : Nat → Int) (n i : Nat) : Prop where
  lex : ∀ s t, s < t → t < i → lexP key (sortI key c i s) (sortI key c i t)
  rest : ∀ t, i ≤ t → t < n → sortI key c i t = c t
  from' : ∀ t, t < i → ∃ t', t' < i ∧ sortI key c i t = c t'
  all : ∀ t', t' < i → ∃ t, t < i ∧ sortI key c i t = c t'
end Go.Ev
end
section
open Go Go.Ev Go.RowKit
namespace Go.Ev
set_option linter.all false
def upd (f : Nat → Int) (i : Nat) (v : Int) : Nat → Int := fun j => if j = i then v else f j
def begR (r : Run) : Int := r.first - r.c.pr
/-- the room that is taken next -/
def nextR (ro : Nat) (F : Nat → Int) (b : Int) : Int := findI (fun r => decide (F r ≤ b)) ro
/-- from which hour each room is free, and which room each run has, behind k of the runs in their order -/
def roomS (x : Nat → Run) (ro : Nat) (o : Nat → Nat) : Nat → (Nat → Int) × (Nat → Int)
  | 0 => (fun _ => 0, fun _ => -1)
  | k + 1 => (upd (roomS x ro o k).1 (nextR ro (roomS x ro o k).1 (begR (x (o k)))).toNat (x (o k)).first, upd (roomS x ro o k).2 (o k) (nextR ro (roomS x ro o k).1 (begR (x (o k)))))
/-- the runs in the order in which they are given rooms -/
structure OrdP (x : Nat → Run) (n m : Nat) (o : Nat → Nat) : Prop where
  lt : ∀ t, t < m → o t < n
  inj : ∀ s t, s < m → t < m → o s = o t → s = t
  asc : ∀ s t, s < t → t < m → begR (x (o s)) ≤ begR (x (o t))
  pos : ∀ t, t < m → 0 ≤ begR (x (o t)) ∧ begR (x (o t)) < (x (o t)).first
structure RoomP (x : Nat → Run) (ro : Nat) (o : Nat → Nat) (k : Nat) : Prop where
  held : ∀ r, r < ro → (roomS x ro o k).1 r = 0 ∨ ∃ t, t < k ∧ (roomS x ro o k).1 r = (x (o t)).first ∧ (roomS x ro o k).2 (o t) = r
  has : ∀ t, t < k → ∃ r : Nat, r < ro ∧ (roomS x ro o k).2 (o t) = r ∧ (x (o t)).first ≤ (roomS x ro o k).1 r
  none' : ∀ i, (∀ t, t < k → o t ≠ i) → (roomS x ro o k).2 i = -1
end Go.Ev
end
section
open Go Go.Ev Go.RowKit
namespace Go.Ev
set_option maxRecDepth 100000
set_option maxHeartbeats 2000000
set_option linter.all false
end Go.Ev
end
section
open Go Go.Ev Go.RowKit
namespace Go.Ev
set_option linter.all false
def ordN (x : Nat → Run) : Nat → Nat
  | 0 => 0
  | i + 1 => bif decide ((x i).c.pr > 0) then ordN x i + 1 else ordN x i
def ordF (x : Nat → Run) : Nat → Nat → Int
  | 0 => fun _ => 0
  | i + 1 => bif decide ((x i).c.pr > 0) then (fun t => if t < ordN x i then ordF x i t else i) else ordF x i
/-- the order in which runs are given rooms -/
def ordO (x : Nat → Run) (n : Nat) (k : Nat) : Nat := (sortI (keyI x) (ordF x n) (ordN x n) k).toNat
theorem breB_room {h : Hall} {n : Nat} {x : Nat → Run} (e : (breB h n x).rule = 0) : (roomB h n x).rule = 0 := by
  unfold breB at e
  repeat' split at e
  all_goals first
    | (exfalso; omega)
    | exact e
    | assumption
    | (rename_i q; exact absurd e q)
    | (rename_i q; exact Classical.not_not.1 q)
theorem roomB_le {h : Hall} {n : Nat} {x : Nat → Run} (e : (roomB h n x).rule = 0) (j : Nat) (hj : j < h.n) : prepI x n j ≤ h.ro := by
  rcases findI_cases (fun i => decide (prepI x n i > h.ro)) h.n with ⟨k, hk, h1, h2, h3⟩ | ⟨h1, h2⟩
  · have : (roomB h n x).rule = 5 := by unfold roomB; rw [h3, decide_eq_true (by omega)]; rfl
    omega
  · have := of_decide_eq_false (h1 j hj)
    omega
end Go.Ev
end
section
open Go Go.Ev Go.RowKit
namespace Go.Ev
set_option maxRecDepth 100000
set_option maxHeartbeats 2000000
set_option linter.all false
theorem cat_at {a j : Nat} {g : Nat → D} {v : D} (ha : 0 < a) (hj : j < a + 1) : catF a g (getK [v]) j = if j < a then g j else v := by
  unfold catF
  cases h : Nat.beq a 0 with
  | true => have := Nat.eq_of_beq_eq_true h; omega
  | false =>
    simp only
    cases h2 : Nat.ble (j + 1) a with
    | true => have := Nat.le_of_ble_eq_true h2; simp only; rw [if_pos (by omega)]
    | false =>
      have h3 : ¬ j + 1 ≤ a := fun q => by rw [Nat.ble_eq_true_of_le q] at h2; cases h2
      simp only
      rw [if_neg (by omega), show j - a = 0 by omega, getK_eq]
      rfl
end Go.Ev
end
section
open Go Go.Ev Go.RowKit
namespace Go.Ev
set_option linter.all false
end Go.Ev
end
section
open Go Go.Ev Go.RowKit
namespace Go.Ev
set_option linter.all false
/-! ### The energy of an hour, and how many runs there are -/
theorem hourB_all {rule : Int} {pp : Run → Int → Bool} {n : Nat} {x : Nat → Run} (hr : rule ≠ 0) (e : (hourB rule pp n x).rule = 0) (i : Nat) (hi : i < n) (t : Int) (h1 : (x i).first ≤ t) (h2 : t - (x i).first < (x i).c.ho) : pp (x i) t = false := by
  rcases fst2_cases (fun i k => pp (x i) ((x i).first + k)) (fun i => (x i).c.ho.toNat) n with ⟨j, k, _, _, _, _, _, q⟩ | ⟨q, _⟩
  · have : (hourB rule pp n x).rule = rule := by unfold hourB; rw [q]
    exact absurd (this.symm.trans e) hr
  · have := q i hi (t - (x i).first).toNat (by omega)
    have e2 : (x i).first + ((t - (x i).first).toNat : Int) = t := by omega
    simp only [e2] at this
    exact this
theorem tunB_all {h : Hall} {n : Nat} {x : Nat → Run} (e : (tunB h n x).rule = 0) (i k : Nat) (hik : i < k) (hk : k < n) : clashB h (x i) (x k) = false := by
  rcases fst2_cases (tunP h x) (fun _ => n) n with ⟨j, l, _, _, _, _, _, q⟩ | ⟨q, _⟩
  · have : (tunB h n x).rule = 4 := by unfold tunB; rw [q]
    omega
  · have := q i (by omega) k hk
    unfold tunP at this
    rw [decide_eq_true hik, Bool.true_and] at this
    exact this
theorem breB_parts {h : Hall} {n : Nat} {x : Nat → Run} (e : (breB h n x).rule = 0) : (hourB 2 (staffP h) n x).rule = 0 ∧ (hourB 3 (weakP h) n x).rule = 0 ∧ (tunB h n x).rule = 0 := by
  unfold breB at e
  by_cases q1 : (timeB n x).rule ≠ 0
  · rw [if_pos q1] at e; exact absurd e q1
  · rw [if_neg q1] at e
    by_cases q2 : (hourB 2 (staffP h) n x).rule ≠ 0
    · rw [if_pos q2] at e; exact absurd e q2
    · rw [if_neg q2] at e
      by_cases q3 : (hourB 3 (weakP h) n x).rule ≠ 0
      · rw [if_pos q3] at e; exact absurd e q3
      · rw [if_neg q3] at e
        by_cases q4 : (tunB h n x).rule ≠ 0
        · rw [if_pos q4] at e; exact absurd e q4
        · exact ⟨Classical.not_not.1 q2, Classical.not_not.1 q3, Classical.not_not.1 q4⟩
end Go.Ev
end
section
open Go Go.Ev Go.RowKit
namespace Go.Ev
set_option maxRecDepth 100000
set_option linter.all false
def noBig0 (_ : FuncId) : Bool := false
noncomputable def raw0 : Raw := ⟨noBig0, fun _ _ _ _ => none⟩
def alone1 (f : FuncId) : Bool := Nat.beq f 91 || Nat.beq f 74
noncomputable def tab1 : FuncId → List D → List Blk → Nat → Option Out := isoT alone1 (callF tree.find raw0 2000)
noncomputable def rawK : Raw := ⟨noBig0, tab1⟩
theorem known_val : valO (callF (without alone1 tree.find) rawK 3000 13 [] [.dead] 0) = some ⟨none, .val (.bool true), [], []⟩ := by kernel_rfl
def knownR (ds : List D) (_ : List Blk) (_ : Nat) : Option Out := match ds with
  | [] => some ⟨none, .val (.bool true), [], []⟩
  | _ => none
theorem knownR_ok (K : Cust) : ClOK K PG (oneCl 13 knownR) := by
  intro f ds hp nid out h hc
  unfold oneCl at h
  split at h
  · rename_i e
    obtain rfl := Nat.eq_of_beq_eq_true e
    unfold knownR at h
    split at h
    · have h0 : ClOK K PG tab1 := isoT_ok (callF_ok (raw := raw0) (drawn_ok hm0) (FT.found tree tree_good) (fun _ _ _ _ _ h => by cases h) 2000)
      refine isoT_ok (S := fun f => Nat.beq f 13) (callF_ok (raw := rawK) (drawn_ok hm0) (without_ok (S := alone1) (FT.found tree tree_good)) h0 3000) 13 [] hp nid out ?_ hc
      rw [← Option.some.inj h]
      exact known_val
    · cases h
  · cases h
end Go.Ev
end
section
open Go Go.Ev Go.RowKit
namespace Go.Ev
set_option maxRecDepth 100000
set_option maxHeartbeats 2000000
set_option linter.all false
noncomputable def T13r := orCl (oneCl 13 knownR) T21
theorem T13r_ok (K : Cust) : ClOK K PG T13r := ClOK.or (knownR_ok K) (T21_ok K)
end Go.Ev
end
section
open Go Go.Ev Go.RowKit
namespace Go.Ev
set_option linter.all false
/-- behind the run i of an hour the first s of the order have their rooms -/
structure PlP (x : Nat → Run) (n : Nat) (hour i s : Nat) : Prop where
  le : s ≤ ordN x n
  lo : ∀ t, t < s → begR (x (ordO x n t)) < hour ∨ begR (x (ordO x n t)) = hour ∧ ordO x n t < i
  hi : ∀ t, s ≤ t → t < ordN x n → (hour : Int) < begR (x (ordO x n t)) ∨ begR (x (ordO x n t)) = hour ∧ i ≤ ordO x n t
end Go.Ev
end
section
open Go Go.Ev Go.RowKit
namespace Go.Ev
set_option linter.all false
/-- all that the walk asks of a state of the rooms -/
structure RmP (h : Hall) (c : Nat → Camp) (p : Nat → Int) (n hour i s : Nat) : Prop where
  pl : PlP (planR c p) n hour i s
end Go.Ev
end
section
namespace Go.Ev
/-! ### Loops at whose beginning a block is told anew (an empty literal that grows) -/
section
variable {K : Cust} {P : Program} {w0 : World} {ρ0 : List Own} {hp0 : List Blk} {cl : FuncId → List D → List Blk → Nat → Option Out} {s : St} {Q : Ex → St → Prop}
theorem aw_loopR {ι : Type} (more : List Nat) (id : Nat) (xp x' : Blk) (hx : ∀ (K : Cust) (w : World) (M : World) (ρ : List Own) (o : Own), RepB K w M ρ o xp → RepB K w M ρ o x') (hm : P.follows .mixedOrders = true) (hcl : ClOK K P cl) {b r : ACode} {j : Nat} (car : ι → List (Nat × D)) (bl : ι → List (Nat × Blk)) (μ : ι → Nat) (i : ι)
    (round : ∀ i, AW cl (LoopA K P w0 ρ0 hp0) b (lst b (car i) (bl i) s) (RoundP K w0 ρ0 hp0 (fun i => lst b (car i) (bl i) s) μ i (blkP j (seqP cl (LoopA K P w0 ρ0 hp0) r Q))))
    (he : reb id x' (fgt (more ++ lessL (csL (car i)) (dstC b)) s) = lst b (car i) (bl i) s := by kernel_rfl) (ep : getG s.hp id = some xp := by kernel_rfl) (hb : Nat.ble s.base id = true := by kernel_rfl) : AW cl (LoopA K P w0 ρ0 hp0) (.seq (.block j (.loop b)) r) s Q := by
  rw [getG_eq] at ep
  have epd : s.hp.getD id .dead = xp := by rw [List.getD_eq_getElem?_getD, ep]; rfl
  exact aw_loopW hm hcl (fun i => lst b (car i) (bl i) s) μ i round
    (he ▸ (Wk.fgt (more ++ lessL (csL (car i)) (dstC b)) s).trans (Wk.reblk (s := fgt (more ++ lessL (csL (car i)) (dstC b)) s) (x' := x') (Nat.le_of_ble_eq_true hb) fun w M ρ o hr => hx K w M ρ o (epd ▸ hr)))
/-- a loop before which some slots are forgotten -/
theorem aw_loopF {ι : Type} (more : List Nat) (hm : P.follows .mixedOrders = true) (hcl : ClOK K P cl) {b r : ACode} {j : Nat} (car : ι → List (Nat × D)) (bl : ι → List (Nat × Blk)) (μ : ι → Nat) (i : ι)
    (round : ∀ i, AW cl (LoopA K P w0 ρ0 hp0) b (lst b (car i) (bl i) (fgt more s)) (RoundP K w0 ρ0 hp0 (fun i => lst b (car i) (bl i) (fgt more s)) μ i (blkP j (seqP cl (LoopA K P w0 ρ0 hp0) r Q))))
    (he : fgt (lessL (csL (car i)) (dstC b)) (fgt more s) = lst b (car i) (bl i) (fgt more s) := by kernel_rfl) : AW cl (LoopA K P w0 ρ0 hp0) (.seq (.block j (.loop b)) r) s Q :=
  aw_loopW hm hcl (fun i => lst b (car i) (bl i) (fgt more s)) μ i round ((Wk.fgt more s).trans (he ▸ Wk.fgt _ _))
/-- a loop before which slots are forgotten, a block is told anew, and n dead blocks are laid behind -/
theorem aw_loopX {ι : Type} (more : List Nat) (id : Nat) (xp x' : Blk) (hx : ∀ (K : Cust) (w : World) (M : World) (ρ : List Own) (o : Own), RepB K w M ρ o xp → RepB K w M ρ o x') (n : Nat) (hm : P.follows .mixedOrders = true) (hcl : ClOK K P cl) {b r : ACode} {j : Nat} (car : ι → List (Nat × D)) (bl : ι → List (Nat × Blk)) (μ : ι → Nat) (i : ι)
    (round : ∀ i, AW cl (LoopA K P w0 ρ0 hp0) b (lst b (car i) (bl i) (grown n (reb id x' (fgt more s)))) (RoundP K w0 ρ0 hp0 (fun i => lst b (car i) (bl i) (grown n (reb id x' (fgt more s)))) μ i (blkP j (seqP cl (LoopA K P w0 ρ0 hp0) r Q))))
    (he : fgt (lessL (csL (car i)) (dstC b)) (grown n (reb id x' (fgt more s))) = lst b (car i) (bl i) (grown n (reb id x' (fgt more s))) := by kernel_rfl) (ep : getG s.hp id = some xp := by kernel_rfl) (hb : Nat.ble s.base id = true := by kernel_rfl) : AW cl (LoopA K P w0 ρ0 hp0) (.seq (.block j (.loop b)) r) s Q := by
  rw [getG_eq] at ep
  have epd : s.hp.getD id .dead = xp := by rw [List.getD_eq_getElem?_getD, ep]; rfl
  exact aw_loopW hm hcl (fun i => lst b (car i) (bl i) (grown n (reb id x' (fgt more s)))) μ i round
    (((Wk.fgt more s).trans ((Wk.reblk (s := fgt more s) (x' := x') (Nat.le_of_ble_eq_true hb) fun w M ρ o hr => hx K w M ρ o (epd ▸ hr)).trans (Wk.grow n))).trans (he ▸ Wk.fgt _ _))
theorem cat_any {a j : Nat} {f : Nat → D} {v : D} (h : j < a + 1) : catF a f (getK [v]) j = if j < a then f j else v := by
  unfold catF
  cases h0 : Nat.beq a 0 with
  | true =>
    obtain rfl := Nat.eq_of_beq_eq_true h0
    obtain rfl : j = 0 := by omega
    rfl
  | false =>
    cases h1 : Nat.ble (j + 1) a with
    | true => simp only [h1]; rw [if_pos (by have := Nat.le_of_ble_eq_true h1; omega)]
    | false =>
      have h3 : ¬ j + 1 ≤ a := fun q => by rw [Nat.ble_eq_true_of_le q] at h1; cases h1
      have : j = a := by omega
      subst this
      simp only [h1, Nat.sub_self]
      rw [if_neg (by omega)]
      rfl
end
end Go.Ev
end
section
open Go Go.Ev Go.RowKit
namespace Go.Ev
set_option maxRecDepth 100000
set_option maxHeartbeats 2000000
set_option linter.all false
end Go.Ev
end
section
open Go Go.Ev Go.RowKit
namespace Go.Ev
set_option maxRecDepth 100000
set_option maxHeartbeats 20000000
set_option linter.all false
def sameB (n : Nat) (f : Nat → Int) (m : Nat) (g : Nat → Int) : Bool := decide (n = m) && !anyI (fun i => !decide (f i = g i)) n
theorem sameB_t {n m : Nat} {f g : Nat → Int} (h : n = m) (h2 : ∀ i, i < n → f i = g i) : sameB n f m g = true := by
  have : anyI (fun i => !decide (f i = g i)) n = false := anyI_false.2 fun i hi => by simp [h2 i hi]
  simp [sameB, h, this]
  subst h
  simp [this]
theorem sameB_n {n m : Nat} {f g : Nat → Int} (h : ¬ (n : Int) = m) : sameB n f m g = false := by
  have : ¬ n = m := by omega
  simp [sameB, this]
theorem sameB_f {n m i : Nat} {f g : Nat → Int} (hi : i < n) (h : ¬ f i = g i) : sameB n f m g = false := by
  have : anyI (fun i => !decide (f i = g i)) n = true := anyI_iff.2 ⟨i, hi, by simp [h]⟩
  simp [sameB, this]
theorem same_alone (n : Nat) (f : Nat → Int) (m : Nat) (g : Nat → Int) (hn : n ≤ 1000000) : Alone PG 25 [rowI n f, rowI m g] (bD (sameB n f m g)) :=
  Alone.ofW (cl := T13r) (raw := false) hm0 T13r_ok cf_25 fun K w => by
    refine aw_reg0 (aw_assoc (aw_reg0 (aw_ifsne ((↑n : Int)) ((↑m : Int)) (fun h1 => aw_assoc (aw_reg0 (aw_rets (end_b (false) ?_)))) (fun h2 => aw_skips (aw_assoc (aw_reg0 (?_)))))))
    · exact (sameB_n (by assumption)).symm
    · have hnm : n = m := by omega
      refine aw_loopV (ι := {i : Nat // i ≤ n ∧ ∀ j, j < i → f j = g j}) hm0 (T13r_ok K) (fun z => [(5, i6 z.1)]) (fun _ => []) (fun z => n - z.1) ⟨0, Nat.zero_le _, fun j hj => by omega⟩ (fun z => ?_)
      obtain ⟨i, hi, hall⟩ := z
      refine aw_assoc (aw_reg0 (aw_ifsd ((↑i : Int) < (↑n : Int)) (fun h3 => aw_skips (aw_blocks (aw_reg ((True ∧ (0 : Int) ≤ (↑i : Int) ∧ (↑i : Int) < (↑n : Int)) ∧ (0 : Int) ≤ (↑i : Int) ∧ (↑i : Int) < (↑m : Int)) (by (simp only [inRange_i64, true_and]; omega)) (aw_ifne (f i) (g i) (fun h4 => aw_reg0 (aw_ret (blk_ret (seq_ret (round_ret (blk_ret (seq_ret (end_b (false) ?_)))))))) (fun h5 => aw_skip (blk_normal (seq_normal (aw_end (True ∧ inRange IntKind.i64 ((↑i : Int) + (1 : Int))) (by (simp only [inRange_i64, true_and]; omega)) (round_t 1 ((∀ (i : Nat), i < n → True ∧ True) ∧ (∀ (i : Nat), i < m → True ∧ True) ∧ (∀ (i : Nat), i < n → True ∧ True) ∧ (∀ (i : Nat), i < m → True ∧ True) ∧ True) (True) (by (simp)) (by (exact True.intro)) ?_))))))))) (fun h6 => aw_exits (round_exit (blk_exit (seq_normal (aw_reg0 (aw_ret (end_b (true) ?_)))))))))
      · exact (sameB_f (i := i) (by omega) (by assumption)).symm
      · exact round_v ⟨i + 1, by omega, fun j hj => by
          rcases Nat.lt_or_ge j i with q | q
          · exact hall j q
          · obtain rfl : j = i := by omega
            assumption⟩ (by show n - (i + 1) < n - i; omega)
      · exact (sameB_t hnm fun j hj => hall j (by omega)).symm

def R25 : List D → Option (Option Prop × D)
  | [d0, d1] => match intsO d0, intsO d1 with
    | some (q1, n, f), some (q2, m, p) => some (some (q1 ∧ q2 ∧ n ≤ 1000000), bD (sameB n f m p))
    | _, _ => none
  | _ => none
noncomputable def T25 := orCl (aloC 25 R25) T13r
theorem T25_ok (K : Cust) : ClOK K PG T25 := tab_cons cf_25 (fun ds p d h hp => by
    unfold R25 at h
    split at h
    · split at h
      · rename_i e0 e1
        cases h
        obtain ⟨h1, h2, h3⟩ := hp _ rfl
        exact ⟨_, less_cons (intsO_less e0 h1) (less_cons (intsO_less e1 h2) (Less.refl _)), by simp [freeL, freeD, rowI_free], by simp [freeD], same_alone _ _ _ _ h3⟩
      · cases h
    · cases h) (T13r_ok K)
end Go.Ev
end
section
namespace Go.Ev
/-! ### A function that hands back one new array that stays the caller's own (beside what names no cell of his) -/
mutual
/-- names block 1 alone, as a slice -/
def oneD : D → Prop
  | .sl i _ _ _ _ => i = 1
  | .agg ds => oneL ds
  | .tup ds => oneL ds
  | .ptr .. => False
  | .map _ => False
  | .row _ _ f => ∀ i, freeL (f i)
  | .ref cs _ => freeL cs
  | .fn _ a b => freeL a ∧ freeL b
  | .iface _ d => freeD d
  | _ => True
def oneL : List D → Prop
  | [] => True
  | d :: ds => oneD d ∧ oneL ds
end
mutual
/-- block 1 is block nid -/
def renD (nid : Nat) : D → D
  | .sl _ o n k c => .sl nid o n k c
  | .agg ds => .agg (renDL nid ds)
  | .tup ds => .tup (renDL nid ds)
  | d => d
def renDL (nid : Nat) : List D → List D
  | [] => []
  | d :: ds => renD nid d :: renDL nid ds
end
mutual
theorem Rep.one {K K' : Cust} {M M' : World} {ρ ρ' : List Own} {nid : Nat} (hs : Sub M M') (hC : ∀ t q v, K.C t q M v → K'.C t q M' v) (ho : own ρ 1 = own ρ' nid) : ∀ (d : D) (v : Value), oneD d → Rep K M ρ d v → Rep K' M' ρ' (renD nid d) v
  | .any, _, _, _ => trivial
  | .val _, _, _, h => h
  | .ptr .., _, g, _ => g.elim
  | .sl i o n k c, v, g, h => by
    simp only [oneD] at g
    subst g
    simp only [renD, Rep] at *
    rw [← ho]
    exact h
  | .map _, _, g, _ => g.elim
  | .row k len f, v, g, h => by
    have g : freeD (.row k len f) := by simpa only [oneD, freeD] using g
    exact Rep.free hs hC _ v g h
  | .ref cs off, v, g, h => by
    have g : freeD (.ref cs off) := by simpa only [oneD, freeD] using g
    exact Rep.free hs hC _ v g h
  | .agg ds, v, g, h => by
    simp only [oneD] at g
    simp only [renD, Rep] at *
    exact let ⟨vs, h1, h2⟩ := h; ⟨vs, h1, RepL.one hs hC ho ds vs g h2⟩
  | .tup ds, v, g, h => by
    simp only [oneD] at g
    simp only [renD, Rep] at *
    exact let ⟨vs, h1, h2⟩ := h; ⟨vs, h1, RepL.one hs hC ho ds vs g h2⟩
  | .fn f a b, v, g, h => by
    have g : freeD (.fn f a b) := by simpa only [oneD, freeD] using g
    exact Rep.free hs hC _ v g h
  | .iface t d, v, g, h => by
    have g : freeD (.iface t d) := by simpa only [oneD, freeD] using g
    exact Rep.free hs hC _ v g h
  | .cust t q, v, _, h => by
    simp only [renD, Rep] at *
    exact hC _ _ _ h
  | .emp z, v, _, h => by
    simp only [renD, Rep] at *
    exact h
theorem RepL.one {K K' : Cust} {M M' : World} {ρ ρ' : List Own} {nid : Nat} (hs : Sub M M') (hC : ∀ t q v, K.C t q M v → K'.C t q M' v) (ho : own ρ 1 = own ρ' nid) : ∀ (ds : List D) (vs : List Value), oneL ds → RepL K M ρ ds vs → RepL K' M' ρ' (renDL nid ds) vs
  | [], _, _, h => by simpa only [renDL, RepL] using h
  | d :: ds, vs, g, h => by
    simp only [oneL] at g
    simp only [renDL, RepL] at *
    exact let ⟨x, r, h1, h2, h3⟩ := h; ⟨x, r, h1, Rep.one hs hC ho d x g.1 h2, RepL.one hs hC ho ds r g.2 h3⟩
end
noncomputable section
/-- a function, alone, that hands back a new array -/
def AloneN (P : Program) (f : FuncId) (ds : List D) (d : D) (m : Nat) (g : Nat → Value) : Prop :=
  ∀ (K : Cust) (w : World) (args : List Value), OK K w [.fresh] [.dead] → RepL K (mask K w [.fresh]) [.fresh] ds args →
    Calls P f args.toArray w fun e w' => ∃ (v : Value) (b N : Nat), e = .returned v ∧ w.heap.size ≤ w'.heap.size ∧ (∀ c : Nat, c < w.heap.size → w'.heap[c]? = w.heap[c]?) ∧ Env w w' ∧ w.heap.size ≤ b ∧
      RepB K w' (mask K w' [.fresh, .live b N]) [.fresh, .live b N] (.live b N) (.arr m fun j => .val (g j)) ∧ Rep K (mask K w' [.fresh, .live b N]) [.fresh, .live b N] d v
section
variable {K : Cust} {P : Program} {w w' : World} {ρ : List Own} {hp : List Blk} {nid : Nat}
/-- a table of one function that hands back a new array; its arguments name no own block -/
def newC (g : FuncId) (r : List D → Option (Option Prop × D × Nat × (Nat → Value))) (f : FuncId) (ds : List D) (_ : List Blk) (nid : Nat) : Option Out := match Nat.beq f g with
  | true => match r ds with
    | some (p, d, m, gg) => some ⟨p, renD nid d, [(nid, .arr m fun j => .val (gg j))], []⟩
    | none => none
  | false => none
theorem newC_ok {g : FuncId} {r : List D → Option (Option Prop × D × Nat × (Nat → Value))} (henter : ∀ args w, (callFunc g args).run P w = .ok (.enter g args) w)
    (h : ∀ ds p d m gg, r ds = some (p, d, m, gg) → holdsO p → ∃ ds', Less ds ds' ∧ freeL ds' ∧ oneD d ∧ AloneN P g ds' d m gg) : ClOK K P (newC g r) := by
  intro f ds hp nid out ho hc
  unfold newC at ho
  split at ho
  · rename_i hfg
    obtain rfl := Nat.eq_of_beq_eq_true hfg
    split at ho
    · rename_i p d m gg hr
      obtain rfl := (Option.some.inj ho).symm
      refine ⟨henter, fun w ρ args hk hrep hn => ?_⟩
      obtain ⟨ds2, hl, hfr, hone, hA⟩ := h ds p d m gg hr hc
      refine (hA (hideC K ρ) w args hk.hide (RepL.free (K := K) (K' := hideC K ρ) hideC_sub (fun t q v hc => K.mono _ _ _ _ _ hideC_sub hc) ds2 args hfr (hl K _ _ _ hrep))).mono fun e w' hx => ?_
      obtain ⟨v, b, N, rfl, hsize, hkeep, henv, hb, hB, hR⟩ := hx
      have hi : nid < ρ.length := (List.getElem?_eq_some_iff.1 hn).1
      have hmask : Sub (mask (hideC K ρ) w' [.fresh, .live b N]) (mask K w' (ρ.set nid (.live b N))) := fun c cs ty fr hc => by
        rw [mask_some] at *
        refine ⟨?_, hc.2⟩
        rintro (hh | ⟨i, n, hi2⟩)
        · exact hc.1 (.inl (.inl hh))
        · rw [List.getElem?_set] at hi2
          split at hi2
          · first
              | (obtain ⟨rfl, rfl⟩ := Own.live.inj (Option.some.inj hi2)
                 exact hc.1 (.inr ⟨1, N, rfl⟩))
              | (split at hi2
                 · obtain ⟨rfl, rfl⟩ := Own.live.inj (Option.some.inj hi2)
                   exact hc.1 (.inr ⟨1, N, rfl⟩)
                 · cases hi2)
          · exact hc.1 (.inl (.inr ⟨i, n, hi2⟩))
      have hown : own (ρ.set nid (.live b N)) nid = .live b N := by rw [own_set hi, if_pos rfl]
      refine ⟨v, rfl, ρ.set nid (.live b N), ?_, ?_⟩
      · exact Rep.one (K := hideC K ρ) (K' := K) hmask (fun t q v hc => K.mono _ _ _ _ _ hmask hc) (by rw [hown]; rfl) d v hone hR
      · obtain ⟨vs, ty, q1, q2, q3, q4⟩ := hB
        refine Eff.new_at hsize hkeep hb (lt_of_cells q1) hn hk.lt ?_ henv
        refine ⟨vs, ty, q1, q2, q3, fun j hj => ?_⟩
        obtain ⟨x, p1, p2⟩ := q4 j hj
        exact ⟨x, p1, by simpa only [Rep] using p2⟩
    · cases ho
  · cases ho
/-- what is told of a result when one block is kept and the others are given up -/
def KeepP (hp : List Blk) (id : Nat) (r d : D) : Prop := ∀ (K : Cust) (w : World) (ρ : List Own) (v : Value) (b N : Nat), OK K w ρ hp → ρ[id]? = some (.live b N) → Rep K (mask K w ρ) ρ r v → Rep K (mask K w [.fresh, .live b N]) [.fresh, .live b N] d v
def KeepL (hp : List Blk) (id : Nat) (rs ds : List D) : Prop := ∀ (K : Cust) (w : World) (ρ : List Own) (vs : List Value) (b N : Nat), OK K w ρ hp → ρ[id]? = some (.live b N) → RepL K (mask K w ρ) ρ rs vs → RepL K (mask K w [.fresh, .live b N]) [.fresh, .live b N] ds vs
theorem keep_see {id : Nat} {r d : D} {p : Option Prop} (h : seeS (hp.set id .dead) 6 r = some (p, d)) (hp' : holdsO p) : KeepP hp id r d := fun _ _ _ v _ _ hk ho hr => seeB_ok ho hk 6 r d v p hr h hp'
theorem keep_sl {id off n k : Nat} {cap : Option Nat} : KeepP hp id (.sl id off n k cap) (.sl 1 off n k cap) := fun K w ρ v b N hk ho hr => by
  simp only [Rep, own_some ho] at hr
  exact hr
theorem keepL_nil {id : Nat} : KeepL hp id [] [] := fun K w ρ vs b N _ _ hr => by simpa only [RepL] using hr
theorem keepL_cons {id : Nat} {r d : D} {rs ds : List D} (h1 : KeepP hp id r d) (h2 : KeepL hp id rs ds) : KeepL hp id (r :: rs) (d :: ds) := fun K w ρ vs b N hk ho hr => by
  simp only [RepL] at *
  obtain ⟨x, l, rfl, g1, g2⟩ := hr
  exact ⟨x, l, rfl, h1 K w ρ x b N hk ho g1, h2 K w ρ l b N hk ho g2⟩
theorem keep_agg {id : Nat} {rs ds : List D} (h : KeepL hp id rs ds) : KeepP hp id (.agg rs) (.agg ds) := fun K w ρ v b N hk ho hr => by
  simp only [Rep] at *
  obtain ⟨vs, rfl, g⟩ := hr
  exact ⟨vs, rfl, h K w ρ vs b N hk ho g⟩
theorem keep_tup {id : Nat} {rs ds : List D} (h : KeepL hp id rs ds) : KeepP hp id (.tup rs) (.tup ds) := fun K w ρ v b N hk ho hr => by
  simp only [Rep] at *
  obtain ⟨vs, rfl, g⟩ := hr
  exact ⟨vs, rfl, h K w ρ vs b N hk ho g⟩
theorem keep_i {id : Nat} {v : Value} : KeepP hp id (.val v) (.val v) := fun K w ρ x b N _ _ hr => hr
/-- the end of such a function -/
structure EndN (fn : AFun) (d : D) (m : Nat) (g : Nat → Value) (e : Ex) (s : St) : Prop where
  out : exD e = true ∧ ∃ (ds : List D) (id : Nat) (xp : Blk), resD s fn.results = some ds ∧ getG s.hp id = some xp ∧ xp ≠ .dead ∧ (∀ (K : Cust) (w : World) (M : World) (ρ : List Own) (o : Own), RepB K w M ρ o xp → RepB K w M ρ o (.arr m fun j => .val (g j))) ∧ KeepP s.hp id (tupD ds) d
theorem end_n {fn : AFun} {d : D} {m : Nat} {g : Nat → Value} {e : Ex} {s : St} (r : D) (id : Nat) (xp : Blk) (hx : ∀ (K : Cust) (w : World) (M : World) (ρ : List Own) (o : Own), RepB K w M ρ o xp → RepB K w M ρ o (.arr m fun j => .val (g j))) (h : KeepP s.hp id r d) (hd : xp ≠ .dead := by intro h; cases h) (hb : getG s.hp id = some xp := by kernel_rfl)
    (he : exD e = true := by kernel_rfl) (hr : (resD s fn.results).map tupD = some r := by kernel_rfl) : EndN fn d m g e s := by
  refine ⟨he, ?_⟩
  cases hres : resD s fn.results with
  | none => rw [hres] at hr; cases hr
  | some ds =>
    rw [hres] at hr
    obtain rfl := Option.some.inj hr
    exact ⟨ds, id, xp, rfl, hb, hd, hx, h⟩
theorem AloneN.ofN {cl : FuncId → List D → List Blk → Nat → Option Out} {f : FuncId} {fn : AFun} (hm : P.follows .mixedOrders = true) (hcl : ∀ K, ClOK K P cl) (hf : compF P f = some fn) {ds : List D} {d : D} {m : Nat} {g : Nat → Value}
    (h : ∀ K w, AW cl (LoopA K P w [.fresh] [.dead]) fn.body (startF fn ds [.dead]) (EndN fn d m g)) : AloneN P f ds d m g := by
  intro K w args hk hr
  have hcl := hcl K
  unfold compF at hf
  split at hf
  · rename_i fu hfn
    split at hf
    · rename_i c hbody
      split at hf
      · rename_i ab rs hab hrs hname
        cases hf
        refine calls_of_wp hfn hbody (wp_mono (aw_ok hm hcl c ab _ _ hab (h K w).out w [.fresh] _ (Inv.init hk hr)) fun x a' w' hx => ?_)
        obtain ⟨e, s', ρ', rfl, hI, hq⟩ := hx
        obtain ⟨hex, rds, id, xp, hrd, hb, hxd, hf', hF⟩ := hq.out
        obtain ⟨v, hv1, hv2⟩ := results_ok (fn := fu) hI.okHp hI.slots hrs hrd
        have hkeep : ∀ b : Nat, b < w.heap.size → w'.heap[b]? = w.heap[b]? := fun b hb => hI.keep b hb fun i n hi => by cases i <;> simp at hi
        obtain ⟨b, N, ho, hB⟩ := own_block hI.okHp hb hxd
        have hbsz : w.heap.size ≤ b := by
          rcases hI.new b (.inr ⟨id, N, own_live ho⟩) with hl | hl
          · exact absurd (see_live.1 hl) (hI.okHp.apart id b N (own_live ho))
          · exact hl
        have hres : w.heap.size ≤ w'.heap.size ∧ (∀ c : Nat, c < w.heap.size → w'.heap[c]? = w.heap[c]?) ∧ Env w w' ∧ w.heap.size ≤ b ∧
            RepB K w' (mask K w' [.fresh, .live b N]) [.fresh, .live b N] (.live b N) (.arr m fun j => .val (g j)) ∧ Rep K (mask K w' [.fresh, .live b N]) [.fresh, .live b N] d v := by
          refine ⟨hI.size, hkeep, hI.env, hbsz, ?_, hF K w' ρ' v b N hI.okHp (own_live ho) hv2⟩
          obtain ⟨vs, ty, q1, q2, q3, q4⟩ := hf' _ _ _ _ _ hB
          refine ⟨vs, ty, q1, q2, q3, fun j hj => ?_⟩
          obtain ⟨x, p1, p2⟩ := q4 j hj
          exact ⟨x, p1, by simpa only [Rep] using p2⟩
        cases e with
        | normal => exact ⟨hI.defers, v, hv1, v, b, N, rfl, hres⟩
        | ret => exact ⟨hI.defers, v, hv1, v, b, N, rfl, hres⟩
        | exit i => simp [exD] at hex
      · cases hf
    · cases hf
  · cases hf
end
end
end Go.Ev
end
section
open Go Go.Ev Go.RowKit
namespace Go.Ev
set_option maxRecDepth 100000
set_option maxHeartbeats 20000000
set_option linter.all false
def campI (c : Nat → Camp) (j : Nat) : Int := match j % 7 with
  | 0 => (c (j / 7)).cu
  | 1 => (c (j / 7)).pr
  | 2 => (c (j / 7)).ho
  | 3 => (c (j / 7)).en
  | 4 => (c (j / 7)).ea
  | 5 => (c (j / 7)).la
  | _ => (c (j / 7)).we
theorem campI_at {c : Nat → Camp} {j : Nat} : getK (campD (c (j / 7))) (j % 7) = i6 (campI c j) := by
  have h : j % 7 < 7 := Nat.mod_lt _ (by decide)
  unfold campI
  generalize c (j / 7) = x
  generalize j % 7 = r at *
  match r, h with
  | 0, _ => rfl
  | 1, _ => rfl
  | 2, _ => rfl
  | 3, _ => rfl
  | 4, _ => rfl
  | 5, _ => rfl
  | 6, _ => rfl
theorem copied_new0 (n : Nat) (c : Nat → Camp) (hn : n ≤ 100000) : AloneN PG 15 [rowC n c] (.sl 1 0 (0 + n) 7 none) (0 + n * 7) (fun j => .int .i64 (campI c j)) :=
  AloneN.ofN (cl := T25) hm0 T25_ok cf_15 fun K w => by
    refine aw_reg0 (aw_reg (True ∧ True ∧ (∀ (i : Nat), i < n → List.length (campD (c i)) = (7 : Nat) ∧ List.all (campD (c i)) okCell = true) ∧ (0 : Nat) + n ≤ (1048576 : Nat)) (by ((try simp only [inRange_i64] at *); (try simp only [implies_true, and_self, true_and, and_true]); (repeat' (with_reducible apply And.intro)) <;> first | exact True.intro | exact fun _ _ => rfl | exact fun _ _ => ⟨rfl, rfl⟩ | omega | assumption | (intros; simp [freeL, freeD]; done))) (aw_ret (?_)))
    exact end_n (.sl 2 0 (0 + n) 7 none) 2 (.arr (0 + n * 7) fun j => getK (campD (c (j / 7))) (j % 7)) (arr_arr rfl fun j _ => campI_at) keep_sl

theorem ints_new0 (n : Nat) (f : Nat → Int) (hn : n ≤ 100000) : AloneN PG 16 [rowI n f] (.sl 1 0 (0 + n) 1 none) (0 + n) (fun j => .int .i64 (f j)) :=
  AloneN.ofN (cl := T25) hm0 T25_ok cf_16 fun K w => by
    refine aw_reg0 (aw_reg (True ∧ True ∧ (∀ (i : Nat), i < n → List.length [i6 (f i)] = (1 : Nat) ∧ List.all [i6 (f i)] okCell = true) ∧ (0 : Nat) + n ≤ (1048576 : Nat)) (by ((try simp only [inRange_i64] at *); (try simp only [implies_true, and_self, true_and, and_true]); (repeat' (with_reducible apply And.intro)) <;> first | exact True.intro | exact fun _ _ => rfl | exact fun _ _ => ⟨rfl, rfl⟩ | omega | assumption | (intros; simp [freeL, freeD]; done))) (aw_ret (?_)))
    exact end_n (.sl 2 0 (0 + n) 1 none) 2 (.arr (0 + n) fun j => i6 (f j)) (arr_arr rfl fun j _ => rfl) keep_sl

theorem copied_new (n : Nat) (c : Nat → Camp) (hn : n ≤ 100000) : AloneN PG 15 [rowC n c] (.sl 1 0 n 7 none) (n * 7) (fun j => .int .i64 (campI c j)) := by
  have h := copied_new0 n c hn
  rw [Nat.zero_add, Nat.zero_add] at h
  exact h
theorem ints_new (n : Nat) (f : Nat → Int) (hn : n ≤ 100000) : AloneN PG 16 [rowI n f] (.sl 1 0 n 1 none) n (fun j => .int .i64 (f j)) := by
  have h := ints_new0 n f hn
  rw [Nat.zero_add] at h
  exact h
end Go.Ev
end
section
open Go Go.Ev Go.RowKit
namespace Go.Ev
set_option maxRecDepth 100000
set_option maxHeartbeats 20000000
set_option linter.all false
def runI (x : Nat → Run) (j : Nat) : Int := match j % 8 with
  | 0 => (x (j / 8)).c.cu
  | 1 => (x (j / 8)).c.pr
  | 2 => (x (j / 8)).c.ho
  | 3 => (x (j / 8)).c.en
  | 4 => (x (j / 8)).c.ea
  | 5 => (x (j / 8)).c.la
  | 6 => (x (j / 8)).c.we
  | _ => (x (j / 8)).first
theorem runI_at {x : Nat → Run} {j : Nat} : getK (runD (x (j / 8))) (j % 8) = i6 (runI x j) := by
  have h : j % 8 < 8 := Nat.mod_lt _ (by decide)
  unfold runI
  generalize x (j / 8) = y
  generalize j % 8 = r at *
  match r, h with
  | 0, _ => rfl
  | 1, _ => rfl
  | 2, _ => rfl
  | 3, _ => rfl
  | 4, _ => rfl
  | 5, _ => rfl
  | 6, _ => rfl
  | 7, _ => rfl
theorem run_back (x : Nat → Run) : (fun i : Nat => (⟨⟨runI x (i * 8), runI x (i * 8 + 1), runI x (i * 8 + 2), runI x (i * 8 + 3), runI x (i * 8 + 4), runI x (i * 8 + 5), runI x (i * 8 + 6)⟩, runI x (i * 8 + 7)⟩ : Run)) = x := by
  funext i
  have e : ∀ r, r < 8 → (i * 8 + r) / 8 = i ∧ (i * 8 + r) % 8 = r := fun r hr => by omega
  have e0 : (i * 8) / 8 = i ∧ (i * 8) % 8 = 0 := by omega
  simp only [runI, e0.1, e0.2, (e 1 (by decide)).1, (e 1 (by decide)).2, (e 2 (by decide)).1, (e 2 (by decide)).2, (e 3 (by decide)).1, (e 3 (by decide)).2, (e 4 (by decide)).1, (e 4 (by decide)).2, (e 5 (by decide)).1, (e 5 (by decide)).2, (e 6 (by decide)).1, (e 6 (by decide)).2, (e 7 (by decide)).1, (e 7 (by decide)).2]
theorem camp_back (c : Nat → Camp) : (fun i : Nat => (⟨campI c (i * 7), campI c (i * 7 + 1), campI c (i * 7 + 2), campI c (i * 7 + 3), campI c (i * 7 + 4), campI c (i * 7 + 5), campI c (i * 7 + 6)⟩ : Camp)) = c := by
  funext i
  have e : ∀ r, r < 7 → (i * 7 + r) / 7 = i ∧ (i * 7 + r) % 7 = r := fun r hr => by omega
  have e0 : (i * 7) / 7 = i ∧ (i * 7) % 7 = 0 := by omega
  simp only [campI, e0.1, e0.2, (e 1 (by decide)).1, (e 1 (by decide)).2, (e 2 (by decide)).1, (e 2 (by decide)).2, (e 3 (by decide)).1, (e 3 (by decide)).2, (e 4 (by decide)).1, (e 4 (by decide)).2, (e 5 (by decide)).1, (e 5 (by decide)).2, (e 6 (by decide)).1, (e 6 (by decide)).2]
/-- one run more -/
def snocR (x : Nat → Run) (n : Nat) (r : Run) (i : Nat) : Run := if i < n then x i else if i = n then r else ⟨⟨0, 0, 0, 0, 0, 0, 0⟩, 0⟩
def snocC (c : Nat → Camp) (n : Nat) (r : Camp) (i : Nat) : Camp := if i < n then c i else if i = n then r else ⟨0, 0, 0, 0, 0, 0, 0⟩
theorem cat_snocR {x : Nat → Run} {n j : Nat} {r : Run} (hj : j < n * 8 + 8) : catF (n * 8) (fun j => i6 (runI x j)) (getK (runD r)) j = i6 (runI (snocR x n r) j) := by
  rw [← runI_at]
  unfold catF
  cases h0 : Nat.beq (n * 8) 0 with
  | true =>
    have e0 := Nat.eq_of_beq_eq_true h0
    have : n = 0 := by omega
    subst this
    have e1 : j / 8 = 0 := by omega
    have e2 : j % 8 = j := by omega
    simp [snocR, e1, e2]
  | false =>
    cases h1 : Nat.ble (j + 1) (n * 8) with
    | true =>
      have h2 := Nat.le_of_ble_eq_true h1
      have e1 : j / 8 < n := by omega
      simp only [h1, snocR, if_pos e1]
      exact runI_at.symm
    | false =>
      have h3 : ¬ j + 1 ≤ n * 8 := fun q => by rw [Nat.ble_eq_true_of_le q] at h1; cases h1
      have e1 : ¬ j / 8 < n := by omega
      have e3 : j / 8 = n := by omega
      have e2 : j % 8 = j - n * 8 := by omega
      simp only [h1, snocR, if_neg e1, if_pos e3, e2]
theorem upd_snocR {x : Nat → Run} {n : Nat} {c : Camp} {a b : Int} : updF (fun j => i6 (runI (snocR x n ⟨c, a⟩) j)) (n * 8 + 7) [i6 b] = fun j => i6 (runI (snocR x n ⟨c, b⟩) j) := by
  funext j
  show (match Nat.beq j (n * 8 + 7) with | true => _ | false => _) = _
  cases q : Nat.beq j (n * 8 + 7) with
  | true =>
    have e := Nat.eq_of_beq_eq_true q
    have e1 : j / 8 = n := by omega
    have e2 : j % 8 = 7 := by omega
    simp [runI, e1, e2, snocR]
  | false =>
    have e := Nat.ne_of_beq_eq_false q
    show i6 _ = i6 _
    by_cases h : j / 8 < n
    · simp [runI, snocR, h]
    · by_cases e1 : j / 8 = n
      · have e2 : j % 8 < 7 := by omega
        simp only [runI, snocR, if_neg h, if_pos e1]
        generalize j % 8 = r at *
        match r, e2 with
        | 0, _ => rfl
        | 1, _ => rfl
        | 2, _ => rfl
        | 3, _ => rfl
        | 4, _ => rfl
        | 5, _ => rfl
        | 6, _ => rfl
      · simp only [runI, snocR, if_neg h, if_neg e1]
def rowRun (f : Nat → List D) (i : Nat) : Run := runL (f i)
theorem clone_nil  : Alone PG 95 [.val (.slice none 0 0)] (.val (.slice none 0 0)) :=
  Alone.ofW (cl := T25) (raw := false) hm0 T25_ok cf_95 fun K w => by
    refine aw_reg0 (aw_assoc (aw_reg0 (aw_yes (aw_assoc (aw_reg0 (aw_rets (end_d (D.val (Value.slice none (0 : Nat) (0 : Nat))) ?_)))))))
    rfl

theorem clone_emp0 (x : Nat → Run) : AloneN PG 95 [.emp false] (.sl 1 0 0 8 none) (0) (fun j => .int .i64 (runI x j)) :=
  AloneN.ofN (cl := T25) hm0 T25_ok cf_95 fun K w => by
    refine aw_reg0 (aw_assoc (aw_reg0 (aw_no (aw_skips (aw_reg0 (aw_ret (?_)))))))
    exact end_n (.sl 2 0 0 8 none) 2 (.cells []) blk_empty keep_sl

theorem clone_row0 (n : Nat) (x : Nat → Run) (hn : n + 1 ≤ 100000) : AloneN PG 95 [rowR (n + 1) x] (.sl 1 0 (0 + (n + 1)) 8 none) (0 + (n + 1) * 8) (fun j => .int .i64 (runI x j)) :=
  AloneN.ofN (cl := T25) hm0 T25_ok cf_95 fun K w => by
    refine aw_reg0 (aw_assoc (aw_reg0 (aw_no (aw_skips (aw_reg (True ∧ True ∧ (∀ (i : Nat), i < n + (1 : Nat) → List.length (runD (x i)) = (8 : Nat) ∧ List.all (runD (x i)) okCell = true) ∧ (0 : Nat) + (n + (1 : Nat)) ≤ (1048576 : Nat)) (by ((try simp only [inRange_i64] at *); (try simp only [implies_true, and_self, true_and, and_true]); (repeat' (with_reducible apply And.intro)) <;> first | exact True.intro | exact fun _ _ => rfl | exact fun _ _ => ⟨rfl, rfl⟩ | omega | assumption | (intros; simp [freeL, freeD]; done))) (aw_ret (?_)))))))
    exact end_n (.sl 2 0 (0 + (n + 1)) 8 none) 2 (.arr (0 + (n + 1) * 8) fun j => getK (runD (x (j / 8))) (j % 8)) (arr_arr rfl fun j _ => runI_at) keep_sl

theorem clone_row (n : Nat) (x : Nat → Run) (hn : n + 1 ≤ 100000) : AloneN PG 95 [rowR (n + 1) x] (.sl 1 0 (n + 1) 8 none) ((n + 1) * 8) (fun j => .int .i64 (runI x j)) := by
  have h := clone_row0 n x hn
  rw [Nat.zero_add, Nat.zero_add] at h
  exact h
def cloneR : List D → Option (Option Prop × D × Nat × (Nat → Value))
  | [.emp false] => some (none, .sl 1 0 0 8 none, 0, fun j => .int .i64 (runI (fun _ => ⟨⟨0, 0, 0, 0, 0, 0, 0⟩, 0⟩) j))
  | [.row 8 m f] => match Nat.ble 1 m with
    | true => some (some ((∀ i, i < m → f i = runD (runL (f i))) ∧ m ≤ 100000), .sl 1 0 m 8 none, m * 8, fun j => .int .i64 (runI (fun i => runL (f i)) j))
    | false => none
  | _ => none
def cloneN : List D → Option (Option Prop × D)
  | [.val (.slice none 0 0)] => some (none, .val (.slice none 0 0))
  | _ => none
noncomputable def T95 := orCl (aloC 95 cloneN) T25
theorem T95_ok (K : Cust) : ClOK K PG T95 := tab_cons cf_95 (fun ds p d h hp => by
    unfold cloneN at h
    split at h
    · cases h
      exact ⟨_, Less.refl _, by simp [freeL, freeD], by simp [freeD], clone_nil⟩
    · cases h) (T25_ok K)
noncomputable def T95b := orCl (newC 95 cloneR) T95
theorem T95b_ok (K : Cust) : ClOK K PG T95b := ClOK.or (newC_ok (ent cf_95) (fun ds p d m gg h hp => by
    unfold cloneR at h
    split at h
    · cases h
      exact ⟨_, Less.refl _, by simp [freeL, freeD], rfl, clone_emp0 _⟩
    · split at h
      · rename_i n0 f0 _ hb
        cases h
        obtain ⟨h1, h2⟩ := hp _ rfl
        obtain ⟨n, rfl⟩ : ∃ n, n0 = n + 1 := ⟨n0 - 1, by have := Nat.le_of_ble_eq_true hb; omega⟩
        exact ⟨_, less_cons (less_row h1) (Less.refl _), by simp [freeL, freeD, runD], rfl, clone_row _ _ h2⟩
      · cases h
    · cases h)) (T95_ok K)
end Go.Ev
end
