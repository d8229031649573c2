import Derived.Test.YtmekepomgofiaaaF20
set_option linter.all false
section
namespace Go.Ev
/-! ### A function that hands back one new array that stays the caller's own (beside what names no cell of his) -/
mutual
/-- names block 1 alone, as a slice -/
def oneD : D → Prop
  | .sl i _ _ _ _ => i = 1
  | .agg ds => oneL ds
  | .tup ds => oneL ds
  | .ptr .. => False
  | .map _ => False
  | .row _ _ f => ∀ i, freeL (f i)
  | .ref cs _ => freeL cs
  | .fn _ a b => freeL a ∧ freeL b
  | .iface _ d => freeD d
  | _ => True
def oneL : List D → Prop
  | [] => True
  | d :: ds => oneD d ∧ oneL ds
end
mutual
/-- block 1 is block nid -/
def renD (nid : Nat) : D → D
  | .sl _ o n k c => .sl nid o n k c
  | .agg ds => .agg (renDL nid ds)
  | .tup ds => .tup (renDL nid ds)
  | d => d
def renDL (nid : Nat) : List D → List D
  | [] => []
  | d :: ds => renD nid d :: renDL nid ds
end
mutual
theorem Rep.one {K K' : Cust} {M M' : World} {ρ ρ' : List Own} {nid : Nat} (hs : Sub M M') (hC : ∀ t q v, K.C t q M v → K'.C t q M' v) (ho : own ρ 1 = own ρ' nid) : ∀ (d : D) (v : Value), oneD d → Rep K M ρ d v → Rep K' M' ρ' (renD nid d) v
  | .any, _, _, _ => trivial
  | .val _, _, _, h => h
  | .ptr .., _, g, _ => g.elim
  | .sl i o n k c, v, g, h => by
    simp only [oneD] at g
    subst g
    simp only [renD, Rep] at *
    rw [← ho]
    exact h
  | .map _, _, g, _ => g.elim
  | .row k len f, v, g, h => by
    have g : freeD (.row k len f) := by simpa only [oneD, freeD] using g
    exact Rep.free hs hC _ v g h
  | .ref cs off, v, g, h => by
    have g : freeD (.ref cs off) := by simpa only [oneD, freeD] using g
    exact Rep.free hs hC _ v g h
  | .agg ds, v, g, h => by
    simp only [oneD] at g
    simp only [renD, Rep] at *
    exact let ⟨vs, h1, h2⟩ := h; ⟨vs, h1, RepL.one hs hC ho ds vs g h2⟩
  | .tup ds, v, g, h => by
    simp only [oneD] at g
    simp only [renD, Rep] at *
    exact let ⟨vs, h1, h2⟩ := h; ⟨vs, h1, RepL.one hs hC ho ds vs g h2⟩
  | .fn f a b, v, g, h => by
    have g : freeD (.fn f a b) := by simpa only [oneD, freeD] using g
    exact Rep.free hs hC _ v g h
  | .iface t d, v, g, h => by
    have g : freeD (.iface t d) := by simpa only [oneD, freeD] using g
    exact Rep.free hs hC _ v g h
  | .cust t q, v, _, h => by
    simp only [renD, Rep] at *
    exact hC _ _ _ h
  | .emp z, v, _, h => by
    simp only [renD, Rep] at *
    exact h
theorem RepL.one {K K' : Cust} {M M' : World} {ρ ρ' : List Own} {nid : Nat} (hs : Sub M M') (hC : ∀ t q v, K.C t q M v → K'.C t q M' v) (ho : own ρ 1 = own ρ' nid) : ∀ (ds : List D) (vs : List Value), oneL ds → RepL K M ρ ds vs → RepL K' M' ρ' (renDL nid ds) vs
  | [], _, _, h => by simpa only [renDL, RepL] using h
  | d :: ds, vs, g, h => by
    simp only [oneL] at g
    simp only [renDL, RepL] at *
    exact let ⟨x, r, h1, h2, h3⟩ := h; ⟨x, r, h1, Rep.one hs hC ho d x g.1 h2, RepL.one hs hC ho ds r g.2 h3⟩
end
noncomputable section
/-- a function, alone, that hands back a new array -/
def AloneN (P : Program) (f : FuncId) (ds : List D) (d : D) (m : Nat) (g : Nat → Value) : Prop :=
  ∀ (K : Cust) (w : World) (args : List Value), OK K w [.fresh] [.dead] → RepL K (mask K w [.fresh]) [.fresh] ds args →
    Calls P f args.toArray w fun e w' => ∃ (v : Value) (b N : Nat), e = .returned v ∧ w.heap.size ≤ w'.heap.size ∧ (∀ c : Nat, c < w.heap.size → w'.heap[c]? = w.heap[c]?) ∧ Env w w' ∧ w.heap.size ≤ b ∧
      RepB K w' (mask K w' [.fresh, .live b N]) [.fresh, .live b N] (.live b N) (.arr m fun j => .val (g j)) ∧ Rep K (mask K w' [.fresh, .live b N]) [.fresh, .live b N] d v
section
variable {K : Cust} {P : Program} {w w' : World} {ρ : List Own} {hp : List Blk} {nid : Nat}
/-- a table of one function that hands back a new array; its arguments name no own block -/
def newC (g : FuncId) (r : List D → Option (Option Prop × D × Nat × (Nat → Value))) (f : FuncId) (ds : List D) (_ : List Blk) (nid : Nat) : Option Out := match Nat.beq f g with
  | true => match r ds with
    | some (p, d, m, gg) => some ⟨p, renD nid d, [(nid, .arr m fun j => .val (gg j))], []⟩
    | none => none
  | false => none
theorem newC_ok {g : FuncId} {r : List D → Option (Option Prop × D × Nat × (Nat → Value))} (henter : ∀ args w, (callFunc g args).run P w = .ok (.enter g args) w)
    (h : ∀ ds p d m gg, r ds = some (p, d, m, gg) → holdsO p → ∃ ds', Less ds ds' ∧ freeL ds' ∧ oneD d ∧ AloneN P g ds' d m gg) : ClOK K P (newC g r) := by
  intro f ds hp nid out ho hc
  unfold newC at ho
  split at ho
  · rename_i hfg
    obtain rfl := Nat.eq_of_beq_eq_true hfg
    split at ho
    · rename_i p d m gg hr
      obtain rfl := (Option.some.inj ho).symm
      refine ⟨henter, fun w ρ args hk hrep hn => ?_⟩
      obtain ⟨ds2, hl, hfr, hone, hA⟩ := h ds p d m gg hr hc
      refine (hA (hideC K ρ) w args hk.hide (RepL.free (K := K) (K' := hideC K ρ) hideC_sub (fun t q v hc => K.mono _ _ _ _ _ hideC_sub hc) ds2 args hfr (hl K _ _ _ hrep))).mono fun e w' hx => ?_
      obtain ⟨v, b, N, rfl, hsize, hkeep, henv, hb, hB, hR⟩ := hx
      have hi : nid < ρ.length := (List.getElem?_eq_some_iff.1 hn).1
      have hmask : Sub (mask (hideC K ρ) w' [.fresh, .live b N]) (mask K w' (ρ.set nid (.live b N))) := fun c cs ty fr hc => by
        rw [mask_some] at *
        refine ⟨?_, hc.2⟩
        rintro (hh | ⟨i, n, hi2⟩)
        · exact hc.1 (.inl (.inl hh))
        · rw [List.getElem?_set] at hi2
          split at hi2
          · first
              | (obtain ⟨rfl, rfl⟩ := Own.live.inj (Option.some.inj hi2)
                 exact hc.1 (.inr ⟨1, N, rfl⟩))
              | (split at hi2
                 · obtain ⟨rfl, rfl⟩ := Own.live.inj (Option.some.inj hi2)
                   exact hc.1 (.inr ⟨1, N, rfl⟩)
                 · cases hi2)
          · exact hc.1 (.inl (.inr ⟨i, n, hi2⟩))
      have hown : own (ρ.set nid (.live b N)) nid = .live b N := by rw [own_set hi, if_pos rfl]
      refine ⟨v, rfl, ρ.set nid (.live b N), ?_, ?_⟩
      · exact Rep.one (K := hideC K ρ) (K' := K) hmask (fun t q v hc => K.mono _ _ _ _ _ hmask hc) (by rw [hown]; rfl) d v hone hR
      · obtain ⟨vs, ty, q1, q2, q3, q4⟩ := hB
        refine Eff.new_at hsize hkeep hb (lt_of_cells q1) hn hk.lt ?_ henv
        refine ⟨vs, ty, q1, q2, q3, fun j hj => ?_⟩
        obtain ⟨x, p1, p2⟩ := q4 j hj
        exact ⟨x, p1, by simpa only [Rep] using p2⟩
    · cases ho
  · cases ho
/-- what is told of a result when one block is kept and the others are given up -/
def KeepP (hp : List Blk) (id : Nat) (r d : D) : Prop := ∀ (K : Cust) (w : World) (ρ : List Own) (v : Value) (b N : Nat), OK K w ρ hp → ρ[id]? = some (.live b N) → Rep K (mask K w ρ) ρ r v → Rep K (mask K w [.fresh, .live b N]) [.fresh, .live b N] d v
def KeepL (hp : List Blk) (id : Nat) (rs ds : List D) : Prop := ∀ (K : Cust) (w : World) (ρ : List Own) (vs : List Value) (b N : Nat), OK K w ρ hp → ρ[id]? = some (.live b N) → RepL K (mask K w ρ) ρ rs vs → RepL K (mask K w [.fresh, .live b N]) [.fresh, .live b N] ds vs
theorem keep_see {id : Nat} {r d : D} {p : Option Prop} (h : seeS (hp.set id .dead) 6 r = some (p, d)) (hp' : holdsO p) : KeepP hp id r d := fun _ _ _ v _ _ hk ho hr => seeB_ok ho hk 6 r d v p hr h hp'
theorem keep_sl {id off n k : Nat} {cap : Option Nat} : KeepP hp id (.sl id off n k cap) (.sl 1 off n k cap) := fun K w ρ v b N hk ho hr => by
  simp only [Rep, own_some ho] at hr
  exact hr
theorem keepL_nil {id : Nat} : KeepL hp id [] [] := fun K w ρ vs b N _ _ hr => by simpa only [RepL] using hr
theorem keepL_cons {id : Nat} {r d : D} {rs ds : List D} (h1 : KeepP hp id r d) (h2 : KeepL hp id rs ds) : KeepL hp id (r :: rs) (d :: ds) := fun K w ρ vs b N hk ho hr => by
  simp only [RepL] at *
  obtain ⟨x, l, rfl, g1, g2⟩ := hr
  exact ⟨x, l, rfl, h1 K w ρ x b N hk ho g1, h2 K w ρ l b N hk ho g2⟩
theorem keep_agg {id : Nat} {rs ds : List D} (h : KeepL hp id rs ds) : KeepP hp id (.agg rs) (.agg ds) := fun K w ρ v b N hk ho hr => by
  simp only [Rep] at *
  obtain ⟨vs, rfl, g⟩ := hr
  exact ⟨vs, rfl, h K w ρ vs b N hk ho g⟩
theorem keep_tup {id : Nat} {rs ds : List D} (h : KeepL hp id rs ds) : KeepP hp id (.tup rs) (.tup ds) := fun K w ρ v b N hk ho hr => by
  simp only [Rep] at *
  obtain ⟨vs, rfl, g⟩ := hr
  exact ⟨vs, rfl, h K w ρ vs b N hk ho g⟩
theorem keep_i {id : Nat} {v : Value} : KeepP hp id (.val v) (.val v) := fun K w ρ x b N _ _ hr => hr
/-- the end of such a function -/
structure EndN (fn : AFun) (d : D) (m : Nat) (g : Nat → Value) (e : Ex) (s : St) : Prop where
  out : exD e = true ∧ ∃ (ds : List D) (id : Nat) (xp : Blk), resD s fn.results = some ds ∧ getG s.hp id = some xp ∧ xp ≠ .dead ∧ (∀ (K : Cust) (w : World) (M : World) (ρ : List Own) (o : Own), RepB K w M ρ o xp → RepB K w M ρ o (.arr m fun j => .val (g j))) ∧ KeepP s.hp id (tupD ds) d
theorem end_n {fn : AFun} {d : D} {m : Nat} {g : Nat → Value} {e : Ex} {s : St} (r : D) (id : Nat) (xp : Blk) (hx : ∀ (K : Cust) (w : World) (M : World) (ρ : List Own) (o : Own), RepB K w M ρ o xp → RepB K w M ρ o (.arr m fun j => .val (g j))) (h : KeepP s.hp id r d) (hd : xp ≠ .dead := by intro h; cases h) (hb : getG s.hp id = some xp := by kernel_rfl)
    (he : exD e = true := by kernel_rfl) (hr : (resD s fn.results).map tupD = some r := by kernel_rfl) : EndN fn d m g e s := by
  refine ⟨he, ?_⟩
  cases hres : resD s fn.results with
  | none => rw [hres] at hr; cases hr
  | some ds =>
    rw [hres] at hr
    obtain rfl := Option.some.inj hr
    exact ⟨ds, id, xp, rfl, hb, hd, hx, h⟩
theorem AloneN.ofN {cl : FuncId → List D → List Blk → Nat → Option Out} {f : FuncId} {fn : AFun} (hm : P.follows .mixedOrders = true) (hcl : ∀ K, ClOK K P cl) (hf : compF P f = some fn) {ds : List D} {d : D} {m : Nat} {g : Nat → Value}
    (h : ∀ K w, AW cl (LoopA K P w [.fresh] [.dead]) fn.body (startF fn ds [.dead]) (EndN fn d m g)) : AloneN P f ds d m g := by
  intro K w args hk hr
  have hcl := hcl K
  unfold compF at hf
  split at hf
  · rename_i fu hfn
    split at hf
    · rename_i c hbody
      split at hf
      · rename_i ab rs hab hrs hname
        cases hf
        refine calls_of_wp hfn hbody (wp_mono (aw_ok hm hcl c ab _ _ hab (h K w).out w [.fresh] _ (Inv.init hk hr)) fun x a' w' hx => ?_)
        obtain ⟨e, s', ρ', rfl, hI, hq⟩ := hx
        obtain ⟨hex, rds, id, xp, hrd, hb, hxd, hf', hF⟩ := hq.out
        obtain ⟨v, hv1, hv2⟩ := results_ok (fn := fu) hI.okHp hI.slots hrs hrd
        have hkeep : ∀ b : Nat, b < w.heap.size → w'.heap[b]? = w.heap[b]? := fun b hb => hI.keep b hb fun i n hi => by cases i <;> simp at hi
        obtain ⟨b, N, ho, hB⟩ := own_block hI.okHp hb hxd
        have hbsz : w.heap.size ≤ b := by
          rcases hI.new b (.inr ⟨id, N, own_live ho⟩) with hl | hl
          · exact absurd (see_live.1 hl) (hI.okHp.apart id b N (own_live ho))
          · exact hl
        have hres : w.heap.size ≤ w'.heap.size ∧ (∀ c : Nat, c < w.heap.size → w'.heap[c]? = w.heap[c]?) ∧ Env w w' ∧ w.heap.size ≤ b ∧
            RepB K w' (mask K w' [.fresh, .live b N]) [.fresh, .live b N] (.live b N) (.arr m fun j => .val (g j)) ∧ Rep K (mask K w' [.fresh, .live b N]) [.fresh, .live b N] d v := by
          refine ⟨hI.size, hkeep, hI.env, hbsz, ?_, hF K w' ρ' v b N hI.okHp (own_live ho) hv2⟩
          obtain ⟨vs, ty, q1, q2, q3, q4⟩ := hf' _ _ _ _ _ hB
          refine ⟨vs, ty, q1, q2, q3, fun j hj => ?_⟩
          obtain ⟨x, p1, p2⟩ := q4 j hj
          exact ⟨x, p1, by simpa only [Rep] using p2⟩
        cases e with
        | normal => exact ⟨hI.defers, v, hv1, v, b, N, rfl, hres⟩
        | ret => exact ⟨hI.defers, v, hv1, v, b, N, rfl, hres⟩
        | exit i => simp [exD] at hex
      · cases hf
    · cases hf
  · cases hf
end
end
end Go.Ev
end
section
open Go Go.Ev Go.RowKit
namespace Go.Ev
set_option maxRecDepth 100000
set_option maxHeartbeats 20000000
set_option linter.all false
def campI (c : Nat → Camp) (j : Nat) : Int := match j % 7 with
  | 0 => (c (j / 7)).cu
  | 1 => (c (j / 7)).pr
  | 2 => (c (j / 7)).ho
  | 3 => (c (j / 7)).en
  | 4 => (c (j / 7)).ea
  | 5 => (c (j / 7)).la
  | _ => (c (j / 7)).we
theorem campI_at {c : Nat → Camp} {j : Nat} : getK (campD (c (j / 7))) (j % 7) = i6 (campI c j) := by
  have h : j % 7 < 7 := Nat.mod_lt _ (by decide)
  unfold campI
  generalize c (j / 7) = x
  generalize j % 7 = r at *
  match r, h with
  | 0, _ => rfl
  | 1, _ => rfl
  | 2, _ => rfl
  | 3, _ => rfl
  | 4, _ => rfl
  | 5, _ => rfl
  | 6, _ => rfl
theorem copied_new0 (n : Nat) (c : Nat → Camp) (hn : n ≤ 100000) : AloneN PG 15 [rowC n c] (.sl 1 0 (0 + n) 7 none) (0 + n * 7) (fun j => .int .i64 (campI c j)) :=
  AloneN.ofN (cl := T25) hm0 T25_ok cf_15 fun K w => by
    refine aw_reg0 (aw_reg (True ∧ True ∧ (∀ (i : Nat), i < n → List.length (campD (c i)) = (7 : Nat) ∧ List.all (campD (c i)) okCell = true) ∧ (0 : Nat) + n ≤ (1048576 : Nat)) (by ((try simp only [inRange_i64] at *); (try simp only [implies_true, and_self, true_and, and_true]); (repeat' (with_reducible apply And.intro)) <;> first | exact True.intro | exact fun _ _ => rfl | exact fun _ _ => ⟨rfl, rfl⟩ | omega | assumption | (intros; simp [freeL, freeD]; done))) (aw_ret (?_)))
    exact end_n (.sl 2 0 (0 + n) 7 none) 2 (.arr (0 + n * 7) fun j => getK (campD (c (j / 7))) (j % 7)) (arr_arr rfl fun j _ => campI_at) keep_sl

theorem ints_new0 (n : Nat) (f : Nat → Int) (hn : n ≤ 100000) : AloneN PG 16 [rowI n f] (.sl 1 0 (0 + n) 1 none) (0 + n) (fun j => .int .i64 (f j)) :=
  AloneN.ofN (cl := T25) hm0 T25_ok cf_16 fun K w => by
    refine aw_reg0 (aw_reg (True ∧ True ∧ (∀ (i : Nat), i < n → List.length [i6 (f i)] = (1 : Nat) ∧ List.all [i6 (f i)] okCell = true) ∧ (0 : Nat) + n ≤ (1048576 : Nat)) (by ((try simp only [inRange_i64] at *); (try simp only [implies_true, and_self, true_and, and_true]); (repeat' (with_reducible apply And.intro)) <;> first | exact True.intro | exact fun _ _ => rfl | exact fun _ _ => ⟨rfl, rfl⟩ | omega | assumption | (intros; simp [freeL, freeD]; done))) (aw_ret (?_)))
    exact end_n (.sl 2 0 (0 + n) 1 none) 2 (.arr (0 + n) fun j => i6 (f j)) (arr_arr rfl fun j _ => rfl) keep_sl

theorem copied_new (n : Nat) (c : Nat → Camp) (hn : n ≤ 100000) : AloneN PG 15 [rowC n c] (.sl 1 0 n 7 none) (n * 7) (fun j => .int .i64 (campI c j)) := by
  have h := copied_new0 n c hn
  rw [Nat.zero_add, Nat.zero_add] at h
  exact h
theorem ints_new (n : Nat) (f : Nat → Int) (hn : n ≤ 100000) : AloneN PG 16 [rowI n f] (.sl 1 0 n 1 none) n (fun j => .int .i64 (f j)) := by
  have h := ints_new0 n f hn
  rw [Nat.zero_add] at h
  exact h
end Go.Ev
end
section
open Go Go.Ev Go.RowKit
namespace Go.Ev
set_option maxRecDepth 100000
set_option maxHeartbeats 20000000
set_option linter.all false
def runI (x : Nat → Run) (j : Nat) : Int := match j % 8 with
  | 0 => (x (j / 8)).c.cu
  | 1 => (x (j / 8)).c.pr
  | 2 => (x (j / 8)).c.ho
  | 3 => (x (j / 8)).c.en
  | 4 => (x (j / 8)).c.ea
  | 5 => (x (j / 8)).c.la
  | 6 => (x (j / 8)).c.we
  | _ => (x (j / 8)).first
theorem runI_at {x : Nat → Run} {j : Nat} : getK (runD (x (j / 8))) (j % 8) = i6 (runI x j) := by
  have h : j % 8 < 8 := Nat.mod_lt _ (by decide)
  unfold runI
  generalize x (j / 8) = y
  generalize j % 8 = r at *
  match r, h with
  | 0, _ => rfl
  | 1, _ => rfl
  | 2, _ => rfl
  | 3, _ => rfl
  | 4, _ => rfl
  | 5, _ => rfl
  | 6, _ => rfl
  | 7, _ => rfl
theorem run_back (x : Nat → Run) : (fun i : Nat => (⟨⟨runI x (i * 8), runI x (i * 8 + 1), runI x (i * 8 + 2), runI x (i * 8 + 3), runI x (i * 8 + 4), runI x (i * 8 + 5), runI x (i * 8 + 6)⟩, runI x (i * 8 + 7)⟩ : Run)) = x := by
  funext i
  have e : ∀ r, r < 8 → (i * 8 + r) / 8 = i ∧ (i * 8 + r) % 8 = r := fun r hr => by omega
  have e0 : (i * 8) / 8 = i ∧ (i * 8) % 8 = 0 := by omega
  simp only [runI, e0.1, e0.2, (e 1 (by decide)).1, (e 1 (by decide)).2, (e 2 (by decide)).1, (e 2 (by decide)).2, (e 3 (by decide)).1, (e 3 (by decide)).2, (e 4 (by decide)).1, (e 4 (by decide)).2, (e 5 (by decide)).1, (e 5 (by decide)).2, (e 6 (by decide)).1, (e 6 (by decide)).2, (e 7 (by decide)).1, (e 7 (by decide)).2]
theorem camp_back (c : Nat → Camp) : (fun i : Nat => (⟨campI c (i * 7), campI c (i * 7 + 1), campI c (i * 7 + 2), campI c (i * 7 + 3), campI c (i * 7 + 4), campI c (i * 7 + 5), campI c (i * 7 + 6)⟩ : Camp)) = c := by
  funext i
  have e : ∀ r, r < 7 → (i * 7 + r) / 7 = i ∧ (i * 7 + r) % 7 = r := fun r hr => by omega
  have e0 : (i * 7) / 7 = i ∧ (i * 7) % 7 = 0 := by omega
  simp only [campI, e0.1, e0.2, (e 1 (by decide)).1, (e 1 (by decide)).2, (e 2 (by decide)).1, (e 2 (by decide)).2, (e 3 (by decide)).1, (e 3 (by decide)).2, (e 4 (by decide)).1, (e 4 (by decide)).2, (e 5 (by decide)).1, (e 5 (by decide)).2, (e 6 (by decide)).1, (e 6 (by decide)).2]
/-- one run more -/
def snocR (x : Nat → Run) (n : Nat) (r : Run) (i : Nat) : Run := if i < n then x i else if i = n then r else ⟨⟨0, 0, 0, 0, 0, 0, 0⟩, 0⟩
def snocC (c : Nat → Camp) (n : Nat) (r : Camp) (i : Nat) : Camp := if i < n then c i else if i = n then r else ⟨0, 0, 0, 0, 0, 0, 0⟩
theorem cat_snocR {x : Nat → Run} {n j : Nat} {r : Run} (hj : j < n * 8 + 8) : catF (n * 8) (fun j => i6 (runI x j)) (getK (runD r)) j = i6 (runI (snocR x n r) j) := by
  rw [← runI_at]
  unfold catF
  cases h0 : Nat.beq (n * 8) 0 with
  | true =>
    have e0 := Nat.eq_of_beq_eq_true h0
    have : n = 0 := by omega
    subst this
    have e1 : j / 8 = 0 := by omega
    have e2 : j % 8 = j := by omega
    simp [snocR, e1, e2]
  | false =>
    cases h1 : Nat.ble (j + 1) (n * 8) with
    | true =>
      have h2 := Nat.le_of_ble_eq_true h1
      have e1 : j / 8 < n := by omega
      simp only [h1, snocR, if_pos e1]
      exact runI_at.symm
    | false =>
      have h3 : ¬ j + 1 ≤ n * 8 := fun q => by rw [Nat.ble_eq_true_of_le q] at h1; cases h1
      have e1 : ¬ j / 8 < n := by omega
      have e3 : j / 8 = n := by omega
      have e2 : j % 8 = j - n * 8 := by omega
      simp only [h1, snocR, if_neg e1, if_pos e3, e2]
theorem upd_snocR {x : Nat → Run} {n : Nat} {c : Camp} {a b : Int} : updF (fun j => i6 (runI (snocR x n ⟨c, a⟩) j)) (n * 8 + 7) [i6 b] = fun j => i6 (runI (snocR x n ⟨c, b⟩) j) := by
  funext j
  show (match Nat.beq j (n * 8 + 7) with | true => _ | false => _) = _
  cases q : Nat.beq j (n * 8 + 7) with
  | true =>
    have e := Nat.eq_of_beq_eq_true q
    have e1 : j / 8 = n := by omega
    have e2 : j % 8 = 7 := by omega
    simp [runI, e1, e2, snocR]
  | false =>
    have e := Nat.ne_of_beq_eq_false q
    show i6 _ = i6 _
    by_cases h : j / 8 < n
    · simp [runI, snocR, h]
    · by_cases e1 : j / 8 = n
      · have e2 : j % 8 < 7 := by omega
        simp only [runI, snocR, if_neg h, if_pos e1]
        generalize j % 8 = r at *
        match r, e2 with
        | 0, _ => rfl
        | 1, _ => rfl
        | 2, _ => rfl
        | 3, _ => rfl
        | 4, _ => rfl
        | 5, _ => rfl
        | 6, _ => rfl
      · simp only [runI, snocR, if_neg h, if_neg e1]
def rowRun (f : Nat → List D) (i : Nat) : Run := runL (f i)
theorem clone_nil  : Alone PG 95 [.val (.slice none 0 0)] (.val (.slice none 0 0)) :=
  Alone.ofW (cl := T25) (raw := false) hm0 T25_ok cf_95 fun K w => by
    refine aw_reg0 (aw_assoc (aw_reg0 (aw_yes (aw_assoc (aw_reg0 (aw_rets (end_d (D.val (Value.slice none (0 : Nat) (0 : Nat))) ?_)))))))
    rfl

theorem clone_emp0 (x : Nat → Run) : AloneN PG 95 [.emp false] (.sl 1 0 0 8 none) (0) (fun j => .int .i64 (runI x j)) :=
  AloneN.ofN (cl := T25) hm0 T25_ok cf_95 fun K w => by
    refine aw_reg0 (aw_assoc (aw_reg0 (aw_no (aw_skips (aw_reg0 (aw_ret (?_)))))))
    exact end_n (.sl 2 0 0 8 none) 2 (.cells []) blk_empty keep_sl

theorem clone_row0 (n : Nat) (x : Nat → Run) (hn : n + 1 ≤ 100000) : AloneN PG 95 [rowR (n + 1) x] (.sl 1 0 (0 + (n + 1)) 8 none) (0 + (n + 1) * 8) (fun j => .int .i64 (runI x j)) :=
  AloneN.ofN (cl := T25) hm0 T25_ok cf_95 fun K w => by
    refine aw_reg0 (aw_assoc (aw_reg0 (aw_no (aw_skips (aw_reg (True ∧ True ∧ (∀ (i : Nat), i < n + (1 : Nat) → List.length (runD (x i)) = (8 : Nat) ∧ List.all (runD (x i)) okCell = true) ∧ (0 : Nat) + (n + (1 : Nat)) ≤ (1048576 : Nat)) (by ((try simp only [inRange_i64] at *); (try simp only [implies_true, and_self, true_and, and_true]); (repeat' (with_reducible apply And.intro)) <;> first | exact True.intro | exact fun _ _ => rfl | exact fun _ _ => ⟨rfl, rfl⟩ | omega | assumption | (intros; simp [freeL, freeD]; done))) (aw_ret (?_)))))))
    exact end_n (.sl 2 0 (0 + (n + 1)) 8 none) 2 (.arr (0 + (n + 1) * 8) fun j => getK (runD (x (j / 8))) (j % 8)) (arr_arr rfl fun j _ => runI_at) keep_sl

theorem clone_row (n : Nat) (x : Nat → Run) (hn : n + 1 ≤ 100000) : AloneN PG 95 [rowR (n + 1) x] (.sl 1 0 (n + 1) 8 none) ((n + 1) * 8) (fun j => .int .i64 (runI x j)) := by
  have h := clone_row0 n x hn
  rw [Nat.zero_add, Nat.zero_add] at h
  exact h
def cloneR : List D → Option (Option Prop × D × Nat × (Nat → Value))
  | [.emp false] => some (none, .sl 1 0 0 8 none, 0, fun j => .int .i64 (runI (fun _ => ⟨⟨0, 0, 0, 0, 0, 0, 0⟩, 0⟩) j))
  | [.row 8 m f] => match Nat.ble 1 m with
    | true => some (some ((∀ i, i < m → f i = runD (runL (f i))) ∧ m ≤ 100000), .sl 1 0 m 8 none, m * 8, fun j => .int .i64 (runI (fun i => runL (f i)) j))
    | false => none
  | _ => none
def cloneN : List D → Option (Option Prop × D)
  | [.val (.slice none 0 0)] => some (none, .val (.slice none 0 0))
  | _ => none
noncomputable def T95 := orCl (aloC 95 cloneN) T25
theorem T95_ok (K : Cust) : ClOK K PG T95 := tab_cons cf_95 (fun ds p d h hp => by
    unfold cloneN at h
    split at h
    · cases h
      exact ⟨_, Less.refl _, by simp [freeL, freeD], by simp [freeD], clone_nil⟩
    · cases h) (T25_ok K)
noncomputable def T95b := orCl (newC 95 cloneR) T95
theorem T95b_ok (K : Cust) : ClOK K PG T95b := ClOK.or (newC_ok (ent cf_95) (fun ds p d m gg h hp => by
    unfold cloneR at h
    split at h
    · cases h
      exact ⟨_, Less.refl _, by simp [freeL, freeD], rfl, clone_emp0 _⟩
    · split at h
      · rename_i n0 f0 _ hb
        cases h
        obtain ⟨h1, h2⟩ := hp _ rfl
        obtain ⟨n, rfl⟩ : ∃ n, n0 = n + 1 := ⟨n0 - 1, by have := Nat.le_of_ble_eq_true hb; omega⟩
        exact ⟨_, less_cons (less_row h1) (Less.refl _), by simp [freeL, freeD, runD], rfl, clone_row _ _ h2⟩
      · cases h
    · cases h)) (T95_ok K)
end Go.Ev
end
section
open Go Go.Ev Go.RowKit
namespace Go.Ev
set_option maxRecDepth 100000
set_option maxHeartbeats 20000000
set_option linter.all false
theorem run_tab (Y : Nat → Run) (i : Nat) : tabF (fun j => i6 (runI Y j)) (i * 8) 8 = runD (Y i) := by
  have := congrFun (run_back Y) i
  show [i6 (runI Y (i * 8)), i6 (runI Y (i * 8 + 1)), i6 (runI Y (i * 8 + 2)), i6 (runI Y (i * 8 + 3)), i6 (runI Y (i * 8 + 4)), i6 (runI Y (i * 8 + 5)), i6 (runI Y (i * 8 + 6)), i6 (runI Y (i * 8 + 7))] = runD (Y i)
  rw [← this]
  rfl
theorem camp_tab (Y : Nat → Camp) (i : Nat) : tabF (fun j => i6 (campI Y j)) (i * 7) 7 = campD (Y i) := by
  have := congrFun (camp_back Y) i
  show [i6 (campI Y (i * 7)), i6 (campI Y (i * 7 + 1)), i6 (campI Y (i * 7 + 2)), i6 (campI Y (i * 7 + 3)), i6 (campI Y (i * 7 + 4)), i6 (campI Y (i * 7 + 5)), i6 (campI Y (i * 7 + 6))] = campD (Y i)
  rw [← this]
  rfl
theorem run_upd (x : Nat → Run) (n : Nat) (c : Camp) (a b : Int) (i : Nat) : tabF (updF (fun j => i6 (runI (snocR x n ⟨c, a⟩) j)) (n * 8 + 7) [i6 b]) (i * 8) 8 = runD (snocR x n ⟨c, b⟩ i) := by
  rw [upd_snocR]
  exact run_tab _ i
def rowCamp (f : Nat → List D) (i : Nat) : Camp := campL (f i)
def rowInt (f : Nat → List D) (i : Nat) : Int := intL (f i)
/-- one more behind n camps: what the cells hold -/
theorem camp_cat (c : Nat → Camp) (n : Nat) (d : Camp) (i : Nat) : campL (tabF (catF (n * 7) (fun j => i6 (campI c j)) (getK (campD d))) (i * 7) 7) = snocC c n d i := by
  by_cases h : i < n
  · have e : tabF (catF (n * 7) (fun j => i6 (campI c j)) (getK (campD d))) (i * 7) 7 = tabF (fun j => i6 (campI c j)) (i * 7) 7 := by
      have hc : ∀ j, j < n * 7 → catF (n * 7) (fun j => i6 (campI c j)) (getK (campD d)) j = i6 (campI c j) := fun j hj => by
        unfold catF
        cases h0 : Nat.beq (n * 7) 0 with
        | true => have := Nat.eq_of_beq_eq_true h0; omega
        | false => simp only [Nat.ble_eq_true_of_le (show j + 1 ≤ n * 7 by omega)]
      simp only [tabF]
      rw [hc _ (by omega), hc _ (by omega), hc _ (by omega), hc _ (by omega), hc _ (by omega), hc _ (by omega), hc _ (by omega)]
    rw [e, camp_tab]
    simp [snocC, h]
  · have hc : ∀ j, n * 7 ≤ j → catF (n * 7) (fun j => i6 (campI c j)) (getK (campD d)) j = getK (campD d) (j - n * 7) := fun j hj => by
      unfold catF
      cases h0 : Nat.beq (n * 7) 0 with
      | true => have := Nat.eq_of_beq_eq_true h0; rw [this]; rfl
      | false =>
        cases h1 : Nat.ble (j + 1) (n * 7) with
        | true => have := Nat.le_of_ble_eq_true h1; omega
        | false => simp only [h1]
    simp only [tabF]
    rw [hc _ (by omega), hc _ (by omega), hc _ (by omega), hc _ (by omega), hc _ (by omega), hc _ (by omega), hc _ (by omega)]
    by_cases q : i = n
    · subst q
      simp only [snocC, if_neg h, if_true]
      have e : ∀ r, r < 7 → i * 7 + r - i * 7 = r := fun r _ => by omega
      rw [show i * 7 - i * 7 = 0 by omega, show i * 7 + 1 - i * 7 = 1 by omega, show i * 7 + 1 + 1 - i * 7 = 2 by omega, show i * 7 + 1 + 1 + 1 - i * 7 = 3 by omega, show i * 7 + 1 + 1 + 1 + 1 - i * 7 = 4 by omega, show i * 7 + 1 + 1 + 1 + 1 + 1 - i * 7 = 5 by omega, show i * 7 + 1 + 1 + 1 + 1 + 1 + 1 - i * 7 = 6 by omega]
      rfl
    · simp only [snocC, if_neg h, if_neg q]
      obtain ⟨k, hk⟩ : ∃ k, i * 7 - n * 7 = k + 7 := ⟨i * 7 - n * 7 - 7, by omega⟩
      rw [hk]
      rfl
theorem camp_cat2 (c : Nat → Camp) (n : Nat) (d : Camp) (i : Nat) (hi : i < n + 1) : tabF (catF (n * 7) (fun j => i6 (campI c j)) (getK (campD d))) (i * 7) 7 = campD (snocC c n d i) := by
  by_cases h : i < n
  · have hc : ∀ j, j < n * 7 → catF (n * 7) (fun j => i6 (campI c j)) (getK (campD d)) j = i6 (campI c j) := fun j hj => by
      unfold catF
      cases h0 : Nat.beq (n * 7) 0 with
      | true => have := Nat.eq_of_beq_eq_true h0; omega
      | false => simp only [Nat.ble_eq_true_of_le (show j + 1 ≤ n * 7 by omega)]
    have e : tabF (catF (n * 7) (fun j => i6 (campI c j)) (getK (campD d))) (i * 7) 7 = tabF (fun j => i6 (campI c j)) (i * 7) 7 := by
      simp only [tabF]
      rw [hc _ (by omega), hc _ (by omega), hc _ (by omega), hc _ (by omega), hc _ (by omega), hc _ (by omega), hc _ (by omega)]
    rw [e, camp_tab]
    simp [snocC, h]
  · obtain rfl : i = n := by omega
    have hc : ∀ j, i * 7 ≤ j → catF (i * 7) (fun j => i6 (campI c j)) (getK (campD d)) j = getK (campD d) (j - i * 7) := fun j hj => by
      unfold catF
      cases h0 : Nat.beq (i * 7) 0 with
      | true => have := Nat.eq_of_beq_eq_true h0; rw [this]; rfl
      | false =>
        cases h1 : Nat.ble (j + 1) (i * 7) with
        | true => have := Nat.le_of_ble_eq_true h1; omega
        | false => simp only [h1]
    simp only [tabF]
    rw [hc _ (by omega), hc _ (by omega), hc _ (by omega), hc _ (by omega), hc _ (by omega), hc _ (by omega), hc _ (by omega)]
    simp only [snocC, if_neg h, if_true]
    rw [show i * 7 - i * 7 = 0 by omega, show i * 7 + 1 - i * 7 = 1 by omega, show i * 7 + 1 + 1 - i * 7 = 2 by omega, show i * 7 + 1 + 1 + 1 - i * 7 = 3 by omega, show i * 7 + 1 + 1 + 1 + 1 - i * 7 = 4 by omega, show i * 7 + 1 + 1 + 1 + 1 + 1 - i * 7 = 5 by omega, show i * 7 + 1 + 1 + 1 + 1 + 1 + 1 - i * 7 = 6 by omega]
    rfl
theorem camp_catR (c : Nat → Camp) (n : Nat) (d : Camp) : (rowCamp fun i => tabF (catF (n * 7) (fun j => i6 (campI c j)) (getK (campD d))) (i * 7) 7) = snocC c n d := funext fun i => camp_cat c n d i
theorem camp_catF (c : Nat → Camp) (n : Nat) (d : Camp) (i : Nat) (hi : i < n + 1) : tabF (catF (n * 7) (fun j => i6 (campI c j)) (getK (campD d))) (i * 7) 7 = campD (rowCamp (fun i => tabF (catF (n * 7) (fun j => i6 (campI c j)) (getK (campD d))) (i * 7) 7) i) := by
  rw [camp_catR, camp_cat2 c n d i hi]
theorem getK_free : ∀ (l : List D) (j : Nat), freeL l → freeD (getK l j) := fun l j h => by
  rw [getK_eq]
  cases q : l[j]? with
  | none => rw [List.getD_eq_getElem?_getD, q]; trivial
  | some x =>
    rw [List.getD_eq_getElem?_getD, q]
    have key : ∀ (l : List D) (j : Nat) (x : D), freeL l → l[j]? = some x → freeD x := by
      intro l
      induction l with
      | nil => intro j x _ hx; simp at hx
      | cons d l ih =>
        intro j x hl hx
        simp only [freeL] at hl
        cases j with
        | zero => simp at hx; exact hx ▸ hl.1
        | succ j => exact ih j x hl.2 (by simpa using hx)
    exact key l j x h q
theorem catF_free {a : Nat} {f : Nat → D} {l : List D} (hf : ∀ j, freeD (f j)) (hl : freeL l) (j : Nat) : freeD (catF a f (getK l) j) := by
  unfold catF
  cases Nat.beq a 0 with
  | true => exact getK_free l j hl
  | false =>
    cases h : Nat.ble (j + 1) a with
    | true => simp only [h]; exact hf j
    | false => simp only [h]; exact getK_free l _ hl
theorem camp_cut (d : Camp) : rowCamp (cutC (campD d) 0 7) = snocC (fun _ => ⟨0, 0, 0, 0, 0, 0, 0⟩) 0 d := by
  funext i
  cases i with
  | zero => rfl
  | succ i =>
    have e : (i + 1) * 7 = i * 7 + 7 := by omega
    show campL (takeG (dropG (campD d) ((i + 1) * 7)) 7) = _
    rw [e]
    rfl
theorem camp_cut2 (d : Camp) (i : Nat) (hi : i < 0 + 1) : cutC (campD d) 0 7 i = campD (rowCamp (cutC (campD d) 0 7) i) := by
  obtain rfl : i = 0 := by omega
  rfl
theorem int_cat (p : Nat → Int) (m : Nat) (t : Int) (i : Nat) : intL [catF m (fun j => i6 (p j)) (getK [i6 t]) i] = if i < m then p i else if i = m then t else 0 := by
  unfold catF
  cases h0 : Nat.beq m 0 with
  | true =>
    obtain rfl := Nat.eq_of_beq_eq_true h0
    rw [if_neg (Nat.not_lt_zero _)]
    cases i with
    | zero => rfl
    | succ i => rfl
  | false =>
    cases h1 : Nat.ble (i + 1) m with
    | true =>
      have := Nat.le_of_ble_eq_true h1
      simp only [h1]
      rw [if_pos (by omega)]
      rfl
    | false =>
      have h3 : ¬ i + 1 ≤ m := fun q => by rw [Nat.ble_eq_true_of_le q] at h1; cases h1
      simp only [h1]
      rw [if_neg (by omega)]
      by_cases q : i = m
      · subst q
        rw [Nat.sub_self, if_pos rfl]
        rfl
      · rw [if_neg q]
        obtain ⟨k, hk⟩ : ∃ k, i - m = k + 1 := ⟨i - m - 1, by omega⟩
        rw [hk]
        rfl
theorem clonec_nil  : Alone PG 76 [.val (.slice none 0 0)] (.val (.slice none 0 0)) :=
  Alone.ofW (cl := T95b) (raw := false) hm0 T95b_ok cf_76 fun K w => by
    refine aw_reg0 (aw_assoc (aw_reg0 (aw_yes (aw_assoc (aw_reg0 (aw_rets (end_d (D.val (Value.slice none (0 : Nat) (0 : Nat))) ?_)))))))
    rfl

theorem clonec_emp0 (x : Nat → Camp) : AloneN PG 76 [.emp false] (.sl 1 0 0 7 none) (0) (fun j => .int .i64 (campI x j)) :=
  AloneN.ofN (cl := T95b) hm0 T95b_ok cf_76 fun K w => by
    refine aw_reg0 (aw_assoc (aw_reg0 (aw_no (aw_skips (aw_reg0 (aw_ret (?_)))))))
    exact end_n (.sl 2 0 0 7 none) 2 (.cells []) blk_empty keep_sl

theorem clonec_row0 (n : Nat) (x : Nat → Camp) (hn : n + 1 ≤ 100000) : AloneN PG 76 [rowC (n + 1) x] (.sl 1 0 (0 + (n + 1)) 7 none) (0 + (n + 1) * 7) (fun j => .int .i64 (campI x j)) :=
  AloneN.ofN (cl := T95b) hm0 T95b_ok cf_76 fun K w => by
    refine aw_reg0 (aw_assoc (aw_reg0 (aw_no (aw_skips (aw_reg (True ∧ True ∧ (∀ (i : Nat), i < n + (1 : Nat) → List.length (campD (x i)) = (7 : Nat) ∧ List.all (campD (x i)) okCell = true) ∧ (0 : Nat) + (n + (1 : Nat)) ≤ (1048576 : Nat)) (by ((try simp only [inRange_i64] at *); (try simp only [implies_true, and_self, true_and, and_true]); (repeat' (with_reducible apply And.intro)) <;> first | exact True.intro | exact fun _ _ => rfl | exact fun _ _ => ⟨rfl, rfl⟩ | omega | assumption | (intros; simp [freeL, freeD]; done))) (aw_ret (?_)))))))
    exact end_n (.sl 2 0 (0 + (n + 1)) 7 none) 2 (.arr (0 + (n + 1) * 7) fun j => getK (campD (x (j / 7))) (j % 7)) (arr_arr rfl fun j _ => campI_at) keep_sl

theorem clonec_row (n : Nat) (x : Nat → Camp) (hn : n + 1 ≤ 100000) : AloneN PG 76 [rowC (n + 1) x] (.sl 1 0 (n + 1) 7 none) ((n + 1) * 7) (fun j => .int .i64 (campI x j)) := by
  have h := clonec_row0 n x hn
  rw [Nat.zero_add, Nat.zero_add] at h
  exact h
def clonecR : List D → Option (Option Prop × D × Nat × (Nat → Value))
  | [.emp false] => some (none, .sl 1 0 0 7 none, 0, fun j => .int .i64 (campI (fun _ => ⟨0, 0, 0, 0, 0, 0, 0⟩) j))
  | [.row 7 m f] => match Nat.ble 1 m with
    | true => some (some ((∀ i, i < m → f i = campD (campL (f i))) ∧ m ≤ 100000), .sl 1 0 m 7 none, m * 7, fun j => .int .i64 (campI (fun i => campL (f i)) j))
    | false => none
  | _ => none
noncomputable def T76 := orCl (aloC 76 cloneN) T95b
theorem T76_ok (K : Cust) : ClOK K PG T76 := tab_cons cf_76 (fun ds p d h hp => by
    unfold cloneN at h
    split at h
    · cases h
      exact ⟨_, Less.refl _, by simp [freeL, freeD], by simp [freeD], clonec_nil⟩
    · cases h) (T95b_ok K)
noncomputable def T76b := orCl (newC 76 clonecR) T76
theorem T76b_ok (K : Cust) : ClOK K PG T76b := ClOK.or (newC_ok (ent cf_76) (fun ds p d m gg h hp => by
    unfold clonecR at h
    split at h
    · cases h
      exact ⟨_, Less.refl _, by simp [freeL, freeD], rfl, clonec_emp0 _⟩
    · split at h
      · rename_i n0 f0 _ hb
        cases h
        obtain ⟨h1, h2⟩ := hp _ rfl
        obtain ⟨n, rfl⟩ : ∃ n, n0 = n + 1 := ⟨n0 - 1, by have := Nat.le_of_ble_eq_true hb; omega⟩
        exact ⟨_, less_cons (less_row h1) (Less.refl _), by simp [freeL, freeD, campD], rfl, clonec_row _ _ h2⟩
      · cases h
    · cases h)) (T76_ok K)
end Go.Ev
end
