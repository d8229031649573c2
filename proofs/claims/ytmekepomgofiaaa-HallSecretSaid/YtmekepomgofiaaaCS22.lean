import Derived.Test.YtmekepomgofiaaaCS21
import Derived.Test.YtmekepomgofiaaaCS19
set_option linter.all false
section
open Go Go.Ev Go.RowKit
namespace Go.Ev
set_option maxRecDepth 100000
set_option maxHeartbeats 20000000
set_option linter.all false
def R73 : List D → Option (Option Prop × D)
  | [d0, d1, d2] => match hallO d0, runsO d1, campO d2 with
    | some (p, h), some (q, n, x), some c => some (some (p ∧ q ∧ runsC h n x ∧ campB h.n c = true ∧ n ≤ 900), rowI (selN (okT h n x c) h.n) (selF (okT h n x c) h.n))
    | _, _, _ => none
  | _ => none
noncomputable def T73 := orCl (aloC 73 R73) T91s
theorem T73_ok (K : Cust) : ClOK K PG T73 := tab_cons cf_73 (fun ds p d h hp => by
    unfold R73 at h
    split at h
    · split at h
      · rename_i e0 e1 e2
        obtain rfl := campO_eq e2
        cases h
        obtain ⟨h1, h2, h3, h4, h5⟩ := hp _ rfl
        exact ⟨_, less_cons (hallO_less e0 h1) (less_cons (runsO_less e1 h2) (Less.refl _)), by simp [freeL, freeD, rowR_free, hallD_free, campD_free], rowI_free _ _, starts_any _ _ _ _ h3 h4 h5⟩
      · cases h
    · cases h) (T91s_ok K)
def R18s : List D → Option (Option Prop × D)
  | [d0, .row 7 n f] => match hallO d0 with
    | some (p, h) => some (some (p ∧ (∀ i, i < n → f i = campD (rowCamp f i)) ∧ h.n ≤ 1000000 ∧ h.m ≤ 1000000 ∧ n ≤ 1000000), i6 (bif campsB h n (rowCamp f) then 0 else 2))
    | _ => none
  | _ => none
noncomputable def T18s := orCl (seeC 18 R18s) T73
theorem T18s_ok (K : Cust) : ClOK K PG T18s := tab_see cf_18 (fun ds p d h hp => by
    unfold R18s at h
    split at h
    · split at h
      · rename_i e0
        cases h
        obtain ⟨h1, h2, h3⟩ := hp _ rfl
        exact ⟨_, less_cons (hallO_less e0 h1) (less_cons (less_row h2) (Less.refl _)), checkCamps_alone _ _ _ h3⟩
      · cases h
    · cases h) (T73_ok K)
def R15n : List D → Option (Option Prop × D × Nat × (Nat → Value))
  | [d0] => match campsO d0 with
    | some (q, n, c) => some (some (q ∧ n ≤ 100000), .sl 1 0 n 7 none, n * 7, fun j => .int .i64 (campI c j))
    | none => none
  | _ => none
def R16n : List D → Option (Option Prop × D × Nat × (Nat → Value))
  | [d0] => match intsO d0 with
    | some (q, n, c) => some (some (q ∧ n ≤ 100000), .sl 1 0 n 1 none, n, fun j => .int .i64 (c j))
    | none => none
  | _ => none
noncomputable def T15n := orCl (newC 15 R15n) T18s
theorem T15n_ok (K : Cust) : ClOK K PG T15n := ClOK.or (newC_ok (ent cf_15) (fun ds p d m gg h hp => by
    unfold R15n at h
    split at h
    · split at h
      · rename_i e0
        cases h
        obtain ⟨h1, h2⟩ := hp _ rfl
        exact ⟨_, less_cons (campsO_less e0 h1) (Less.refl _), by simp [freeL, freeD, rowC_free], rfl, copied_new _ _ h2⟩
      · cases h
    · cases h)) (T18s_ok K)
noncomputable def T16n := orCl (newC 16 R16n) T15n
theorem T16n_ok (K : Cust) : ClOK K PG T16n := ClOK.or (newC_ok (ent cf_16) (fun ds p d m gg h hp => by
    unfold R16n at h
    split at h
    · split at h
      · rename_i e0
        cases h
        obtain ⟨h1, h2⟩ := hp _ rfl
        exact ⟨_, less_cons (intsO_less e0 h1) (Less.refl _), by simp [freeL, freeD, rowI_free], rfl, ints_new _ _ h2⟩
      · cases h
    · cases h)) (T15n_ok K)
end Go.Ev
end
section
open Go Go.Ev Go.RowKit
namespace Go.Ev
set_option maxRecDepth 100000
set_option maxHeartbeats 6000000
set_option linter.all false
end Go.Ev
end
section
open Go Go.Ev Go.RowKit
namespace Go.Ev
set_option maxRecDepth 100000
set_option maxHeartbeats 20000000
set_option linter.all false
theorem own_new0 (h : Hall) (hn : h.n ≤ 100000 ∧ h.m ≤ 100000) : AloneN PG 14 [.agg (hallD h)] (.agg [i6 h.ro, i6 h.cl, rowI (0 + h.n) h.st, .sl 1 0 (0 + h.m) 1 none]) (0 + h.m) (fun j => .int .i64 (h.en j)) :=
  AloneN.ofN (cl := T16n) hm0 T16n_ok cf_14 fun K w => by
    refine aw_reg0 (aw_reg ((True ∧ True ∧ (∀ (i : Nat), i < h.n → List.length [i6 (h.st i)] = (1 : Nat) ∧ List.all [i6 (h.st i)] okCell = true) ∧ (0 : Nat) + h.n ≤ (1048576 : Nat)) ∧ True ∧ (∀ (i : Nat), i < h.m → List.length [i6 (h.en i)] = (1 : Nat) ∧ List.all [i6 (h.en i)] okCell = true) ∧ (0 : Nat) + h.m ≤ (1048576 : Nat)) (by ((try simp only [inRange_i64] at *); (try simp only [implies_true, and_self, true_and, and_true]); (repeat' (with_reducible apply And.intro)) <;> first | exact True.intro | exact fun _ _ => rfl | exact fun _ _ => ⟨rfl, rfl⟩ | omega | assumption | (intros; simp [freeL, freeD]; done))) (aw_reg0 (aw_ret (?_))))
    refine end_n (.agg [i6 h.ro, i6 h.cl, .sl 6 0 (0 + h.n) 1 none, .sl 10 0 (0 + h.m) 1 none]) 10 (.arr (0 + h.m) fun j => i6 (h.en j)) (arr_arr rfl fun j _ => rfl) (keep_agg (keepL_cons keep_i (keepL_cons keep_i (keepL_cons ?_ (keepL_cons keep_sl keepL_nil)))))
    exact keep_see (p := some (0 + (0 + h.n) * 1 ≤ 0 + h.n ∧ ∀ j, j < 0 + h.n → freeD (i6 (h.st j)))) (by kernel_rfl) (fun q e => by cases e; exact ⟨by omega, fun _ _ => by simp [freeD]⟩)

theorem own_new (h : Hall) (hn : h.n ≤ 100000 ∧ h.m ≤ 100000) : AloneN PG 14 [.agg (hallD h)] (.agg [i6 h.ro, i6 h.cl, rowI h.n h.st, .sl 1 0 h.m 1 none]) h.m (fun j => .int .i64 (h.en j)) := by
  have q := own_new0 h hn
  rw [Nat.zero_add, Nat.zero_add] at q
  exact q
def R14n : List D → Option (Option Prop × D × Nat × (Nat → Value))
  | [d0] => match hallO d0 with
    | some (q, h) => some (some (q ∧ h.n ≤ 100000 ∧ h.m ≤ 100000), .agg [i6 h.ro, i6 h.cl, rowI h.n h.st, .sl 1 0 h.m 1 none], h.m, fun j => .int .i64 (h.en j))
    | none => none
  | _ => none
noncomputable def T14n := orCl (newC 14 R14n) T16n
theorem T14n_ok (K : Cust) : ClOK K PG T14n := ClOK.or (newC_ok (ent cf_14) (fun ds p d m gg h hp => by
    unfold R14n at h
    split at h
    · split at h
      · rename_i e0
        cases h
        obtain ⟨h1, h2⟩ := hp _ rfl
        exact ⟨_, less_cons (hallO_less e0 h1) (Less.refl _), by simp [freeL, freeD, hallD_free], by simp [oneD, oneL, rowI, freeL, freeD], own_new _ h2⟩
      · cases h
    · cases h)) (T16n_ok K)
end Go.Ev
end
section
namespace Go.Ev
/-! ### A function that sees its caller's blocks and hands back rows that are new -/
noncomputable section
/-- all blocks below N are hidden -/
def oldC (K : Cust) (N : Nat) : Cust := { K with hid := fun c => K.hid c ∨ c < N }
def AloneS (P : Program) (f : FuncId) (ds : List D) (d : D) : Prop :=
  ∀ (K : Cust) (w : World) (args : List Value), OK K w [.fresh] [.dead] → RepL K (mask K w [.fresh]) [.fresh] ds args →
    Calls P f args.toArray w fun e w' => ∃ v : Value, e = .returned v ∧ w.heap.size ≤ w'.heap.size ∧ (∀ c : Nat, c < w.heap.size → w'.heap[c]? = w.heap[c]?) ∧ Env w w' ∧ Rep (oldC K w.heap.size) (mask (oldC K w.heap.size) w' []) [] d v
section
variable {K : Cust} {P : Program} {w w' : World} {ρ : List Own} {hp : List Blk} {nid : Nat}
/-- a table of such a function -/
def freshC (g : FuncId) (r : List D → Option (Option Prop × D)) (f : FuncId) (ds : List D) (hp : List Blk) (_ : Nat) : Option Out := match Nat.beq f g with
  | true => match mapO (seeS hp 6) ds with
    | some (p, ds') => match r ds' with
      | some (q, d) => some ⟨andO p q, d, [], []⟩
      | none => none
    | none => none
  | false => none
theorem freshC_ok {g : FuncId} {r : List D → Option (Option Prop × D)} (henter : ∀ args w, (callFunc g args).run P w = .ok (.enter g args) w)
    (h : ∀ ds p d, r ds = some (p, d) → holdsO p → ∃ ds', Less ds ds' ∧ freeD d ∧ AloneS P g ds' d) : ClOK K P (freshC g r) := by
  intro f ds hp nid out ho hc
  unfold freshC at ho
  split at ho
  · rename_i hfg
    obtain rfl := Nat.eq_of_beq_eq_true hfg
    split at ho
    · rename_i p ds' hds
      split at ho
      · rename_i q d hr
        obtain rfl := (Option.some.inj ho).symm
        obtain ⟨k1, k2⟩ := holdsO_and (p := p) (q := q) hc
        refine ⟨henter, fun w ρ args hk hrep hn => ?_⟩
        obtain ⟨ds2, hl, hf, hA⟩ := h ds' q d hr k2
        obtain ⟨m1, m2⟩ := mapO_get hds k1
        have hlen := repL_length hrep
        have hr' : RepL K (mask K w [.fresh]) [.fresh] ds' args := repL_of (by omega) fun i e he => by
          obtain ⟨d0, q0, e1, e2, e3⟩ := m2 i e he
          obtain ⟨u, hu, hru⟩ := repL_get hrep e1
          exact ⟨u, hu, seeS_ok hk 6 d0 e u q0 hru e2 e3⟩
        refine (hA K w args hk.see (hl K _ _ _ hr')).mono fun e w' hx => ?_
        obtain ⟨v, rfl, hsize, hkeep, henv, hR⟩ := hx
        have hmask : Sub (mask (oldC K w.heap.size) w' []) (mask K w' ρ) := fun c cs ty fr hc => by
          rw [mask_some] at *
          refine ⟨?_, hc.2⟩
          rintro (hh | ⟨i, n, hi⟩)
          · exact hc.1 (.inl (.inl hh))
          · exact hc.1 (.inl (.inr (hk.lt i c n hi)))
        exact ⟨v, rfl, ρ, Rep.free (K := oldC K w.heap.size) (K' := K) hmask (fun t q v hc => K.mono _ _ _ _ _ hmask hc) d v hf hR, Eff.foreign hsize hkeep henv⟩
      · cases ho
    · cases ho
  · cases ho
/-- what is told of a result of new blocks -/
def FrzS (hp : List Blk) (r d : D) : Prop := ∀ (K : Cust) (w : World) (ρ : List Own) (v : Value) (N : Nat), OK K w ρ hp → (∀ i b n : Nat, ρ[i]? = some (.live b n) → N ≤ b) → Rep K (mask K w ρ) ρ r v → Rep (oldC K N) (mask (oldC K N) w []) [] d v
def FrzSL (hp : List Blk) (rs ds : List D) : Prop := ∀ (K : Cust) (w : World) (ρ : List Own) (vs : List Value) (N : Nat), OK K w ρ hp → (∀ i b n : Nat, ρ[i]? = some (.live b n) → N ≤ b) → RepL K (mask K w ρ) ρ rs vs → RepL (oldC K N) (mask (oldC K N) w []) [] ds vs
theorem frs_val {x : Value} : FrzS hp (.val x) (.val x) := fun _ _ _ _ _ _ _ h => h
theorem frs_nil {k n : Nat} {g : Nat → List D} (hn : n = 0) : FrzS hp (.val (.slice none 0 0)) (.row k n g) := fun K w ρ v N _ _ hr => by
  subst hn
  simp only [Rep] at hr ⊢
  exact .inl ⟨hr, trivial⟩
theorem frsL_nil : FrzSL hp [] [] := fun K w ρ vs N _ _ hr => by simpa only [RepL] using hr
theorem frsL_cons {r d : D} {rs ds : List D} (h1 : FrzS hp r d) (h2 : FrzSL hp rs ds) : FrzSL hp (r :: rs) (d :: ds) := fun K w ρ vs N hk ho hr => by
  simp only [RepL] at *
  obtain ⟨x, l, rfl, g1, g2⟩ := hr
  exact ⟨x, l, rfl, h1 K w ρ x N hk ho g1, h2 K w ρ l N hk ho g2⟩
theorem frs_tup {rs ds : List D} (h : FrzSL hp rs ds) : FrzS hp (.tup rs) (.tup ds) := fun K w ρ v N hk ho hr => by
  simp only [Rep] at *
  obtain ⟨vs, rfl, g⟩ := hr
  exact ⟨vs, rfl, h K w ρ vs N hk ho g⟩
/-- a new array of plain values becomes a row -/
theorem frs_arr {id off len k m : Nat} {cap : Option Nat} {f : Nat → D} {g : Nat → List D} (hb : getG hp id = some (.arr m f))
    (h : ∀ i, i < len → ∀ j e, (g i)[j]? = some e → off + i * k + j < m ∧ ∃ x, f (off + i * k + j) = .val x ∧ e = .val x) : FrzS hp (.sl id off len k cap) (.row k len g) := fun K w ρ v N hk hnew hr => by
  obtain ⟨b, n, ho, hB⟩ := own_block hk hb (by intro e; cases e)
  simp only [Rep, ho] at hr
  obtain ⟨c, rfl, hlc, _⟩ := hr
  obtain ⟨vs, ty, q1, q2, q3, q4⟩ := hB
  have hnh := hk.apart id b n (own_live ho)
  have hcell : (mask (oldC K N) w []).heap[b]? = some (Obj.cells vs ty.1 ty.2) := by
    rw [mask_some]
    refine ⟨?_, q1⟩
    rintro ((hh | hh) | ⟨i, k, hi⟩)
    · exact hnh hh
    · have := hnew id b n (own_live ho); omega
    · simp at hi
  simp only [Rep]
  refine .inr ⟨b, off, c, rfl, hlc, fun i hi => reads_C fun j e hj => ?_⟩
  obtain ⟨h1, x0, h2, h3⟩ := h i hi j e hj
  obtain ⟨x, p1, p2⟩ := q4 _ h1
  rw [h2] at p2
  subst h3
  exact ⟨x, by rw [cell_of hcell]; exact p1, p2⟩
/-- the end of such a function -/
structure EndS (fn : AFun) (d : D) (e : Ex) (s : St) : Prop where
  out : exD e = true ∧ ∃ ds, resD s fn.results = some ds ∧ FrzS s.hp (tupD ds) d
theorem end_s {fn : AFun} {d : D} {e : Ex} {s : St} (r : D) (h : FrzS s.hp r d) (he : exD e = true := by kernel_rfl) (hr : (resD s fn.results).map tupD = some r := by kernel_rfl) : EndS fn d e s := by
  refine ⟨he, ?_⟩
  cases hres : resD s fn.results with
  | none => rw [hres] at hr; cases hr
  | some ds =>
    rw [hres] at hr
    obtain rfl := Option.some.inj hr
    exact ⟨ds, rfl, h⟩
theorem AloneS.ofS {cl : FuncId → List D → List Blk → Nat → Option Out} {f : FuncId} {fn : AFun} (hm : P.follows .mixedOrders = true) (hcl : ∀ K, ClOK K P cl) (hf : compF P f = some fn) {ds : List D} {d : D}
    (h : ∀ K w, AW cl (LoopA K P w [.fresh] [.dead]) fn.body (startF fn ds [.dead]) (EndS fn d)) : AloneS P f ds d := by
  intro K w args hk hr
  have hcl := hcl K
  unfold compF at hf
  split at hf
  · rename_i fu hfn
    split at hf
    · rename_i c hbody
      split at hf
      · rename_i ab rs hab hrs hname
        cases hf
        refine calls_of_wp hfn hbody (wp_mono (aw_ok hm hcl c ab _ _ hab (h K w).out w [.fresh] _ (Inv.init hk hr)) fun x a' w' hx => ?_)
        obtain ⟨e, s', ρ', rfl, hI, hq⟩ := hx
        obtain ⟨hex, rds, hrd, hF⟩ := hq.out
        obtain ⟨v, hv1, hv2⟩ := results_ok (fn := fu) hI.okHp hI.slots hrs hrd
        have hkeep : ∀ b : Nat, b < w.heap.size → w'.heap[b]? = w.heap[b]? := fun b hb => hI.keep b hb fun i n hi => by cases i <;> simp at hi
        have hnew : ∀ i b n : Nat, ρ'[i]? = some (.live b n) → w.heap.size ≤ b := fun i b n hi => by
          rcases hI.new b (.inr ⟨i, n, hi⟩) with hl | hl
          · exact absurd (see_live.1 hl) (hI.okHp.apart i b n hi)
          · exact hl
        have hR := hF K w' ρ' v w.heap.size hI.okHp hnew hv2
        cases e with
        | normal => exact ⟨hI.defers, v, hv1, v, rfl, hI.size, hkeep, hI.env, hR⟩
        | ret => exact ⟨hI.defers, v, hv1, v, rfl, hI.size, hkeep, hI.env, hR⟩
        | exit i => simp [exD] at hex
      · cases hf
    · cases hf
  · cases hf
end
end
end Go.Ev
end
section
open Go Go.Ev Go.RowKit
namespace Go.Ev
set_option maxRecDepth 100000
set_option maxHeartbeats 3000000
set_option linter.all false
theorem view_fresh (h : Hall) (n : Nat) (c : Nat → Camp) (m : Nat) (p : Nat → Int) (cu : Int) (hn : n ≤ 100000 ∧ m ≤ 100000 ∧ h.n ≤ 100000 ∧ h.m ≤ 100000) : AloneS PG 42 [.agg (hallD h), rowC n c, rowI m p, i6 cu] (.tup [rowU (okN (viewK h n c m p cu) h.n) fun t => lookB h n (planR c p) cu t, i6 (viewE h n c m p cu)]) :=
  AloneS.ofS (cl := T78) hm0 T78_ok cf_42 fun K w => by
    refine aw_reg0 (aw_reg (True ∧ ((∀ (i : Nat), i < h.n → [i6 (h.st i)] = [i6 (h.st i)]) ∧ ∀ (i : Nat), i < h.m → [i6 (h.en i)] = [i6 (h.en i)]) ∧ (∀ (i : Nat), i < n → campD (c i) = campD (c i)) ∧ (∀ (i : Nat), i < m → [i6 (p i)] = [i6 (p i)]) ∧ n ≤ (100000 : Nat) ∧ m ≤ (100000 : Nat) ∧ h.n ≤ (100000 : Nat) ∧ h.m ≤ (100000 : Nat)) (by ((try simp only [inRange_i64] at *); (try simp only [implies_true, and_self, true_and, and_true]); (repeat' (with_reducible apply And.intro)) <;> first | exact True.intro | exact fun _ _ => rfl | exact fun _ _ => ⟨rfl, rfl⟩ | omega | assumption | (intros; simp [freeL, freeD]; done))) (aw_assoc (aw_reg0 (aw_ifsne (obErr h n c m p) ((0 : Int)) (fun h1 => aw_assoc (aw_reg0 (aw_rets (?_)))) (fun h2 => aw_skips (aw_assoc (aw_reg0 (aw_ifsn ((0 : Int) ≤ cu ∧ cu ≤ (20 : Int)) (fun h3 => aw_assoc (aw_reg0 (aw_rets (?_)))) (fun h4 => aw_skips (aw_reg (True ∧ (0 : Int) ≤ (↑h.n : Int) ∧ (↑h.n : Int) ≤ (↑h.n : Int) ∧ (↑h.n : Int) ≤ (1048576 : Int) ∧ (1 : Nat) * h.n ≤ (16777216 : Nat)) (by (simp only [inRange_i64, true_and]; omega)) (aw_assoc (aw_reg0 (?_)))))))))))))
    · have e := obErr_bad h1
      exact end_s (.tup [.val (.slice none 0 0), i6 (obErr h n c m p)]) (by rw [show viewE h n c m p cu = obErr h n c m p by simp [viewE, e]]; exact frs_tup (frsL_cons (frs_nil (by simp [viewK, e, okN])) (frsL_cons frs_val frsL_nil)))
    · have e := obErr_ok h2
      have e' : cuB cu = false := by simp [cuB]; omega
      exact end_s (.tup [.val (.slice none 0 0), i6 3]) (by rw [show viewE h n c m p cu = 3 by simp [viewE, e, e']]; exact frs_tup (frsL_cons (frs_nil (by simp [viewK, e', okN])) (frsL_cons frs_val frsL_nil)))
    · have e := obErr_ok h2
      have e1 : viewK h n c m p cu = true := by simp [viewK, cuB, e]; omega
      have e2 : viewE h n c m p cu = 0 := by
        have : cuB cu = true := by simp [cuB]; omega
        simp [viewE, e, this]
      have hsm := keepB_small e
      have hcl := keepB_cl e
      have en : okN (keepB h n c m p) n = n := by rw [e]; rfl
      have e3 : (fun t : Nat => lookB h n (planR c p) cu t) = fun t : Nat => lookB h (okN (keepB h n c m p) n) (planR c p) cu t := by rw [en]
      rw [e1, e2, e3]
      refine aw_loopV (ι := {i : Nat // i ≤ h.n}) hm0 (T78_ok K) (fun z => [(33, i6 z.1)]) (fun z => [(4, .arr h.n (rowsF 1 z.1 (fun t => [.val (.int .u8 (lookB h (okN (keepB h n c m p) n) (planR c p) cu t))]) [.val (.int .u8 0)]))]) (fun z => h.n - z.1) ⟨0, Nat.zero_le h.n⟩ (fun z => ?_) (by
        show _ = lst _ _ [(4, .arr h.n (rowsF 1 0 (fun t => [.val (.int .u8 (lookB h (okN (keepB h n c m p) n) (planR c p) cu t))]) [.val (.int .u8 0)]))] _
        rw [rowsF_01]
        kernel_rfl)
      obtain ⟨i, hi⟩ := z
      refine aw_reg0 (aw_ifsd ((↑i : Int) < (↑h.n : Int)) (fun h5 => aw_skips (aw_blocks (aw_reg0 (aw_end (((True ∧ ((∀ (i : Nat), i < h.n → [i6 (h.st i)] = [i6 (h.st i)]) ∧ ∀ (i : Nat), i < h.m → [i6 (h.en i)] = [i6 (h.en i)]) ∧ (∀ (i : Nat), i < okN (keepB h n c m p) n → runD (planR c p i) = runD (planR c p i)) ∧ clOK h ∧ (∀ (i : Nat), i < okN (keepB h n c m p) n → smallR (planR c p i)) ∧ okN (keepB h n c m p) n ≤ (1000000 : Nat) ∧ (0 : Int) ≤ (↑i : Int) ∧ (↑i : Int) < (↑h.n : Int)) ∧ (0 : Int) ≤ (↑i : Int) ∧ (↑i : Int) < (↑h.n : Int)) ∧ i + (1 : Nat) ≤ h.n) (by (rw [en]; ((try simp only [inRange_i64] at *); (try simp only [implies_true, and_self, true_and, and_true]); (repeat' (with_reducible apply And.intro)) <;> first | exact True.intro | exact fun _ _ => rfl | exact fun _ _ => ⟨rfl, rfl⟩ | omega | assumption | (intros; simp [freeL, freeD]; done)))) (blk_normal (seq_normal (aw_end (True ∧ inRange IntKind.i64 ((↑i : Int) + (1 : Int))) (by (simp only [inRange_i64, true_and]; omega)) (round_t 5 ((True ∧ True ∧ (∀ (i : Nat), i < h.n → True ∧ True) ∧ (∀ (i : Nat), i < h.m → True ∧ True) ∧ True) ∧ (∀ (i : Nat), i < n → True ∧ True ∧ True ∧ True ∧ True ∧ True ∧ True ∧ True) ∧ (∀ (i : Nat), i < m → True ∧ True) ∧ (∀ (i : Nat), i < okN (keepB h n c m p) n → True ∧ True ∧ True ∧ True ∧ True ∧ True ∧ True ∧ True ∧ True) ∧ ((∀ (i : Nat), i < okN (keepB h n c m p) n → True ∧ True ∧ True ∧ True ∧ True ∧ True ∧ True ∧ True ∧ True) ∧ True ∧ True) ∧ (True ∧ True ∧ (∀ (i : Nat), i < h.n → True ∧ True) ∧ (∀ (i : Nat), i < h.m → True ∧ True) ∧ True) ∧ (∀ (i : Nat), i < n → True ∧ True ∧ True ∧ True ∧ True ∧ True ∧ True ∧ True) ∧ (∀ (i : Nat), i < m → True ∧ True) ∧ ((∀ (i : Nat), i < okN (keepB h n c m p) n → True ∧ True ∧ True ∧ True ∧ True ∧ True ∧ True ∧ True ∧ True) ∧ True ∧ True) ∧ (∀ (i : Nat), i < okN (keepB h n c m p) n → True ∧ True ∧ True ∧ True ∧ True ∧ True ∧ True ∧ True ∧ True) ∧ (∀ (i : Nat), i < h.n → True ∧ True) ∧ True) (((∀ (i : Nat), i < h.n → True ∧ True) ∧ (∀ (i : Nat), i < h.m → True ∧ True) ∧ True) ∧   (∀ (j : Nat),       j < h.n →         needD (5 : Nat)           (match Nat.beq j i with           | true => D.val (Value.int IntKind.u8 (lookB h (okN (keepB h n c m p) n) (planR c p) cu (↑i : Int)))           | false => if j / (1 : Nat) < i then getK [D.val (Value.int IntKind.u8 (lookB h (okN (keepB h n c m p) n) (planR c p) cu (↑(j / (1 : Nat)) : Int)))] (j % (1 : Nat)) else getK [D.val (Value.int IntKind.u8 (0 : Int))] (j % (1 : Nat)))) ∧     True) (by (simp)) ?_ ?_)))))))) (fun h6 => aw_exits (round_exit (blk_exit (seq_normal (aw_reg0 (aw_ret (?_))))))))
      · refine ⟨⟨fun _ _ => ⟨trivial, trivial⟩, fun _ _ => ⟨trivial, trivial⟩, trivial⟩, fun j _ => ?_, trivial⟩
        have q : needD 5 (updF (rowsF 1 i (fun t => [D.val (.int .u8 (lookB h (okN (keepB h n c m p) n) (planR c p) cu t))]) [D.val (.int .u8 0)]) i [D.val (.int .u8 (lookB h (okN (keepB h n c m p) n) (planR c p) cu i))] j) := need_updF _ (by simp [needD]) (need_rows (by simp [needD]) (by simp [needD]))
        exact q
      · refine round_v ⟨i + 1, by omega⟩ (by show h.n - (i + 1) < h.n - i; omega) ?_
        show _ = lst _ _ [(4, .arr h.n (rowsF 1 (i + 1) (fun t => [.val (.int .u8 (lookB h (okN (keepB h n c m p) n) (planR c p) cu t))]) [.val (.int .u8 0)]))] _
        rw [rowsF_set1 rfl]
        kernel_rfl
      · exact end_s (.tup [.sl 4 0 h.n 1 none, i6 0]) (frs_tup (frsL_cons (frs_arr (m := h.n) (f := rowsF 1 i (fun t => [.val (.int .u8 (lookB h (okN (keepB h n c m p) n) (planR c p) cu t))]) [.val (.int .u8 0)]) (g := fun t => [D.val (.int .u8 (lookB h (okN (keepB h n c m p) n) (planR c p) cu t))]) (by kernel_rfl) (fun q hq j e2 hj => by
          cases j with
          | zero =>
            replace hj : some (D.val (.int .u8 (lookB h (okN (keepB h n c m p) n) (planR c p) cu q))) = some e2 := hj
            replace hj := Option.some.inj hj
            refine ⟨by omega, _, ?_, hj.symm⟩
            have q1 : 0 + q * 1 + 0 = q := by omega
            rw [q1]
            unfold rowsF
            rw [Nat.div_one, Nat.mod_one, if_pos (by omega)]
            rfl
          | succ j => exact absurd hj (by intro q; cases q))) (frsL_cons frs_val frsL_nil)))

end Go.Ev
end
section
open Go Go.Ev Go.RowKit
namespace Go.Ev
set_option linter.all false
/-! ### When a plan keeps the rules -/
structure GoodP (h : Hall) (n : Nat) (x : Nat → Run) : Prop where
  late : ∀ i, i < n → lateB (x i) = false
  hour : ∀ i, i < n → ∀ t : Int, (x i).first ≤ t → t - (x i).first < (x i).c.ho → ¬ h.st t.toNat = 0 ∧ ¬ h.en t.toNat < (x i).c.en
  tun : ∀ i k, i < k → k < n → clashB h (x i) (x k) = false
  room : ∀ j, j < h.n → prepI x n j ≤ h.ro
theorem good_of {h : Hall} {n : Nat} {x : Nat → Run} (e : (breB h n x).rule = 0) : GoodP h n x := by
  obtain ⟨b1, b2, b3⟩ := breB_parts e
  refine ⟨timeB_late (breB_time e), fun i hi t h1 h2 => ⟨fun q => ?_, ?_⟩, fun i k hik hk => tunB_all b3 i k hik hk, fun j hj => roomB_le (breB_room e) j hj⟩
  · have := hourB_all (by decide) b1 i hi t h1 h2
    simp [staffP, q] at this
  · exact of_decide_eq_false (hourB_all (by decide) b2 i hi t h1 h2)
theorem hourB_ok {rule : Int} {pp : Run → Int → Bool} {n : Nat} {x : Nat → Run} (hh : ∀ i, i < n → ∀ t : Int, (x i).first ≤ t → t - (x i).first < (x i).c.ho → pp (x i) t = false) : (hourB rule pp n x).rule = 0 := by
  have : fst2 (fun i k => pp (x i) ((x i).first + k)) (fun i => (x i).c.ho.toNat) n = none := fst2_none fun j hj l hl => hh j hj _ (by omega) (by omega)
  unfold hourB
  rw [this]
  rfl
theorem good_to {h : Hall} {n : Nat} {x : Nat → Run} (g : GoodP h n x) : (breB h n x).rule = 0 := by
  obtain ⟨g1, g2, g3, g4⟩ := g
  have e1 : (timeB n x).rule = 0 := by unfold timeB; rw [findI_none g1]; rfl
  have e2 : (hourB 2 (staffP h) n x).rule = 0 := hourB_ok fun i hi t h1 h2 => by
    have := (g2 i hi t h1 h2).1
    simpa [staffP] using this
  have e3 : (hourB 3 (weakP h) n x).rule = 0 := hourB_ok fun i hi t h1 h2 => decide_eq_false (g2 i hi t h1 h2).2
  have e4 : (tunB h n x).rule = 0 := by
    have : fst2 (tunP h x) (fun _ => n) n = none := fst2_none fun j hj l hl => by
      unfold tunP
      by_cases q : j < l
      · rw [g3 j l q hl, Bool.and_false]
      · rw [decide_eq_false q, Bool.false_and]
    unfold tunB
    rw [this]
    rfl
  have e5 : (roomB h n x).rule = 0 := by
    unfold roomB
    rw [findI_none fun j hj => decide_eq_false (by have := g4 j hj; omega)]
    rfl
  unfold breB
  rw [if_neg (by omega), if_neg (by omega), if_neg (by omega), if_neg (by omega), if_neg (by omega)]
  rfl
theorem good_iff {h : Hall} {n : Nat} {x : Nat → Run} : (breB h n x).rule = 0 ↔ GoodP h n x := ⟨good_of, good_to⟩
theorem clash_not {h : Hall} {a b : Run} : clashB h a b = false ↔ ¬ (a.first < b.first + b.c.ho + (if a.c.cu = b.c.cu then 0 else h.cl) ∧ b.first < a.first + a.c.ho + (if a.c.cu = b.c.cu then 0 else h.cl)) := by
  unfold clashB
  rw [decide_eq_false_iff_not]
  by_cases q : a.c.cu = b.c.cu <;> simp [q]
theorem clash_comm {h : Hall} {a b : Run} : clashB h a b = clashB h b a := by
  cases q : clashB h b a with
  | false =>
    rw [clash_not] at *
    by_cases e : a.c.cu = b.c.cu
    · rw [if_pos e]; rw [if_pos e.symm] at q; omega
    · rw [if_neg e]; rw [if_neg (Ne.symm e)] at q; omega
  | true =>
    cases q2 : clashB h a b with
    | true => rfl
    | false =>
      exfalso
      have : clashB h b a = false := by
        rw [clash_not] at *
        by_cases e : a.c.cu = b.c.cu
        · rw [if_pos e.symm]; rw [if_pos e] at q2; omega
        · rw [if_neg (Ne.symm e)]; rw [if_neg e] at q2; omega
      rw [this] at q; cases q
theorem campB_of {n : Nat} {c : Camp} : campB n c = true ↔ (0 ≤ c.cu ∧ c.cu ≤ 20 ∧ 0 ≤ c.pr ∧ c.pr ≤ 24 ∧ 1 ≤ c.ho ∧ c.ho ≤ 24 ∧ 0 ≤ c.en ∧ c.en ≤ 1000 ∧ 0 ≤ c.we ∧ c.we ≤ 100 ∧ 0 ≤ c.ea ∧ c.ea ≤ c.la ∧ c.la ≤ n) := by
  unfold campB
  exact decide_eq_true_iff
theorem campsB_of {h : Hall} {n : Nat} {c : Nat → Camp} : campsB h n c = true ↔ (hallB h = true ∧ n ≤ 16 ∧ ∀ i, i < n → campB h.n (c i) = true) := by
  unfold campsB
  simp only [Bool.and_eq_true, decide_eq_true_eq, Bool.not_eq_true', anyI_false, Bool.not_eq_false']
theorem prepI_congr {x y : Nat → Run} : ∀ n, (∀ i, i < n → (x i).first = (y i).first ∧ (x i).c.pr = (y i).c.pr) → ∀ j, prepI x n j = prepI y n j
  | 0, _, _ => rfl
  | n + 1, h, j => by
    have h1 := h n (by omega)
    have h2 := prepI_congr n (fun i hi => h i (by omega)) j
    simp only [prepI, bump, h1.1, h1.2, h2]
theorem anyI_congr {p q : Nat → Bool} {n : Nat} (h : ∀ i, i < n → p i = q i) : anyI p n = anyI q n := by
  cases e : anyI q n with
  | false =>
    rw [anyI_false] at *
    exact fun i hi => (h i hi).trans (e i hi)
  | true =>
    cases e2 : anyI p n with
    | true => rfl
    | false =>
      exfalso
      have : anyI q n = false := by
        rw [anyI_false] at *
        exact fun i hi => (h i hi).symm.trans (e2 i hi)
      rw [this] at e; cases e
/-- what the law makes of a campaign of another customer -/
def guiseC (h : Hall) (cu : Int) (k : Int) (p : Int) (c : Camp) : Camp :=
  if c.cu = cu then c else ⟨if ¬ ((c.cu + 1) % 21 = cu) ∧ h.cl = 0 then (c.cu + 1) % 21 else c.cu, k % (p - c.ea + 1) % 25, c.ho, k * 3, c.ea, h.n, k % 100⟩
def fillE (h : Hall) (i j : Nat) : Int := bif Nat.ble (j + 1) i then 1000 else h.en j
def richH (h : Hall) : Hall := ⟨4, h.cl, h.n, h.st, h.m, fillE h h.m⟩
/-- the campaigns as they are changed up to i -/
def othC (h : Hall) (c : Nat → Camp) (p : Nat → Int) (cu : Int) (k : Nat → Int) (i t : Nat) : Camp := if t < i then guiseC h cu (k t) (p t) (c t) else c t
theorem othC_0 {h : Hall} {c : Nat → Camp} {p : Nat → Int} {cu : Int} {k : Nat → Int} : othC h c p cu k 0 = c := funext fun t => by simp [othC]
theorem othC_all {h : Hall} {c : Nat → Camp} {p : Nat → Int} {cu : Int} {k : Nat → Int} {n t : Nat} (ht : t < n) : othC h c p cu k n t = guiseC h cu (k t) (p t) (c t) := if_pos ht
theorem guise_other {h : Hall} {cu k p : Int} {c : Camp} : guiseC h cu k p c = c ∨ (¬ c.cu = cu ∧ ¬ (guiseC h cu k p c).cu = cu ∧ (guiseC h cu k p c).ho = c.ho) := by
  unfold guiseC
  by_cases q : c.cu = cu
  · rw [if_pos q]; exact .inl rfl
  · rw [if_neg q]
    refine .inr ⟨q, ?_, rfl⟩
    by_cases w : ¬ (c.cu + 1) % 21 = cu ∧ h.cl = 0
    · simp only [if_pos w]; exact w.1
    · simp only [if_neg w]; exact q
theorem look_guise {h h' : Hall} {n : Nat} {c d : Nat → Camp} {p : Nat → Int} {cu t : Int} (hst : h'.st = h.st) (hcl : h'.cl = h.cl)
    (hd : ∀ i, i < n → d i = c i ∨ (¬ (c i).cu = cu ∧ ¬ (d i).cu = cu ∧ (d i).ho = (c i).ho)) : lookB h' n (planR d p) cu t = lookB h n (planR c p) cu t := by
  have e1 : anyI (fun i => ownP cu t (planR d p i)) n = anyI (fun i => ownP cu t (planR c p i)) n := anyI_congr fun i hi => by
    rcases hd i hi with q | ⟨q1, q2, q3⟩
    · simp [planR, q]
    · simp [ownP, planR, q1, q2]
  have e2 : anyI (fun i => preP cu t (planR d p i)) n = anyI (fun i => preP cu t (planR c p i)) n := anyI_congr fun i hi => by
    rcases hd i hi with q | ⟨q1, q2, q3⟩
    · simp [planR, q]
    · simp [preP, planR, q1, q2]
  have e3 : anyI (fun i => cloP h' cu t (planR d p i)) n = anyI (fun i => cloP h cu t (planR c p i)) n := anyI_congr fun i hi => by
    rcases hd i hi with q | ⟨q1, q2, q3⟩
    · rw [show planR d p i = planR c p i by simp [planR, q]]; simp [cloP, hcl]
    · unfold cloP
      rw [decide_eq_false (show ¬ (planR d p i).c.cu = cu from q2), decide_eq_false (show ¬ (planR c p i).c.cu = cu from q1), show (planR d p i).c.ho = (planR c p i).c.ho from q3, hcl]
      rfl
  unfold lookB
  rw [e1, e2, e3, hst]
theorem guise_ok {h : Hall} {n : Nat} {c : Nat → Camp} {m : Nat} {p : Nat → Int} (e : keepB h n c m p = true) (cu : Int) (k : Nat → Int) (hk : ∀ i, 0 ≤ k i ∧ k i ≤ 255) : okB (richH h) n (othC h c p cu k n) m = true := by
  obtain ⟨e1, e2⟩ := keepB_ok e
  have g := good_of e2
  simp only [okB, Bool.and_eq_true, decide_eq_true_eq] at e1 ⊢
  obtain ⟨e1, em⟩ := e1
  refine ⟨?_, em⟩
  rw [campsB_of] at e1 ⊢
  obtain ⟨c1, c2, c3⟩ := e1
  refine ⟨?_, c2, fun i hi => ?_⟩
  · simp only [hallB, Bool.and_eq_true, Bool.not_eq_true', anyI_false, richH] at c1 ⊢
    obtain ⟨q1, q2, q3, q4⟩ := c1
    exact ⟨q1, q2, fun i hi => by rw [show fillE h h.m i = 1000 by unfold fillE; rw [Nat.ble_eq_true_of_le (by omega)]; rfl]; simp [badB], by have := of_decide_eq_true q4; exact decide_eq_true (by omega)⟩
  · have q := campB_of.1 (c3 i hi)
    have l := late_n (g.late i hi)
    rw [othC_all hi]
    unfold guiseC
    split
    · exact c3 i hi
    · rw [campB_of]
      have hp := hk i
      have a1 := Int.emod_nonneg (k i % (p i - (c i).ea + 1)) (show (25 : Int) ≠ 0 by decide)
      have a2 := Int.emod_lt_of_pos (k i % (p i - (c i).ea + 1)) (show (0 : Int) < 25 by decide)
      dsimp only [richH]
      generalize k i % (p i - (c i).ea + 1) % 25 = z at *
      split <;> omega
/-! ### A run that is cut into two -/
def splC (h : Hall) (n q : Nat) (k : Int) (c : Nat → Camp) : Nat → Camp := snocC (fun i => if i = q then ⟨(c q).cu, (c q).pr, k, (c q).en, (c q).ea, h.n, (c q).we⟩ else c i) n ⟨(c q).cu, 0, (c q).ho - k, (c q).en, (c q).ea, (c q).la, (c q).we⟩
def splP (n q : Nat) (k : Int) (p : Nat → Int) (i : Nat) : Int := if i < n then p i else p q + k
theorem splC_lt {h : Hall} {n q : Nat} {k : Int} {c : Nat → Camp} {p : Nat → Int} {i : Nat} (hi : i < n) (hq : ¬ i = q) : planR (splC h n q k c) (splP n q k p) i = planR c p i := by
  simp [planR, splC, splP, snocC, hi, hq]
theorem splC_q {h : Hall} {n q : Nat} {k : Int} {c : Nat → Camp} {p : Nat → Int} (hi : q < n) : planR (splC h n q k c) (splP n q k p) q = ⟨⟨(c q).cu, (c q).pr, k, (c q).en, (c q).ea, h.n, (c q).we⟩, p q⟩ := by
  simp [planR, splC, splP, snocC, hi]
theorem splC_n {h : Hall} {n q : Nat} {k : Int} {c : Nat → Camp} {p : Nat → Int} : planR (splC h n q k c) (splP n q k p) n = ⟨⟨(c q).cu, 0, (c q).ho - k, (c q).en, (c q).ea, (c q).la, (c q).we⟩, p q + k⟩ := by
  simp [planR, splC, splP, snocC]
theorem cut_ok {h : Hall} {n : Nat} {c : Nat → Camp} {m : Nat} {p : Nat → Int} (e : keepB h n c m p = true) {q : Nat} {k : Int} (hq : q < n) (hk : 1 ≤ k ∧ k < (c q).ho) (hn : n ≤ 15) : keepB h (n + 1) (splC h n q k c) (m + 1) (splP n q k p) = true := by
  obtain ⟨e1, e2⟩ := keepB_ok e
  have g := good_of e2
  have hkc := (keepB_keepC e).2
  simp only [okB, Bool.and_eq_true, decide_eq_true_eq] at e1
  obtain ⟨e1, em⟩ := e1
  rw [campsB_of] at e1
  obtain ⟨c1, c2, c3⟩ := e1
  have cq := campB_of.1 (c3 q hq)
  have lq := late_n (g.late q hq)
  simp only [keepB, okB, Bool.and_eq_true, decide_eq_true_eq, beq_iff_eq]
  refine ⟨⟨?_, by omega⟩, ?_⟩
  · rw [campsB_of]
    refine ⟨c1, by omega, fun i hi => ?_⟩
    by_cases h1 : i = q
    · subst h1
      have := congrArg Run.c (splC_q (h := h) (k := k) (c := c) (p := p) hq)
      rw [show splC h n i k c i = _ from this, campB_of]
      dsimp only
      omega
    · by_cases h2 : i < n
      · have := congrArg Run.c (splC_lt (h := h) (k := k) (c := c) (p := p) h2 h1)
        rw [show splC h n q k c i = c i from this]
        exact c3 i h2
      · obtain rfl : i = n := by omega
        have := congrArg Run.c (splC_n (h := h) (n := i) (q := q) (k := k) (c := c) (p := p))
        rw [show splC h i q k c i = _ from this, campB_of]
        dsimp only
        omega
  · rw [good_iff]
    have hcl : 0 ≤ h.cl := hkc.2.2.1
    have tun : ∀ i, i < n → ¬ i = q → clashB h (planR c p i) (planR c p q) = false := fun i hi hne => by
      rcases Nat.lt_trichotomy i q with w | w | w
      · exact g.tun i q w hq
      · exact absurd w hne
      · rw [clash_comm]; exact g.tun q i w hi
    have tq : ∀ i, i < n → ¬ i = q → clashB h (planR c p i) ⟨⟨(c q).cu, (c q).pr, k, (c q).en, (c q).ea, h.n, (c q).we⟩, p q⟩ = false := fun i hi hne => by
      have := tun i hi hne
      rw [clash_not] at this ⊢
      dsimp only [planR] at this ⊢
      omega
    have tn : ∀ i, i < n → ¬ i = q → clashB h (planR c p i) ⟨⟨(c q).cu, 0, (c q).ho - k, (c q).en, (c q).ea, (c q).la, (c q).we⟩, p q + k⟩ = false := fun i hi hne => by
      have := tun i hi hne
      rw [clash_not] at this ⊢
      dsimp only [planR] at this ⊢
      omega
    refine ⟨fun i hi => ?_, fun i hi t h1 h2 => ?_, fun i j hij hj => ?_, fun j hj => ?_⟩
    · by_cases h1 : i = q
      · subst h1
        rw [splC_q hq]
        exact decide_eq_false (by dsimp only; omega)
      · by_cases h2 : i < n
        · rw [splC_lt h2 h1]; exact g.late i h2
        · obtain rfl : i = n := by omega
          rw [splC_n]
          exact decide_eq_false (by dsimp only; omega)
    · by_cases w1 : i = q
      · subst w1
        rw [splC_q hq] at h1 h2 ⊢
        have l1 : p i ≤ t := h1
        have l2 : t - p i < k := h2
        exact g.hour i hq t l1 (by show t - p i < (c i).ho; omega)
      · by_cases w2 : i < n
        · rw [splC_lt w2 w1] at h1 h2 ⊢
          exact g.hour i w2 t h1 h2
        · obtain rfl : i = n := by omega
          rw [splC_n] at h1 h2 ⊢
          have l1 : p q + k ≤ t := h1
          have l2 : t - (p q + k) < (c q).ho - k := h2
          exact g.hour q hq t (by show p q ≤ t; omega) (by show t - p q < (c q).ho; omega)
    · by_cases w1 : j < n
      · by_cases w2 : j = q
        · subst w2
          rw [splC_q hq, splC_lt (by omega) (by omega)]
          exact tq i (by omega) (by omega)
        · rw [splC_lt w1 w2]
          by_cases w3 : i = q
          · subst w3
            rw [splC_q hq, clash_comm]
            exact tq j w1 w2
          · rw [splC_lt (by omega) w3]
            exact g.tun i j hij w1
      · obtain rfl : j = n := by omega
        rw [splC_n]
        by_cases w3 : i = q
        · subst w3
          rw [splC_q hq, clash_not]
          dsimp only
          rw [if_pos rfl]
          omega
        · rw [splC_lt hij w3]
          exact tn i hij w3
    · show bump _ _ 1 (prepI _ n) j ≤ h.ro
      rw [splC_n]
      have e3 : prepI (planR (splC h n q k c) (splP n q k p)) n j = prepI (planR c p) n j := prepI_congr n (fun i hi => by
        by_cases w : i = q
        · subst w
          rw [splC_q hq]
          exact ⟨rfl, rfl⟩
        · rw [splC_lt hi w]
          exact ⟨rfl, rfl⟩) j
      have := g.room j hj
      unfold bump
      rw [if_neg (by dsimp only; omega), e3]
      exact this
theorem clo_not {h : Hall} {cu t : Int} {r : Run} (e : ¬ r.c.cu = cu) : cloP h cu t r = false ↔ ¬ (r.first - h.cl ≤ t ∧ t ≤ r.first + r.c.ho + h.cl - 1) := by
  unfold cloP
  rw [decide_eq_false e]
  simp only [Bool.not_false, Bool.true_and, decide_eq_false_iff_not]
theorem look_cut {h : Hall} {n : Nat} {c : Nat → Camp} {p : Nat → Int} {q : Nat} {k cu t : Int} (hq : q < n) (hk : 1 ≤ k ∧ k < (c q).ho) (hcl : 0 ≤ h.cl) (hcu : ¬ (c q).cu = cu) : lookB h (n + 1) (planR (splC h n q k c) (splP n q k p)) cu t = lookB h n (planR c p) cu t := by
  have e1 : anyI (fun i => ownP cu t (planR (splC h n q k c) (splP n q k p) i)) (n + 1) = anyI (fun i => ownP cu t (planR c p i)) n := by
    rw [anyI_succ, splC_n]
    simp only [ownP, hcu, decide_false, Bool.false_and, Bool.or_false]
    refine anyI_congr fun i hi => ?_
    by_cases w : i = q
    · subst w; rw [splC_q hq]; simp [planR, hcu]
    · rw [splC_lt hi w]
  have e2 : anyI (fun i => preP cu t (planR (splC h n q k c) (splP n q k p) i)) (n + 1) = anyI (fun i => preP cu t (planR c p i)) n := by
    rw [anyI_succ, splC_n]
    simp only [preP, hcu, decide_false, Bool.false_and, Bool.or_false]
    refine anyI_congr fun i hi => ?_
    by_cases w : i = q
    · subst w; rw [splC_q hq]; simp [planR, hcu]
    · rw [splC_lt hi w]
  have e3 : anyI (fun i => cloP h cu t (planR (splC h n q k c) (splP n q k p) i)) (n + 1) = anyI (fun i => cloP h cu t (planR c p i)) n := by
    cases w : anyI (fun i => cloP h cu t (planR c p i)) n with
    | false =>
      rw [anyI_false] at w ⊢
      have wq := (clo_not (r := planR c p q) hcu).1 (w q hq)
      dsimp only [planR] at wq
      intro i hi
      by_cases w1 : i = q
      · subst w1
        rw [splC_q hq, clo_not hcu]
        dsimp only
        omega
      · by_cases w2 : i < n
        · rw [splC_lt w2 w1]; exact w i w2
        · obtain rfl : i = n := by omega
          rw [splC_n, clo_not hcu]
          dsimp only
          omega
    | true =>
      cases v : anyI (fun i => cloP h cu t (planR (splC h n q k c) (splP n q k p) i)) (n + 1) with
      | true => rfl
      | false =>
        exfalso
        have : anyI (fun i => cloP h cu t (planR c p i)) n = false := by
          rw [anyI_false] at v ⊢
          intro i hi
          have vi := v i (by omega)
          by_cases w1 : i = q
          · subst w1
            have vn := v n (by omega)
            rw [splC_q hq, clo_not hcu] at vi
            rw [splC_n, clo_not hcu] at vn
            rw [clo_not (r := planR c p i) hcu]
            dsimp only [planR] at vi vn ⊢
            omega
          · rw [splC_lt hi w1] at vi; exact vi
        rw [this] at w; cases w
  unfold lookB
  rw [e1, e2, e3]
end Go.Ev
end
section
open Go Go.Ev Go.RowKit
namespace Go.Ev
set_option maxRecDepth 100000
set_option maxHeartbeats 20000000
set_option linter.all false
def hallS : D → Option (Prop × Hall)
  | .agg [.val (.int .i64 a), .val (.int .i64 b), .row 1 n f, .row 1 m g] => some ((∀ i, i < n → f i = [i6 (rowInt f i)]) ∧ (∀ i, i < m → g i = [i6 (rowInt g i)]), ⟨a, b, n, rowInt f, m, rowInt g⟩)
  | _ => none
theorem hallS_less {d : D} {p : Prop} {h : Hall} (e : hallS d = some (p, h)) (hp : p) : LessD d (.agg (hallD h)) := by
  unfold hallS at e
  split at e
  · cases e
    exact less_agg (Less.same (Less.same (less_cons (less_row hp.1) (less_cons (less_row hp.2) (Less.refl [])))))
  · cases e
def R42s : List D → Option (Option Prop × D)
  | [d0, .row 7 n f, .row 1 m e, .val (.int .i64 cu)] => match hallS d0 with
    | some (q, h) => some (some (q ∧ (∀ i, i < n → f i = campD (rowCamp f i)) ∧ (∀ i, i < m → e i = [i6 (rowInt e i)]) ∧ (n ≤ 100000 ∧ m ≤ 100000 ∧ h.n ≤ 100000 ∧ h.m ≤ 100000)), .tup [rowU (okN (viewK h n (rowCamp f) m (rowInt e) cu) h.n) fun t => lookB h n (planR (rowCamp f) (rowInt e)) cu t, i6 (viewE h n (rowCamp f) m (rowInt e) cu)])
    | none => none
  | _ => none
noncomputable def T42s := orCl (freshC 42 R42s) T14n
theorem T42s_ok (K : Cust) : ClOK K PG T42s := ClOK.or (freshC_ok (ent cf_42) (fun ds p d h hp => by
    unfold R42s at h
    split at h
    · split at h
      · rename_i e0
        cases h
        obtain ⟨h1, h2, h3, h4⟩ := hp _ rfl
        exact ⟨_, less_cons (hallS_less e0 h1) (less_cons (less_row h2) (less_cons (less_row h3) (Less.refl _))), by simp [freeD, freeL, rowU_free], view_fresh _ _ _ _ _ _ h4⟩
      · cases h
    · cases h)) (T14n_ok K)
def byteL : List D → Int
  | [.val (.int .u8 x)] => x
  | _ => 0
def u8sO : D → Option (Prop × Nat × (Nat → Int))
  | .row 1 n f => some (∀ i, i < n → f i = [.val (.int .u8 (byteL (f i)))], n, fun i => byteL (f i))
  | .val (.slice none 0 0) => some (True, 0, fun _ => 0)
  | _ => none
theorem u8sO_less {d : D} {p : Prop} {n : Nat} {f : Nat → Int} (h : u8sO d = some (p, n, f)) (hp : p) : LessD d (rowU n f) := by
  unfold u8sO at h
  split at h
  · cases h; exact less_row hp
  · cases h
    intro K M ρ v hv
    simp only [Rep, rowU] at *
    exact .inl ⟨hv, trivial⟩
  · cases h
theorem seen_alone (n : Nat) (f : Nat → Int) (m : Nat) (g : Nat → Int) (hn : n ≤ 1000000) : Alone PG 46 [rowU n f, rowU m g] (bD (sameB n f m g)) :=
  Alone.ofW (cl := T42s) (raw := false) hm0 T42s_ok cf_46 fun K w => by
    refine aw_reg0 (aw_assoc (aw_reg0 (aw_ifsne ((↑n : Int)) ((↑m : Int)) (fun h1 => aw_assoc (aw_reg0 (aw_rets (end_b (false) ?_)))) (fun h2 => aw_skips (aw_assoc (aw_reg0 (?_)))))))
    · exact (sameB_n (by assumption)).symm
    · have hnm : n = m := by omega
      refine aw_loopV (ι := {i : Nat // i ≤ n ∧ ∀ j, j < i → f j = g j}) hm0 (T42s_ok K) (fun z => [(5, i6 z.1)]) (fun _ => []) (fun z => n - z.1) ⟨0, Nat.zero_le _, fun j hj => by omega⟩ (fun z => ?_)
      obtain ⟨i, hi, hall⟩ := z
      refine aw_assoc (aw_reg0 (aw_ifsd ((↑i : Int) < (↑n : Int)) (fun h3 => aw_skips (aw_blocks (aw_reg ((True ∧ (0 : Int) ≤ (↑i : Int) ∧ (↑i : Int) < (↑n : Int)) ∧ (0 : Int) ≤ (↑i : Int) ∧ (↑i : Int) < (↑m : Int)) (by (simp only [inRange_i64, true_and]; omega)) (aw_ifne (f i) (g i) (fun h4 => aw_reg0 (aw_ret (blk_ret (seq_ret (round_ret (blk_ret (seq_ret (end_b (false) ?_)))))))) (fun h5 => aw_skip (blk_normal (seq_normal (aw_end (True ∧ inRange IntKind.i64 ((↑i : Int) + (1 : Int))) (by (simp only [inRange_i64, true_and]; omega)) (round_t 1 ((∀ (i : Nat), i < n → True ∧ True) ∧ (∀ (i : Nat), i < m → True ∧ True) ∧ (∀ (i : Nat), i < n → True ∧ True) ∧ (∀ (i : Nat), i < m → True ∧ True) ∧ True) (True) (by (simp)) (by (exact True.intro)) ?_))))))))) (fun h6 => aw_exits (round_exit (blk_exit (seq_normal (aw_reg0 (aw_ret (end_b (true) ?_)))))))))
      · exact (sameB_f (i := i) (by omega) (by assumption)).symm
      · exact round_v ⟨i + 1, by omega, fun j hj => by
          rcases Nat.lt_or_ge j i with q | q
          · exact hall j q
          · obtain rfl : j = i := by omega
            assumption⟩ (by show n - (i + 1) < n - i; omega)
      · exact (sameB_t hnm fun j hj => hall j (by omega)).symm

def R46 : List D → Option (Option Prop × D)
  | [d0, d1] => match u8sO d0, u8sO d1 with
    | some (q1, n, f), some (q2, m, p) => some (some (q1 ∧ q2 ∧ n ≤ 1000000), bD (sameB n f m p))
    | _, _ => none
  | _ => none
noncomputable def T46 := orCl (aloC 46 R46) T42s
theorem T46_ok (K : Cust) : ClOK K PG T46 := tab_cons cf_46 (fun ds p d h hp => by
    unfold R46 at h
    split at h
    · split at h
      · rename_i e0 e1
        cases h
        obtain ⟨h1, h2, h3⟩ := hp _ rfl
        exact ⟨_, less_cons (u8sO_less e0 h1) (less_cons (u8sO_less e1 h2) (Less.refl _)), by simp [freeL, freeD, rowU_free], by simp [freeD], seen_alone _ _ _ _ h3⟩
      · cases h
    · cases h) (T42s_ok K)
def pickB (n : Nat) (f : Nat → Int) (i : Nat) : Int := if n = 0 then 0 else f (i % n)
theorem pick_alone (n : Nat) (f : Nat → Int) (i : Nat) (hi : i ≤ 1000000) : Alone PG 45 [rowU n f, i6 i] (.val (.int .u8 (pickB n f i))) :=
  Alone.ofW (cl := T46) (raw := false) hm0 T46_ok cf_45 fun K w => by
    refine aw_reg0 (aw_assoc (aw_reg0 (aw_ifse ((↑n : Int)) ((0 : Int)) (fun h1 => aw_assoc (aw_reg0 (aw_rets (end_i ((0 : Int)) ?_)))) (fun h2 => aw_skips (aw_reg ((True ∧ (0 : Int) ≤ (↑i : Int) ∧ (0 : Int) < (↑n : Int)) ∧ (0 : Int) ≤ (↑i : Int) % (↑n : Int) ∧ (↑i : Int) % (↑n : Int) < (↑n : Int)) ?_ (aw_ret (end_i (f (Int.toNat ((↑i : Int) % (↑n : Int)))) ?_)))))))
    · rw [pickB, if_pos (by omega)]
    · have e := Int.emod_nonneg (i : Int) (show (n : Int) ≠ 0 by assumption)
      have e2 := Int.emod_lt_of_pos (i : Int) (show (0 : Int) < n by omega)
      exact ⟨⟨trivial, by omega, by omega⟩, e, e2⟩
    · rw [pickB, if_neg (by omega), show ((i : Int) % (n : Int)).toNat = i % n by omega]
theorem pick_int (n : Nat) (f : Nat → Int) (t : Int) (h0 : 0 ≤ t) (hn : t ≤ 1000000) : Alone PG 45 [rowU n f, i6 t] (.val (.int .u8 (pickB n f t.toNat))) := by
  have := pick_alone n f t.toNat (by omega)
  rwa [Int.toNat_of_nonneg h0] at this

def R45 : List D → Option (Option Prop × D)
  | [d0, d1] => match u8sO d0, inO d1 with
    | some (q1, n, f), some t => some (some (q1 ∧ 0 ≤ t ∧ t ≤ 1000000), .val (.int .u8 (pickB n f t.toNat)))
    | _, _ => none
  | _ => none
noncomputable def T45 := orCl (aloC 45 R45) T46
theorem T45_ok (K : Cust) : ClOK K PG T45 := tab_cons cf_45 (fun ds p d h hp => by
    unfold R45 at h
    split at h
    · split at h
      · rename_i e0 e1
        obtain rfl := inO_eq e1
        cases h
        obtain ⟨h1, h2, h3⟩ := hp _ rfl
        exact ⟨_, less_cons (u8sO_less e0 h1) (Less.refl _), by simp [freeL, freeD, rowU_free], by simp [freeD], pick_int _ _ _ h2 h3⟩
      · cases h
    · cases h) (T46_ok K)
end Go.Ev
end
