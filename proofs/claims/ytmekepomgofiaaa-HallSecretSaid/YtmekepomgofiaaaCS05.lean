import Derived.Test.YtmekepomgofiaaaCS04
set_option linter.all false
namespace Go.Ev
section
variable {K : Cust} {P : Program} {o : Oper} {a : Act} {w w' : World} {ρ : List Own} {hp : List Blk} {sl : List D} {nid : Nat} {out : Out}

theorem s_copS {c : Call} {x y : Operand} {t e : TypeId} {k : Nat} (ho : o.op = .call c) (hc : c.callee = .builtin .copy) (hca : c.args.toList = [x, y]) (ht : c.argTypes[0]? = some t)
    (he : elemT P t = some e) (hsz : sizT P e = some k) (hk1 : k = 1) (hk : OK K w ρ hp)
    (hs : Slots K (mask K w ρ) ρ sl a.tmps) (h : c_copS sl hp nid x y = some out) : Does P o a w (Res K w ρ hp nid out) := by
  subst hk1
  have hx := evO_rep hs x
  have hy := evO_rep hs y
  have hca' : c.args = #[x, y] := by apply Array.ext'; simpa using hca
  unfold c_copS at h
  split at h
  · rename_i id off n k' cap s hd hd2
    rw [hd] at hx
    rw [hd2] at hy
    simp only [Rep] at hy
    split at h
    · rename_i cs hcs
      split at h
      · rename_i hc3
        obtain ⟨rfl, hle⟩ := hc3
        obtain rfl := (Option.some.inj h).symm
        rw [bytesOfS_length]
        obtain ⟨b, N, ho1, hb⟩ := cellsAt_own hk hcs
        simp only [Rep, ho1] at hx
        obtain ⟨c', hx, _⟩ := hx
        obtain ⟨vb, ty, g1, g2, g3⟩ := hb
        have g4 := readsL_size g3
        have hmn : Nat.min s.size n ≤ s.size := Nat.min_le_left _ _
        have hmn2 : Nat.min s.size n ≤ n := Nat.min_le_right _ _
        have hlen : ((bytesD s).take (Nat.min s.size n)).length = Nat.min s.size n := by
          rw [List.length_take, bytesD_length]; omega
        have hvl : ((bytesVs s).take (Nat.min s.size n)).length = Nat.min s.size n := by
          rw [List.length_take, bytesVs_length]; omega
        have hal : ((bytesD s).take (Nat.min s.size n)).all okCell = true := by
          have hall := bytesD_all s
          rw [List.all_eq_true] at hall ⊢
          exact fun d hd => hall d (List.mem_of_mem_take hd)
        have hrep := repL_take (K := K) (Nat.min s.size n) (bytesD_rep (ρ := ρ) (mask K w ρ) s)
        refine wrote_row (v := .int .i64 (Nat.min s.size n)) (xs := (bytesVs s).take (Nat.min s.size n)) hk hcs ho1 g1 (by omega) (nx := .value (.int .i64 (Nat.min s.size n))) ?_ (.inl rfl) (.inl rfl) (fun M ρ' => by simp [Rep]) hrep
        have hf := firstCells_string (P := P) (w := w) s 1 _ hmn
        simp only [execOp, ho, resolve, hc, invoke, Go.builtin, hca', Sem.run_bind, Sem.run_pure, Result.andThen_ok, List.map_toArray, List.map_cons, List.map_nil, hx, hy]
        have hl : (Builtin.lenOf (.string s)).run P w = .ok s.size w := rfl
        simp only [Builtin.copy_, ht, List.getElem?_toArray, List.getElem?_cons_zero, List.getElem?_cons_succ, Sem.run_bind, run_under (elemT_some he), Result.andThen_ok, hl, run_size hsz, hf]
        rw [run_storeCells _ w vb 0 g1 g2.2 (plains hrep hal) (by omega)]
        simp [goInt]
      · cases h
    · cases h
  · cases h

/-! maps -/
theorem mapAt_own {id : Nat} {es : List (Value × D)} (hk : OK K w ρ hp) (h : mapAt hp id = some es) : ∃ b n, own ρ id = .live b n ∧ RepB K w (mask K w ρ) ρ (.live b n) (.map es) := by
  unfold mapAt at h
  rw [getG_eq] at h
  split at h
  · rename_i cs' hh
    obtain rfl := Option.some.inj h
    have hb := hk.blk id _ hh
    cases ho : own ρ id with
    | live b n => rw [ho] at hb; exact ⟨b, n, rfl, hb⟩
    | fresh => rw [ho] at hb; exact hb.elim
    | dead => rw [ho] at hb; exact hb.elim
  · cases h
theorem mapAt_alive {id : Nat} {es : List (Value × D)} (h : mapAt hp id = some es) : hp[id]? ≠ some .dead := fun e => by
  unfold mapAt at h
  rw [getG_eq, e] at h
  cases h
theorem s_mkMap {t : TypeId} (ho : o.op = .makeMap t none) (hk : OK K w ρ hp) (hn : ρ[nid]? = some .fresh) (h : c_mkMap sl hp nid = some out) : Does P o a w (Res K w ρ hp nid out) := by
  obtain rfl := (Option.some.inj h).symm
  refine does_value (v := .map (some w.heap.size)) (w' := { w with heap := w.heap.push (Obj.map #[] 0) }) ?_ ⟨ρ.set nid (.live w.heap.size 0), ?_, Eff.new_block rfl hn hk.lt fun hs => ⟨#[], 0, by simp, rfl, rfl, fun j k d hj => by simp at hj⟩⟩
  · simp [execOp, ho, Instr.makeMap, newObj, Sem.run]
  · simp only [Rep, own_set_same hn]
def kindTD (kd : Nat) (t : TypeDesc) : Prop := (kd = 0 ∧ ∃ i, t = .int i) ∨ (kd = 1 ∧ t = .bool) ∨ (kd = 2 ∧ t = .string)
theorem scalarK_under {t : TypeId} {kd : Nat} (h : scalarK P t = some kd) : ∃ d, P.underlying t = some d ∧ kindTD kd d := by
  obtain ⟨_, h⟩ := scalarK_agg h
  rcases h with ⟨rfl, i, hu⟩ | ⟨rfl, hu⟩ | ⟨rfl, hu⟩
  · exact ⟨_, hu, .inl ⟨rfl, i, rfl⟩⟩
  · exact ⟨_, hu, .inr (.inl ⟨rfl, rfl⟩)⟩
  · exact ⟨_, hu, .inr (.inr ⟨rfl, rfl⟩)⟩
theorem keyEq_now {kd : Nat} {d : TypeDesc} {key k : Value} {t : Bool} (hd : kindTD kd d) (hk : kindOk kd key = true) (h : keyEq key k = some t) : Instr.sameNow d key k = some t := by
  cases key <;> simp only [kindOk, Bool.false_eq_true] at hk <;> cases k <;> simp only [keyEq, reduceCtorEq] at h
  · rcases hd with ⟨rfl, i, rfl⟩ | ⟨rfl, rfl⟩ | ⟨rfl, rfl⟩ <;> first | (simp at hk; done) | simpa [Instr.sameNow] using h
  · rcases hd with ⟨rfl, i, rfl⟩ | ⟨rfl, rfl⟩ | ⟨rfl, rfl⟩ <;> first | (simp at hk; done) | skip
    split at h
    · rename_i hkk
      have := eq_of_beq hkk
      subst this
      simpa [Instr.sameNow] using h
    · cases h
  · rcases hd with ⟨rfl, i, rfl⟩ | ⟨rfl, rfl⟩ | ⟨rfl, rfl⟩ <;> first | (simp at hk; done) | skip
    simp only [Instr.sameNow, beqS]
    exact h
theorem findD_now {kd : Nat} {d : TypeDesc} {key : Value} (hd : kindTD kd d) (hk : kindOk kd key = true) : ∀ (es : List (Value × D)) (ents : List MapEntry) (i : Nat) (r : Option (Nat × D)),
    es.length = ents.length → (∀ (j : Nat) (k : Value) (x : D), es[j]? = some (k, x) → ∃ e, ents[j]? = some e ∧ e.key = k) → findD key es i = some r →
    (r = none ∧ Instr.findNow d key ents i = some none) ∨ (∃ n x e, r = some (n, x) ∧ i ≤ n ∧ es[n - i]? = some (e.key, x) ∧ ents[n - i]? = some e ∧ Instr.findNow d key ents i = some (some (n, e.val)) ∧ keyEq key e.key = some true)
  | [], ents, i, r, hl, he, h => by
    cases ents with
    | nil =>
      simp only [findD, Option.some.injEq] at h
      exact .inl ⟨h.symm, rfl⟩
    | cons _ _ => simp at hl
  | (k, x) :: es, ents, i, r, hl, he, h => by
    cases ents with
    | nil => simp at hl
    | cons e ents =>
      obtain ⟨e', h1, h2⟩ := he 0 k x rfl
      simp only [List.getElem?_cons_zero, Option.some.injEq] at h1
      subst h1
      simp only [findD] at h
      split at h
      · rename_i hq
        simp only [Option.some.injEq] at h
        subst h2
        refine .inr ⟨i, x, e, h.symm, Nat.le_refl _, by simp, by simp, ?_, hq⟩
        simp only [Instr.findNow, keyEq_now hd hk hq]
      · rename_i hq
        subst h2
        rcases findD_now hd hk es ents (i + 1) r (by simpa using hl) (fun j k x hj => he (j + 1) k x hj) h with ⟨h1, h2⟩ | ⟨n, y, e2, h1, h2, h3, h4, h5, h6⟩
        · refine .inl ⟨h1, ?_⟩
          simp only [Instr.findNow, keyEq_now hd hk hq]
          exact h2
        · refine .inr ⟨n, y, e2, h1, by omega, ?_, ?_, ?_, h6⟩
          · rw [show n - i = (n - (i + 1)) + 1 by omega]; simpa using h3
          · rw [show n - i = (n - (i + 1)) + 1 by omega]; simpa using h4
          · simp only [Instr.findNow, keyEq_now hd hk hq]
            exact h5
      · cases h
theorem run_checkKey {t : TypeId} {d : TypeDesc} {kd : Nat} {e : Bool} {n : Nat} {v : Value} (hu : P.underlying t = some d) (hd : kindTD kd d) : (Instr.checkKey e (n + 1) t v).run P w = .ok () w := by
  rcases hd with ⟨rfl, i, rfl⟩ | ⟨rfl, rfl⟩ | ⟨rfl, rfl⟩ <;> simp [Instr.checkKey, run_under hu]
theorem run_findKey {t : TypeId} {d : TypeDesc} {v : Value} {es : List MapEntry} {r : Option (Nat × Value)} (hu : P.underlying t = some d) (h : Instr.findNow d v es 0 = some r) : (Instr.findKey t v es).run P w = .ok r w := by
  simp [Instr.findKey, run_under hu, h]
theorem lookR_some {ok' b : Bool} {d : D} (h : lookR ok' b d = some out) : out = ⟨none, if ok' = true then .tup [d, .val (.bool b)] else d, [], []⟩ := by
  unfold lookR at h
  split at h
  · exact (Option.some.inj h).symm
  · exact (Option.some.inj h).symm
theorem run_getObj {r : Nat} {es : Array MapEntry} {c : Nat} (h : w.heap[r]? = some (.map es c)) : (getObj r).run P w = .ok (.map es c) w := by
  simp [getObj, Sem.run, h]
theorem zeroD_some {t : TypeId} {z : D} (h : zeroD P t = some z) : ∃ i zv, P.info? t = some i ∧ i.zero = some zv ∧ z = ofV zv := by
  unfold zeroD at h
  split at h
  · rename_i i hi
    split at h
    · rename_i zv hz
      exact ⟨i, zv, hi, hz, (Option.some.inj h).symm⟩
    · cases h
  · cases h
theorem s_mlook {t kt et : TypeId} {kd : Nat} {z : D} {ok' : Bool} {m k : Operand} (ho : o.op = .lookup t m k ok') (hu : P.underlying t = some (.map kt et)) (hkd : scalarK P kt = some kd) (hz : zeroD P et = some z) (hk : OK K w ρ hp)
    (hs : Slots K (mask K w ρ) ρ sl a.tmps) (h : c_mlook sl hp nid kd z ok' m k = some out) : Does P o a w (Res K w ρ hp nid out) := by
  have hm := evO_rep hs m
  have hkey := evO_rep hs k
  obtain ⟨d, hud, hd⟩ := scalarK_under hkd
  obtain ⟨i, zv, z1, z2, rfl⟩ := zeroD_some hz
  have hzr := ofV_rep K (mask K w ρ) ρ zv
  unfold c_mlook at h
  split at h
  · rename_i key hdk
    rw [hdk] at hkey
    simp only [Rep] at hkey
    split at h
    · rename_i hok
      have fin : ∀ (v : Value) (b : Bool) (d' : D), Rep K (mask K w ρ) ρ d' v → lookR ok' b d' = some out → (execOp a.eval o).run P w = .ok (.value (if ok' then .tuple #[v, .bool b] else v)) w → Does P o a w (Res K w ρ hp nid out) := fun v b d' hr hl hrun => by
        rw [lookR_some hl]
        refine quiet hrun ?_
        cases ok'
        · exact hr
        · simp only [if_true, Rep]
          exact ⟨[v, .bool b], rfl, by simp only [RepL]; exact ⟨v, _, rfl, hr, _, _, rfl, by simp [Rep], rfl⟩⟩
      unfold lookM at h
      split at h
      · rename_i hdm
        rw [hdm] at hm
        simp only [Rep] at hm
        refine fin zv false _ hzr h ?_
        simp [execOp, ho, Instr.lookup, run_under hu, hm, hkey, run_checkKey hud hd, run_findKey (w := w) (v := key) (es := []) hud rfl, run_zero z1 z2]
      · rename_i id hdm
        rw [hdm] at hm
        split at h
        · rename_i es hes
          obtain ⟨b, n, ho1, hb⟩ := mapAt_own hk hes
          simp only [Rep, ho1] at hm
          obtain ⟨ents, clock, g1, g2, g3, g4⟩ := hb
          split at h
          · rename_i n' x hf
            rcases findD_now hd hok es ents.toList 0 _ (by simpa using g3) (fun j k x hj => by
              obtain ⟨e, q1, q2, _⟩ := g4 j k x hj
              exact ⟨e, by simpa using q1, q2⟩) hf with ⟨h1, _⟩ | ⟨n2, x2, e, h1, h2, h3, h4, h5, h6⟩
            · cases h1
            · cases h1
              simp only [Nat.sub_zero, Array.getElem?_toList] at h3 h4
              obtain ⟨e', q1, q2, q3⟩ := g4 _ _ _ h3
              rw [h4] at q1
              cases q1
              refine fin e.val true _ q3 h ?_
              simp [execOp, ho, Instr.lookup, run_under hu, hm, hkey, run_getObj g1, run_checkKey hud hd, run_findKey (w := w) hud h5]
          · rename_i hf
            rcases findD_now hd hok es ents.toList 0 _ (by simpa using g3) (fun j k x hj => by
              obtain ⟨e, q1, q2, _⟩ := g4 j k x hj
              exact ⟨e, by simpa using q1, q2⟩) hf with ⟨_, h5⟩ | ⟨n2, x2, e, h1, _⟩
            · refine fin zv false _ hzr h ?_
              simp [execOp, ho, Instr.lookup, run_under hu, hm, hkey, run_getObj g1, run_checkKey hud hd, run_findKey (w := w) hud h5, run_zero z1 z2]
            · cases h1
          · cases h
        · cases h
      · cases h
    · cases h
  · cases h
theorem s_mlen {c : Call} {x : Operand} {t kt et : TypeId} (ho : o.op = .call c) (hc : c.callee = .builtin .len) (hca : c.args.toList = [x]) (ht : c.argTypes[0]? = some t) (hu : P.underlying t = some (.map kt et)) (hk : OK K w ρ hp)
    (hs : Slots K (mask K w ρ) ρ sl a.tmps) (h : c_mlen sl hp nid x = some out) : Does P o a w (Res K w ρ hp nid out) := by
  have hx := evO_rep hs x
  have hca' : c.args = #[x] := by apply Array.ext'; simpa using hca
  unfold c_mlen at h
  have run : ∀ n : Int, (Builtin.len_ c.argTypes o.type #[a.eval x]).run P w = .ok (.int .i64 n) w → (execOp a.eval o).run P w = .ok (.value (.int .i64 n)) w := fun n hr => by
    simp [execOp, ho, resolve, hc, invoke, Go.builtin, hca', hr]
  split at h
  · rename_i hd
    rw [hd] at hx
    simp only [Rep] at hx
    obtain rfl := (Option.some.inj h).symm
    exact quiet (run 0 (by simp [Builtin.len_, ht, run_under hu, hx, goInt])) (by simp [Rep])
  · rename_i id hd
    rw [hd] at hx
    split at h
    · rename_i es hes
      obtain rfl := (Option.some.inj h).symm
      obtain ⟨b, n, ho1, hb⟩ := mapAt_own hk hes
      simp only [Rep, ho1] at hx
      obtain ⟨ents, clock, g1, g2, g3, g4⟩ := hb
      exact quiet (run ents.size (by simp [Builtin.len_, ht, run_under hu, hx, run_getObj g1, goInt])) (by simp [Rep, g3])
    · cases h
  · cases h
theorem run_setObj {r : Nat} {ob : Obj} {es : Array MapEntry} {c : Nat} (h : w.heap[r]? = some (.map es c)) : (setObj r ob).run P w = .ok () { w with heap := w.heap.set! r ob } := by
  simp [setObj, Sem.run, h]
/-- an own map has other entries -/
theorem wrote_map {id b n : Nat} {es es' : List (Value × D)} {ents ents' : Array MapEntry} {clock clock' : Nat} (hk : OK K w ρ hp) (hes : mapAt hp id = some es) (ho1 : own ρ id = .live b n)
    (hb : w.heap[b]? = some (Obj.map ents clock)) (hn : n = 0)
    (hr : (execOp a.eval o).run P w = .ok .skip { w with heap := w.heap.set! b (Obj.map ents' clock') })
    (hl : es'.length = ents'.size) (hc : ∀ (j : Nat) (k : Value) (d : D), es'[j]? = some (k, d) → ∃ e, ents'[j]? = some e ∧ e.key = k ∧ Rep K (mask K w ρ) ρ d e.val) :
    Does P o a w (Res K w ρ hp nid ⟨none, .tup [], [(id, .map es')], []⟩) := by
  refine does_skip hr ⟨ρ, by simp only [Rep]; exact ⟨[], rfl, by simp [RepL]⟩, ?_⟩
  refine Eff.write (own_live ho1) (mapAt_alive hes) rfl hk fun hs => ⟨ents', clock', by simp [lt_of_cells hb], hn, hl, fun j k d hj => ?_⟩
  obtain ⟨e, h1, h2, h3⟩ := hc j k d hj
  exact ⟨e, h1, h2, Rep.mono hs (OwnLe.refl ρ) _ _ h3⟩
theorem sameBits_refl {kd : Nat} {key k : Value} {n : Nat} (hk : kindOk kd key = true) (h : keyEq key k = some true) : k = key ∧ Instr.sameBits (n + 1) k key = true := by
  cases key <;> simp only [kindOk, Bool.false_eq_true] at hk <;> cases k <;> simp only [keyEq, reduceCtorEq] at h
  · simp only [Option.some.injEq, beq_iff_eq] at h
    subst h
    exact ⟨rfl, by simp [Instr.sameBits]⟩
  · split at h
    · rename_i hkk
      have := eq_of_beq hkk
      subst this
      simp only [Option.some.injEq, beq_iff_eq] at h
      subst h
      exact ⟨rfl, by simp [Instr.sameBits]⟩
    · cases h
  · rename_i x y
    simp only [Option.some.injEq, beq_iff_eq] at h
    have : x = y := by
      obtain ⟨⟨x⟩⟩ := x
      obtain ⟨⟨y⟩⟩ := y
      simp only [bytesOfS] at h
      rw [h]
    subst this
    exact ⟨rfl, by simp [Instr.sameBits, beqS]⟩
theorem s_mput {t kt et : TypeId} {kd : Nat} {m k v : Operand} (ho : o.op = .mapUpdate t m k v) (hu : P.underlying t = some (.map kt et)) (hkd : scalarK P kt = some kd) (hk : OK K w ρ hp)
    (hs : Slots K (mask K w ρ) ρ sl a.tmps) (h : c_mput sl hp nid kd m k v = some out) : Does P o a w (Res K w ρ hp nid out) := by
  have hm := evO_rep hs m
  have hkey := evO_rep hs k
  have hv := evO_rep hs v
  obtain ⟨d, hud, hd⟩ := scalarK_under hkd
  unfold c_mput at h
  split at h
  · rename_i key id hdk hdm
    rw [hdk] at hkey
    rw [hdm] at hm
    simp only [Rep] at hkey
    split at h
    · rename_i hok
      split at h
      · rename_i es hes
        obtain ⟨b, n, ho1, hb⟩ := mapAt_own hk hes
        simp only [Rep, ho1] at hm
        obtain ⟨ents, clock, g1, g2, g3, g4⟩ := hb
        have get : ∀ (j : Nat) (k : Value) (x : D), es[j]? = some (k, x) → ∃ e, ents.toList[j]? = some e ∧ e.key = k := fun j k x hj => by
          obtain ⟨e, q1, q2, _⟩ := g4 j k x hj
          exact ⟨e, by simpa using q1, q2⟩
        split at h
        · rename_i i x hf
          obtain rfl := (Option.some.inj h).symm
          rcases findD_now hd hok es ents.toList 0 _ (by simpa using g3) get hf with ⟨h1, _⟩ | ⟨n2, x2, e, h1, h2, h3, h4, h5, h6⟩
          · cases h1
          · cases h1
            simp only [Nat.sub_zero, Array.getElem?_toList] at h3 h4
            obtain ⟨e1, e2⟩ := sameBits_refl (n := 9999) hok h6
            refine wrote_map (ents' := ents.modify i fun e => { e with key := key, val := a.eval v }) (clock' := clock) hk hes ho1 g1 g2 ?_ (by simpa using g3) (fun j k' d' hj => ?_)
            · have hst : (Instr.keyThatStays (((ents[i]?).map (·.key)).getD key) key).run P w = .ok key w := by
                simp only [h4, Option.map_some, Option.getD_some, e1, Instr.keyThatStays]
                rw [e1] at e2
                simp [e2]
              simp only [execOp, ho, Instr.mapUpdate, Sem.run_bind, run_under hu, Result.andThen_ok, hm, hkey, run_getObj g1, run_checkKey hud hd, run_findKey (w := w) hud h5, hst, run_setObj g1]
              rfl
            · rw [List.getElem?_set] at hj
              have hil : i < es.length := (List.getElem?_eq_some_iff.1 h3).1
              split at hj
              · rename_i hij
                subst hij
                simp only [hil, if_true, Option.some.injEq, Prod.mk.injEq] at hj
                obtain ⟨rfl, rfl⟩ := hj
                exact ⟨{ e with key := key, val := a.eval v }, by simp [Array.getElem?_modify, h4], rfl, hv⟩
              · rename_i hij
                obtain ⟨e', q1, q2, q3⟩ := g4 j k' d' hj
                exact ⟨e', by simp [Array.getElem?_modify, hij, q1], q2, q3⟩
        · rename_i hf
          obtain rfl := (Option.some.inj h).symm
          rcases findD_now hd hok es ents.toList 0 _ (by simpa using g3) get hf with ⟨_, h5⟩ | ⟨n2, x2, e, h1, _⟩
          · refine wrote_map (ents' := ents.push { key := key, val := a.eval v, born := clock }) (clock' := clock + 1) hk hes ho1 g1 g2 ?_ (by simp [g3]) (fun j k' d' hj => ?_)
            · simp only [execOp, ho, Instr.mapUpdate, Sem.run_bind, run_under hu, Result.andThen_ok, hm, hkey, run_getObj g1, run_checkKey hud hd, run_findKey (w := w) hud h5, run_setObj g1]
              rfl
            · rw [List.getElem?_append] at hj
              split at hj
              · rename_i hlt
                obtain ⟨e', q1, q2, q3⟩ := g4 j k' d' hj
                refine ⟨e', ?_, q2, q3⟩
                rw [Array.getElem?_push, if_neg (by omega)]
                exact q1
              · rename_i hge
                have hj0 : j = es.length := by
                  have := (List.getElem?_eq_some_iff.1 hj).1
                  simp at this
                  omega
                subst hj0
                simp only [Nat.sub_self, List.getElem?_cons_zero, Option.some.injEq, Prod.mk.injEq] at hj
                obtain ⟨rfl, rfl⟩ := hj
                exact ⟨{ key := key, val := a.eval v, born := clock }, by rw [g3]; simp, rfl, hv⟩
          · cases h1
        · cases h
      · cases h
    · cases h
  · cases h
theorem valsD_some {M : World} : ∀ {ds : List D} {vs us : List Value}, valsD ds = some vs → RepL K M ρ ds us → us = vs
  | [], vs, us, h, hr => by simp only [valsD, Option.some.injEq] at h; simp only [RepL] at hr; rw [hr, ← h]
  | d :: ds, vs, us, h, hr => by
    unfold valsD at h
    split at h
    · simp at *
    · rename_i v l heq
      cases heq
      split at h
      · rename_i r hr'
        simp only [Option.some.injEq] at h
        simp only [RepL] at hr
        obtain ⟨x, rest, rfl, hx, hr⟩ := hr
        simp only [Rep] at hx
        rw [hx, valsD_some hr' hr, ← h]
      · cases h
    · cases h
theorem kindsT_get : ∀ (fs : List Field) (i : Nat) (ks : List Nat), kindsT P fs i = some ks → ∀ f ∈ fs, ∃ kd, scalarK P f.type = some kd ∧ i ≤ f.offset ∧ f.offset < i + fs.length
  | [], i, ks, h, f, hf => by cases hf
  | g :: fs, i, ks, h, f, hf => by
    simp only [kindsT] at h
    split at h
    · rename_i k r hk hr
      split at h
      · rename_i hc
        simp only [Bool.and_eq_true, beq_iff_eq] at hc
        rcases List.mem_cons.1 hf with rfl | hf
        · exact ⟨k, hk, by omega, by simp only [List.length_cons]; omega⟩
        · obtain ⟨kd, h1, h2, h3⟩ := kindsT_get fs (i + 1) r hr f hf
          exact ⟨kd, h1, by omega, by simp only [List.length_cons]; omega⟩
      · cases h
    · cases h
theorem run_forIn_unit (g : Field → PUnit → Sem (ForInStep PUnit)) : ∀ l : List Field, (∀ f ∈ l, (g f PUnit.unit).run P w = .ok (.yield PUnit.unit) w) → (forIn l PUnit.unit g).run P w = .ok PUnit.unit w
  | [], _ => by simp
  | f :: l, h => by
    simp only [List.forIn_cons, Sem.run_bind, h f (List.mem_cons_self ..), Result.andThen_ok]
    exact run_forIn_unit g l fun f hf => h f (List.mem_cons_of_mem _ hf)
theorem run_checkKeyS {t : TypeId} {fs : Array Field} {ks : List Nat} {e : Bool} {n : Nat} {vs : Array Value} (hu : P.underlying t = some (.struct fs)) (hks : kindsT P fs.toList 0 = some ks) (hl : vs.size = fs.size) : (Instr.checkKey e (n + 2) t (.agg vs)).run P w = .ok () w := by
  rw [Instr.checkKey]
  simp only [Sem.run_bind, run_under hu, Result.andThen_ok]
  rw [← Array.forIn_toList, run_forIn_unit]
  · simp
  intro f hf
  obtain ⟨kd, h1, h2, h3⟩ := kindsT_get _ _ _ hks f hf
  obtain ⟨hag, _⟩ := scalarK_agg h1
  obtain ⟨d, hud, hd⟩ := scalarK_under h1
  have hlt : f.offset < vs.size := by simp only [Array.length_toList] at h3; omega
  have hp : (part f.type vs f.offset).run P w = .ok vs[f.offset] w := by
    simp [part, run_isAgg' hag, hlt]
  split
  · simp only [Sem.run_bind, hp, Result.andThen_ok, run_checkKey hud hd, Sem.run_pure]
  · simp only [Result.andThen_ok, Sem.run_pure, Sem.run_bind]
theorem s_mputS {t kt et : TypeId} {fs : Array Field} {ks : List Nat} {m k v : Operand} (ho : o.op = .mapUpdate t m k v) (hu : P.underlying t = some (.map kt et)) (hfs : P.underlying kt = some (.struct fs)) (hks : kindsT P fs.toList 0 = some ks) (hk : OK K w ρ hp)
    (hs : Slots K (mask K w ρ) ρ sl a.tmps) (h : c_mputS sl hp nid fs.size m k v = some out) : Does P o a w (Res K w ρ hp nid out) := by
  have hm := evO_rep hs m
  have hkey := evO_rep hs k
  have hv := evO_rep hs v
  unfold c_mputS at h
  split at h
  · rename_i ds id hdk hdm
    rw [hdk] at hkey
    rw [hdm] at hm
    simp only [Rep] at hkey
    obtain ⟨us, hkey, hus⟩ := hkey
    split at h
    · rename_i vs hvs
      obtain rfl := valsD_some hvs hus
      split at h
      · rename_i hlen
        split at h
        · rename_i hes
          obtain rfl := (Option.some.inj h).symm
          obtain ⟨b, n, ho1, hb⟩ := mapAt_own hk hes
          simp only [Rep, ho1] at hm
          obtain ⟨ents, clock, g1, g2, g3, g4⟩ := hb
          have h0 : ents = #[] := by
            apply Array.eq_empty_of_size_eq_zero
            simpa using g3.symm
          subst h0
          refine wrote_map (ents' := #[{ key := .agg us.toArray, val := a.eval v, born := clock }]) (clock' := clock + 1) hk hes ho1 g1 g2 ?_ (by simp) (fun j k' d' hj => ?_)
          · have hc : (Instr.checkKey false 10000 kt (.agg us.toArray)).run P w = .ok () w := run_checkKeyS (n := 9998) hfs hks (by simpa using hlen)
            have hf : (Instr.findKey kt (.agg us.toArray) []).run P w = .ok none w := run_findKey (w := w) hfs rfl
            simp only [execOp, ho, Instr.mapUpdate, Sem.run_bind, run_under hu, Result.andThen_ok, hm, hkey, run_getObj g1, hc, hf, run_setObj g1]
            rfl
          · cases j with
            | zero =>
              simp only [List.getElem?_cons_zero, Option.some.injEq, Prod.mk.injEq] at hj
              obtain ⟨rfl, rfl⟩ := hj
              exact ⟨_, by simp; rfl, rfl, hv⟩
            | succ j => simp at hj
        · cases h
      · cases h
    · cases h
  · cases h
theorem s_mlookS {t kt et : TypeId} {z : D} {ok' : Bool} {fs : Array Field} {ks : List Nat} {m k : Operand} (ho : o.op = .lookup t m k ok') (hu : P.underlying t = some (.map kt et)) (hfs : P.underlying kt = some (.struct fs)) (hks : kindsT P fs.toList 0 = some ks) (hz : zeroD P et = some z) (hk : OK K w ρ hp)
    (hs : Slots K (mask K w ρ) ρ sl a.tmps) (h : c_mlookS sl hp nid fs.size z ok' m k = some out) : Does P o a w (Res K w ρ hp nid out) := by
  have hm := evO_rep hs m
  have hkey := evO_rep hs k
  obtain ⟨i, zv, z1, z2, rfl⟩ := zeroD_some hz
  have hzr := ofV_rep K (mask K w ρ) ρ zv
  unfold c_mlookS at h
  split at h
  · rename_i ds hdk
    rw [hdk] at hkey
    simp only [Rep] at hkey
    obtain ⟨us, hkey, hus⟩ := hkey
    split at h
    · rename_i vs hvs
      obtain rfl := valsD_some hvs hus
      split at h
      · rename_i hc
        simp only [Bool.and_eq_true] at hc
        obtain ⟨hlen, hE⟩ := hc
        have hck : ∀ b, (Instr.checkKey b 10000 kt (.agg us.toArray)).run P w = .ok () w := fun b => run_checkKeyS (n := 9998) hfs hks (by simpa using hlen)
        have hf : (Instr.findKey kt (.agg us.toArray) []).run P w = .ok none w := run_findKey (w := w) hfs rfl
        have run : (execOp a.eval o).run P w = .ok (.value (if ok' then .tuple #[zv, .bool false] else zv)) w := by
          unfold lookE at hE
          split at hE
          · rename_i hdm
            rw [hdm] at hm
            simp only [Rep] at hm
            simp [execOp, ho, Instr.lookup, run_under hu, hm, hkey, hck, hf, run_zero z1 z2]
          · rename_i id hdm
            rw [hdm] at hm
            split at hE
            · rename_i hes
              obtain ⟨b, n, ho1, hb⟩ := mapAt_own hk hes
              simp only [Rep, ho1] at hm
              obtain ⟨ents, clock, g1, g2, g3, g4⟩ := hb
              have h0 : ents = #[] := by
                apply Array.eq_empty_of_size_eq_zero
                simpa using g3.symm
              subst h0
              simp [execOp, ho, Instr.lookup, run_under hu, hm, hkey, run_getObj g1, hck, hf, run_zero z1 z2]
            · cases hE
          · cases hE
        rw [lookR_some h]
        refine quiet run ?_
        cases ok'
        · exact hzr
        · simp only [if_true, Rep]
          exact ⟨[zv, .bool false], rfl, by simp only [RepL]; exact ⟨zv, _, rfl, hzr, _, _, rfl, by simp [Rep], rfl⟩⟩
      · cases h
    · cases h
  · cases h
end
end Go.Ev
