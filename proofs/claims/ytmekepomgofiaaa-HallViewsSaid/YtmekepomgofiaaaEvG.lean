import Derived.Test.YtmekepomgofiaaaEvF
import Derived.IntWalk
set_option linter.all false
namespace Go.Ev
section
variable {K : Cust} {P : Program} {o : Oper} {a : Act} {w : World} {ρ : List Own} {hp : List Blk} {sl : List D} {nid : Nat} {out : Out}

theorem hp_live {id : Nat} {x : Blk} (hk : OK K w ρ hp) (h : hp[id]? = some x) (hx : x ≠ .dead) : ∃ b n, own ρ id = .live b n := by
  have hb := hk.blk id _ h
  cases ho : own ρ id with
  | live b n => exact ⟨b, n, rfl⟩
  | fresh => rw [ho] at hb; cases x <;> first | exact (hx rfl).elim | exact hb.elim
  | dead => rw [ho] at hb; cases x <;> first | exact (hx rfl).elim | exact hb.elim
def isNil : Value → Bool
  | .pointer none | .nilFunc | .map none | .slice none _ _ => true
  | _ => false
/-- a value that can be held against nil, and is not nil -/
def notNil : Value → Bool
  | .pointer (some _) | .func _ _ _ | .map (some _) | .slice (some _) _ _ => true
  | _ => false
theorem nilD_true {d : D} {v : Value} (h : Rep K (mask K w ρ) ρ d v) (hn : nilD hp d = some true) : isNil v = true := by
  cases d <;> simp only [nilD, getG_eq] at hn
  case val x =>
    split at hn
    · rename_i hx
      simp only [Rep] at h
      subst h
      cases v <;> simp_all [isNilV, isNil]
      · rename_i a; cases a <;> simp_all [isNilV, isNil]
      · rename_i a _ _; cases a <;> simp_all [isNilV, isNil]
      · rename_i a; cases a <;> simp_all [isNilV, isNil]
    · cases hn
  case row k len f => split at hn <;> cases hn
  all_goals first | (split at hn <;> cases hn; done) | cases hn
theorem nilD_false {d : D} {v : Value} (hk : OK K w ρ hp) (h : Rep K (mask K w ρ) ρ d v) (hn : nilD hp d = some false) : notNil v = true := by
  cases d <;> simp only [nilD, getG_eq] at hn
  case val x => split at hn <;> cases hn
  case ptr id off =>
    simp only [Rep] at h
    split at hn
    · cases hn
    · cases hn
    · rename_i h1 h2
      cases hh : hp[id]? with
      | none => exact (h2 hh).elim
      | some x =>
        obtain ⟨b, n, ho⟩ := hp_live hk hh (fun e => h1 (e ▸ hh))
        rw [ho] at h
        rw [h]; rfl
  case sl id off len k cap =>
    simp only [Rep] at h
    split at hn
    · cases hn
    · cases hn
    · rename_i h1 h2
      cases hh : hp[id]? with
      | none => exact (h2 hh).elim
      | some x =>
        obtain ⟨b, n, ho⟩ := hp_live hk hh (fun e => h1 (e ▸ hh))
        rw [ho] at h
        obtain ⟨c, rfl, _⟩ := h
        rfl
  case map id =>
    simp only [Rep] at h
    split at hn
    · cases hn
    · cases hn
    · rename_i h1 h2
      cases hh : hp[id]? with
      | none => exact (h2 hh).elim
      | some x =>
        obtain ⟨b, n, ho⟩ := hp_live hk hh (fun e => h1 (e ▸ hh))
        rw [ho] at h
        rw [h]; rfl
  case row k len f =>
    split at hn
    · simp only [Rep] at h
      rcases h with ⟨_, h⟩ | ⟨b, o, c, rfl, _⟩
      · omega
      · rfl
    · cases hn
  case ref cs off => simp only [Rep] at h; obtain ⟨b, o, rfl, _⟩ := h; rfl
  case fn f x y => simp only [Rep] at h; obtain ⟨x, y, rfl, _⟩ := h; rfl
  case emp z => simp only [Rep] at h; obtain ⟨a, a2, c, rfl, _⟩ := h; rfl
  all_goals cases hn

theorem s_nilCheck {x : Operand} (ho : o.op = .nilCheck x) (hk : OK K w ρ hp) (hs : Slots K (mask K w ρ) ρ sl a.tmps) (h : c_nilCheck sl hp nid x = some out) (hm : ∀ n f c, a.eval x ≠ .func (.method n) f c) : Does P o a w (Res K w ρ hp nid out) := by
  have hx := evO_rep hs x
  unfold c_nilCheck at h
  split at h
  · rename_i hn
    obtain rfl := (Option.some.inj h).symm
    have h2 := nilD_false hk hx hn
    refine quiet (v := a.eval x) ?_ hx
    simp only [execOp, ho]
    generalize a.eval x = v at *
    cases v <;> simp [notNil] at h2
    · rename_i p; cases p <;> simp_all
    · simp
    · simp
    · rename_i f _ _
      cases f <;> simp_all
  · cases h

theorem wrap_in {k : IntKind} {n : Int} (h : inRange k n) : k.wrap n = n := by
  unfold inRange IntKind.min IntKind.max at h
  cases k <;> simp [IntKind.signed, IntKind.bits] at h
  · exact IntWalk.i8_in n (by omega)
  · exact IntWalk.i16_in n (by omega)
  · exact IntWalk.i32_in n (by omega)
  · exact IntWalk.i64_in n (by omega)
  · exact IntWalk.u8_in n (by omega)
  · exact IntWalk.u16_in n (by omega)
  · exact IntWalk.u32_in n (by omega)
  · exact IntWalk.u64_in n (by omega)
theorem some_pair {α β : Type} {a c : α} {b d : β} (h : some (a, b) = some (c, d)) : a = c ∧ b = d := by simpa using h
theorem wrapV_run {ex : Bool} {k : IntKind} {n : Int} {p : Option Prop} {r : Value} (hr : wrapV ex k n = some (p, r)) (hp : ∀ q, p = some q → q) : r = .int k (k.wrap n) := by
  unfold wrapV at hr
  split at hr
  · split at hr
    · obtain ⟨rfl, rfl⟩ := some_pair hr
      rw [wrap_in (hp _ rfl)]
    · obtain ⟨rfl, rfl⟩ := some_pair hr; rfl
  · obtain ⟨rfl, rfl⟩ := some_pair hr; rfl
theorem quoV_run {ex : Bool} {k : IntKind} {x y : Int} {p : Option Prop} {r : Value} (hr : quoV ex k x y = some (p, r)) (hp : ∀ q, p = some q → q) : y ≠ 0 ∧ r = .int k (k.wrap (x.tdiv y)) := by
  unfold quoV at hr
  split at hr
  · obtain ⟨rfl, rfl⟩ := some_pair hr
    obtain ⟨h1, h2, h3⟩ := hp _ rfl
    refine ⟨by omega, ?_⟩
    have e : x.tdiv y = x / y := Int.tdiv_eq_ediv_of_nonneg h1
    have h4 : 0 ≤ x / y := Int.ediv_nonneg h1 (by omega)
    have h5 : x / y ≤ x := Int.ediv_le_self _ h1
    have h6 : k.min ≤ 0 := by cases k <;> simp [IntKind.min, IntKind.signed, IntKind.bits]
    rw [e, wrap_in ⟨by omega, by omega⟩]
  · split at hr
    · cases hr
    · obtain ⟨rfl, rfl⟩ := some_pair hr; exact ⟨by assumption, rfl⟩
theorem remV_run {ex : Bool} {k : IntKind} {x y : Int} {p : Option Prop} {r : Value} (hr : remV ex k x y = some (p, r)) (hp : ∀ q, p = some q → q) : y ≠ 0 ∧ r = .int k (x.tmod y) := by
  unfold remV at hr
  split at hr
  · obtain ⟨rfl, rfl⟩ := some_pair hr
    obtain ⟨h1, h2⟩ := hp _ rfl
    exact ⟨by omega, by rw [Int.tmod_eq_emod_of_nonneg h1]⟩
  · split at hr
    · cases hr
    · obtain ⟨rfl, rfl⟩ := some_pair hr; exact ⟨by assumption, rfl⟩
theorem int2V_run {ex : Bool} {op : BinOp} {t : TypeId} {k k' : IntKind} {i j : Int} {p : Option Prop} {r : Value} (hr : int2V ex k k' i j op = some (p, r)) (hp : ∀ q, p = some q → q) :
    (Go.binOp op t (.int k i) (.int k' j)).run P w = .ok r w := by
  unfold int2V at hr
  split at hr
  · rename_i hk'
    have hk2 : isSh op = true ∨ k = k' := by simpa [sameK] using hk'
    cases op <;> simp only [intV, intF, isSh, Bool.false_eq_true, false_or, boolV, bitsV] at hr hk2 <;> (try subst hk2)
    case add => rw [wrapV_run hr hp]; simp [Go.binOp, Op.intArith]
    case sub => rw [wrapV_run hr hp]; simp [Go.binOp, Op.intArith]
    case mul => rw [wrapV_run hr hp]; simp [Go.binOp, Op.intArith]
    case quo => obtain ⟨h1, rfl⟩ := quoV_run hr hp; simp [Go.binOp, Op.intDiv, h1]
    case rem => obtain ⟨h1, rfl⟩ := remV_run hr hp; simp [Go.binOp, Op.intDiv, h1]
    case shl =>
      unfold justV shiftD at hr
      split at hr
      · rename_i v hv
        split at hv
        · cases hv
        · obtain ⟨rfl, rfl⟩ := some_pair hr
          obtain rfl := Option.some.inj hv
          simp [Go.binOp, Op.shift, *]
      · cases hr
    case shr =>
      unfold justV shiftD at hr
      split at hr
      · rename_i v hv
        split at hv
        · cases hv
        · obtain ⟨rfl, rfl⟩ := some_pair hr
          obtain rfl := Option.some.inj hv
          simp [Go.binOp, Op.shift, *]
      · cases hr
    all_goals
      obtain ⟨rfl, rfl⟩ := some_pair hr
      simp [Go.binOp, Op.intBits, Op.intCmp]
  · cases hr
theorem strD_run {op : BinOp} {x y : ByteArray} {r : Value} (h : strD op x y = some r) : (Op.stringOp op x y).run P w = .ok r w := by
  cases op <;> simp only [strD] at h
  case add =>
    split at h
    · cases h
    · obtain rfl := Option.some.inj h
      have : ¬ (((x.size + y.size : Nat) : Int) > IntKind.i64.max) := by
        rw [← bytesOfS_length, ← bytesOfS_length]
        simp only [IntKind.max, IntKind.signed, IntKind.bits]
        omega
      simp only [Op.stringOp, if_neg this]
      rw [catB_eq]
      rfl
  all_goals first
    | cases h; done
    | (obtain rfl := Option.some.inj h; simp [Op.stringOp, bytesOfS_eq])
theorem equalIn_bool {d : Nat} {t : TypeId} {b c : Bool} (h : P.underlying t = some .bool) : (Op.equalIn (d + 1) t (.bool b) (.bool c)).run P w = .ok (b == c) w := by
  simp [Op.equalIn, run_under h]
theorem equal_bool {t : TypeId} {b c : Bool} (h : P.underlying t = some .bool) : (Op.equal t (.bool b) (.bool c)).run P w = .ok (b == c) w := equalIn_bool (d := 9999) h
def kindV (kd : Nat) : Value → Bool
  | .slice _ _ _ => kd == 0
  | .pointer _ => kd == 1
  | .nilFunc | .func _ _ _ => kd == 2
  | .map _ => kd == 3
  | _ => false
def kindT (kd : Nat) : TypeDesc → Bool
  | .slice _ => kd == 0
  | .pointer _ => kd == 1
  | .func _ _ _ => kd == 2
  | .map _ _ => kd == 3
  | _ => false
theorem equalIn_nil {d kd : Nat} {t : TypeId} {de : TypeDesc} {u v : Value} (h : P.underlying t = some de) (ht : kindT kd de = true) (hu : kindV kd u = true) (hv : kindV kd v = true) (hn : (isNil u || isNil v) = true) :
    (Op.equalIn (d + 1) t u v).run P w = .ok (isNil u && isNil v) w := by
  cases de <;> simp only [kindT, Bool.false_eq_true] at ht <;> (have ht := eq_of_beq ht; subst ht) <;>
    cases u <;> simp only [kindV, Bool.false_eq_true, reduceBEq] at hu <;> (try (exact absurd hu (by decide))) <;>
    cases v <;> simp only [kindV, Bool.false_eq_true, reduceBEq] at hv <;> (try (exact absurd hv (by decide)))
  case pointer.pointer.pointer e x y =>
    cases x <;> cases y <;> simp [isNil] at hn <;> simp [Op.equalIn, run_under h, isNil]
  case slice.slice.slice e x _ _ y _ _ =>
    cases x <;> cases y <;> simp [isNil] at hn <;> simp [Op.equalIn, run_under h, isNil]
  case map.map.map k e x y =>
    cases x <;> cases y <;> simp [isNil] at hn <;> simp [Op.equalIn, run_under h, isNil]
  all_goals first
    | (simp [isNil] at hn; done)
    | simp [Op.equalIn, run_under h, isNil]
theorem kindD_V {kd : Nat} {d : D} {v : Value} (h : Rep K (mask K w ρ) ρ d v) (hk : kindD kd d = true) {b : Bool} (hd : nilD hp d = some b) (hK : OK K w ρ hp) : kindV kd v = true := by
  have hn := hd
  cases b with
  | true =>
    have h3 := nilD_true h hn
    cases d <;> simp only [nilD, getG_eq] at hn
    case val x =>
      simp only [Rep] at h
      subst h
      cases v <;> simp_all [kindD, kindV, isNil]
    case row => split at hn <;> cases hn
    all_goals first | (split at hn <;> cases hn; done) | cases hn
  | false =>
    have h3 := nilD_false hK h hn
    cases d <;> simp only [nilD, getG_eq] at hn <;> simp only [kindD, Bool.false_eq_true] at hk
    case val x => split at hn <;> cases hn
    case ptr id off =>
      simp only [Rep] at h
      split at h
      · subst h; exact hk
      · rename_i hod
        exfalso
        split at hn
        · cases hn
        · cases hn
        · rename_i h1 h2
          cases hh : hp[id]? with
          | none => exact (h2 hh).elim
          | some x =>
            obtain ⟨b, n, ho⟩ := hp_live hK hh (fun e => h1 (e ▸ hh))
            rw [hod] at ho; cases ho
      · exact h.elim
    case sl id off len k cap =>
      simp only [Rep] at h
      split at h
      · obtain ⟨c, rfl, _⟩ := h; exact hk
      · rename_i hod
        exfalso
        split at hn
        · cases hn
        · cases hn
        · rename_i h1 h2
          cases hh : hp[id]? with
          | none => exact (h2 hh).elim
          | some x =>
            obtain ⟨b, n, ho⟩ := hp_live hK hh (fun e => h1 (e ▸ hh))
            rw [hod] at ho; cases ho
      · exact h.elim
    case map id =>
      simp only [Rep] at h
      split at h
      · subst h; exact hk
      · rename_i hod
        exfalso
        split at hn
        · cases hn
        · cases hn
        · rename_i h1 h2
          cases hh : hp[id]? with
          | none => exact (h2 hh).elim
          | some x =>
            obtain ⟨b, n, ho⟩ := hp_live hK hh (fun e => h1 (e ▸ hh))
            rw [hod] at ho; cases ho
      · exact h.elim
    case row k len f =>
      simp only [Rep] at h
      rcases h with ⟨rfl, _⟩ | ⟨b, o, c, rfl, _⟩ <;> exact hk
    case ref cs off => simp only [Rep] at h; obtain ⟨b, o, rfl, _⟩ := h; exact hk
    case fn f x y => simp only [Rep] at h; obtain ⟨x, y, rfl, _⟩ := h; exact hk
    case emp z => simp only [Rep] at h; obtain ⟨a, a2, c, rfl, _⟩ := h; exact hk
theorem nilD_b {d : D} {v : Value} (hK : OK K w ρ hp) (h : Rep K (mask K w ρ) ρ d v) {b : Bool} (hd : nilD hp d = some b) : isNil v = b := by
  cases b with
  | true => exact nilD_true h hd
  | false =>
    have := nilD_false hK h hd
    cases v <;> simp_all [notNil, isNil]
    · rename_i p; cases p <;> simp_all [notNil, isNil]
    · rename_i p _ _; cases p <;> simp_all [notNil, isNil]
    · rename_i p; cases p <;> simp_all [notNil, isNil]
theorem eqGuard_kind {kd : Nat} {op : BinOp} {t : TypeId} {x y : Operand} {u v : Value} (hu : kindV kd u = true) : (eqGuard op t x y u v).run P w = .ok () w := by
  unfold eqGuard
  cases u <;> simp [kindV] at hu <;> cases op <;> simp
theorem binOp_eql {kd : Nat} {t : TypeId} {u v : Value} (hu : kindV kd u = true) (hv : kindV kd v = true) {r : Bool} (h : (Op.equal t u v).run P w = .ok r w) :
    (Go.binOp .eql t u v).run P w = .ok (.bool r) w ∧ (Go.binOp .neq t u v).run P w = .ok (.bool (!r)) w := by
  cases u <;> simp [kindV] at hu <;> cases v <;> simp [kindV] at hv <;> simp [Go.binOp, h]
theorem nilK_some {kd : Nat} {d : D} {b : Bool} (h : nilK kd hp d = some b) : kindD kd d = true ∧ nilD hp d = some b := by
  unfold nilK at h
  split at h
  · exact ⟨by assumption, h⟩
  · cases h
theorem s_eqNil {op : BinOp} {kd : Nat} {t t2 : TypeId} {de : TypeDesc} {x y : Operand} (ho : o.op = .binOp op t x y t2) (hk : OK K w ρ hp) (hs : Slots K (mask K w ρ) ρ sl a.tmps) (h : c_eqNil sl hp nid kd op x y = some out)
    (hu : P.underlying t = some de) (hkt : kindT kd de = true) : Does P o a w (Res K w ρ hp nid out) := by
  have hx := evO_rep hs x
  have hy := evO_rep hs y
  unfold c_eqNil at h
  split at h
  · rename_i p q hp1 hq1
    obtain ⟨kx, hp1⟩ := nilK_some hp1
    obtain ⟨ky, hq1⟩ := nilK_some hq1
    have vx := kindD_V hx kx hp1 hk
    have vy := kindD_V hy ky hq1 hk
    have nx := nilD_b hk hx hp1
    have ny := nilD_b hk hy hq1
    split at h
    · rename_i hpq
      have he : (Op.equal t (a.eval x) (a.eval y)).run P w = .ok (p && q) w := by
        rw [← nx, ← ny]
        exact equalIn_nil (d := 9999) hu hkt vx vy (by rw [nx, ny]; exact hpq)
      obtain ⟨e1, e2⟩ := binOp_eql vx vy he
      split at h
      · obtain rfl := (Option.some.inj h).symm
        exact quiet (v := .bool (p && q)) (by simp [execOp, ho, eqGuard_kind vx, e1]) (by simp [Rep])
      · obtain rfl := (Option.some.inj h).symm
        exact quiet (v := .bool (!(p && q))) (by simp [execOp, ho, eqGuard_kind vx, e2]) (by simp [Rep])
      · cases h
    · cases h
  · cases h
theorem equalIn_ptr {d : Nat} {t e : TypeId} {n b q p : Nat} {r : Bool} (hu : P.underlying t = some (.pointer e)) (hsz : sizT P e = some (n + 1)) (hab : ((⟨b, q, none⟩ : Addr) == ⟨b, p, none⟩) = r) :
    (Op.equalIn (d + 1) t (.pointer (some ⟨b, q, none⟩)) (.pointer (some ⟨b, p, none⟩))).run P w = .ok r w := by
  simp [Op.equalIn, run_under hu, run_size hsz, sameAddr, hab]
theorem s_eqPtr {op : BinOp} {t t2 e : TypeId} {n : Nat} {x y : Operand} (ho : o.op = .binOp op t x y t2) (hk : OK K w ρ hp) (hs : Slots K (mask K w ρ) ρ sl a.tmps) (h : c_eqPtr sl hp nid op x y = some out)
    (hu : P.underlying t = some (.pointer e)) (hsz : sizT P e = some (n + 1)) : Does P o a w (Res K w ρ hp nid out) := by
  have hx := evO_rep hs x
  have hy := evO_rep hs y
  unfold c_eqPtr at h
  split at h
  · rename_i r hr
    have key : (kindV 1 (a.eval x) = true ∧ kindV 1 (a.eval y) = true) ∧ (kindV 1 (a.eval x) = true ∧ kindV 1 (a.eval y) = true) ∧ (Op.equal t (a.eval x) (a.eval y)).run P w = .ok r w := by
      unfold ptrEq at hr
      split at hr
      · rename_i i q j p hd1 hd2
        rw [hd1] at hx
        rw [hd2] at hy
        split at hr
        · rename_i hij
          have hij := eq_of_beq hij
          subst hij
          rw [getG_eq] at hr
          have hlive : ∃ b m, own ρ i = .live b m ∧ (q == p) = r := by
            split at hr
            · cases hr
            · cases hr
            · rename_i h3 h4
              cases hh : hp[i]? with
              | none => exact absurd hh h4
              | some z =>
                obtain ⟨b, m, ho⟩ := hp_live hk hh (fun e => h3 (e ▸ hh))
                exact ⟨b, m, ho, Option.some.inj hr⟩
          obtain ⟨b, m, ho1, hqp⟩ := hlive
          simp only [Rep, ho1] at hx hy
          refine ⟨⟨by rw [hx]; rfl, by rw [hy]; rfl⟩, ⟨by rw [hx]; rfl, by rw [hy]; rfl⟩, ?_⟩
          have hab : ((⟨b, q, none⟩ : Addr) == ⟨b, p, none⟩) = r := by
            rw [← hqp]
            by_cases h : q = p
            · subst h; simp
            · have h1 : (q == p) = false := by simpa using h
              rw [h1]
              simp [h]
          rw [hx, hy]
          exact equalIn_ptr (d := 9999) hu hsz hab
        · cases hr
      · unfold nilBoth at hr
        split at hr
        · rename_i p q hp1 hq1
          obtain ⟨kx, hp1⟩ := nilK_some hp1
          obtain ⟨ky, hq1⟩ := nilK_some hq1
          have vx := kindD_V hx kx hp1 hk
          have vy := kindD_V hy ky hq1 hk
          have nx := nilD_b hk hx hp1
          have ny := nilD_b hk hy hq1
          split at hr
          · rename_i hpq
            refine ⟨⟨vx, vy⟩, ⟨vx, vy⟩, ?_⟩
            rw [← Option.some.inj hr, ← nx, ← ny]
            exact equalIn_nil (d := 9999) hu rfl vx vy (by rw [nx, ny]; exact hpq)
          · cases hr
        · cases hr
    obtain ⟨⟨vx, vy⟩, _, he⟩ := key
    obtain ⟨e1, e2⟩ := binOp_eql vx vy he
    split at h
    · obtain rfl := (Option.some.inj h).symm
      exact quiet (v := .bool r) (by simp [execOp, ho, eqGuard_kind vx, e1]) (by simp [Rep])
    · obtain rfl := (Option.some.inj h).symm
      exact quiet (v := .bool (!r)) (by simp [execOp, ho, eqGuard_kind vx, e2]) (by simp [Rep])
    · cases h
  · cases h
theorem strX_run {ex : Bool} {op : BinOp} {t : TypeId} {x y : ByteArray} {p : Option Prop} {r : Value} (hr : strX ex op x y = some (p, r)) (hc : ∀ q, p = some q → q) : (Go.binOp op t (.string x) (.string y)).run P w = .ok r w := by
  have just : justV (strD op x y) = some (p, r) → (Go.binOp op t (.string x) (.string y)).run P w = .ok r w := fun hr => by
    unfold justV at hr
    split at hr
    · rename_i v' hv
      obtain ⟨rfl, rfl⟩ := some_pair hr
      cases op <;> simp [Go.binOp] <;> first | exact strD_run hv | (simp [strD] at hv)
    · cases hr
  unfold strX at hr
  split at hr
  · exact just hr
  · split at hr
    · obtain ⟨rfl, rfl⟩ := some_pair hr
      have h1 := hc _ rfl
      have : strD .add x y = some (.string (catB x y)) := by
        unfold strD
        simp only
        rw [if_neg (by omega)]
      simp [Go.binOp]
      exact strD_run this
    · exact just hr
theorem s_bin {ex kb : Bool} {op : BinOp} {t t2 : TypeId} {x y : Operand} (ho : o.op = .binOp op t x y t2) (hs : Slots K (mask K w ρ) ρ sl a.tmps) (h : c_bin ex sl hp nid kb op x y = some out) (hcond : ∀ p, out.p = some p → p)
    (hu : kb = true → P.underlying t = some .bool) : Does P o a w (Res K w ρ hp nid out) := by
  have hx := evO_rep hs x
  have hy := evO_rep hs y
  unfold c_bin at h
  split at h
  · rename_i u v hu1 hv1
    rw [hu1] at hx
    rw [hv1] at hy
    simp only [Rep] at hx hy
    obtain ⟨hkb, h⟩ : boolOk kb u = true ∧ (match binV ex op u v with | some (p, v) => forceX ex v fun v => some (⟨p, .val v, [], []⟩ : Out) | none => none) = some out := by
      split at h
      · exact ⟨by assumption, h⟩
      · cases h
    split at h
    · rename_i p r hr
      rw [forceX_eq] at h
      obtain rfl := (Option.some.inj h).symm
      have key : (Go.binOp op t u v).run P w = .ok r w ∧ (∀ b, (eqGuard op t x y u v).run P b = .ok () b) := by
        unfold binV at hr
        split at hr
        · exact ⟨int2V_run hr hcond, fun b => by unfold eqGuard; cases op <;> simp⟩
        · exact ⟨strX_run hr hcond, fun b => by unfold eqGuard; cases op <;> simp⟩
        · refine ⟨?_, fun b => by unfold eqGuard; cases op <;> simp⟩
          have hb := hu hkb
          cases op <;> simp only [boV, boolV, reduceCtorEq] at hr
          · obtain ⟨rfl, rfl⟩ := some_pair hr; simp [Go.binOp, equal_bool hb]
          · obtain ⟨rfl, rfl⟩ := some_pair hr; simp [Go.binOp, equal_bool hb]
        · cases hr
      exact quiet (v := r) (by simp [execOp, ho, hx, hy, key.1, key.2]) (by simp [Rep])
    · cases h
  · cases h
end
end Go.Ev
