import Derived.Test.YtmekepomgofiaaaEvU
set_option linter.all false
namespace Go.Ev
/-! reckoned with numbers alone, no condition is left -/
def ClTrue (cl : FuncId → List D → List Blk → Nat → Option Out) : Prop := ∀ f ds hp nid out, cl f ds hp nid = some out → ∀ p, out.p = some p → p
section
variable {cl : FuncId → List D → List Blk → Nat → Option Out} {sl : List D} {hp : List Blk} {nid : Nat} {out : Out}
theorem binV_none {op : BinOp} {a b : Value} {p : Option Prop} {v : Value} (h : binV false op a b = some (p, v)) : p = none := by
  unfold binV at h
  split at h
  · unfold int2V at h
    split at h
    · cases op <;> simp only [intV, intF, wrapV, quoV, remV, boolV, bitsV, justV] at h <;> first
        | (exact (some_pair h).1.symm)
        | (split at h <;> first | (exact (some_pair h).1.symm) | cases h)
    · cases h
  · unfold strX justV at h
    simp only at h
    split at h
    · exact (some_pair h).1.symm
    · cases h
  · unfold boV boolV at h
    split at h <;> first | (exact (some_pair h).1.symm) | cases h
  · cases h
theorem appendTo_none {k n m : Nat} {a b : List D} {d : D} (h : appendTo hp nid k n m a b d = some out) : out.p = none := by
  unfold appendTo ok at h
  repeat' split at h
  all_goals first | (cases h; rfl) | cases h
theorem core_true (hcl : ClTrue cl) {ao : AOp} (h : core false cl sl hp nid ao = some out) : ∀ p, out.p = some p → p := by
  have no : out.p = none → ∀ p, out.p = some p → p := fun e p hp => by rw [e] at hp; cases hp
  cases ao <;> simp only [core, coreF] at h
  case bin kb op x y =>
    refine no ?_
    unfold c_bin at h
    split at h
    · split at h
      · split at h
        · rename_i p v hv
          rw [forceX_eq] at h
          obtain rfl := (Option.some.inj h).symm
          exact binV_none hv
        · cases h
      · cases h
    · cases h
  case call f l => exact hcl _ _ _ _ _ h
  case callv x l =>
    unfold c_callv at h
    split at h
    · exact hcl _ _ _ _ _ h
    · cases h
  case append k x y =>
    refine no ?_
    unfold c_append at h
    split at h
    · split at h
      · exact appendTo_none h
      · cases h
    · cases h
  case appS x y =>
    refine no ?_
    unfold c_appS at h
    split at h
    · split at h
      · exact appendTo_none h
      · cases h
    · cases h
  case mlook kd z ok' m k =>
    refine no ?_
    unfold c_mlook lookM lookR ok at h
    repeat' split at h
    all_goals first | contradiction | (cases h; rfl) | cases h
  case mlookS kd z ok' m k =>
    refine no ?_
    unfold c_mlookS lookR ok at h
    repeat' split at h
    all_goals first | contradiction | (cases h; rfl) | cases h
  case s2b x =>
    refine no ?_
    unfold c_s2b ok at h
    split at h
    · split at h
      · cases h; rfl
      · rw [forceL_eq] at h; cases h; rfl
    · cases h
  all_goals
    refine no ?_
    first | (unfold c_eqPtr at h) | (guard_hyp h : ok (D.emp true) = some out) | unfold c_aidx at h | unfold c_aidx at h | unfold c_sidx at h | unfold c_sslice at h | unfold c_b2s at h | unfold c_copS at h | unfold c_mkMap at h | unfold c_mput at h | unfold c_mputS at h | unfold c_mlen at h | unfold c_ixb at h | unfold c_mkI at h | unfold c_mov at h | unfold c_pick at h | unfold c_zero at h | unfold c_box at h | unfold c_build at h | unfold c_bslice at h | unfold c_load at h | unfold c_store at h | unfold c_nilCheck at h | unfold c_eqNil at h | unfold c_eqAgg at h | unfold c_un at h | unfold c_convInt at h | unfold c_convStr at h | unfold c_mkFn at h | unfold c_mkSlice at h | unfold c_slice at h | unfold c_faddr at h | unfold c_field at h | unfold c_iaddr at h | unfold c_extract at h | unfold c_len at h | unfold c_copy at h | unfold c_clear at h | unfold c_minmax at h
    try unfold ok at h
    repeat' split at h
    all_goals first | contradiction | (cases h; rfl) | cases h
theorem stps_true (hcl : ClTrue cl) {n0 : Nat} : ∀ (l : List AOper) (s s' : St), stps false cl n0 l s = some s' → s.p → s'.p
  | [], s, s', h, hp => by rw [stps_nil] at h; cases h; exact hp
  | o :: l, s, s', h, hp => by
    rw [stps_cons] at h
    split at h
    · rename_i s1 h1
      refine stps_true hcl l s1 s' h ?_
      rcases stp_cases h1 with ⟨_, out, ho, _, rfl⟩ | ⟨_, rfl⟩
      · have := core_true hcl ho
        dsimp only
        cases hq : out.p with
        | none => exact hp
        | some q => exact ⟨hp, this q hq⟩
      · exact hp
    · cases h
theorem leave_p {raw : Bool} {s : St} {ds : List D} (h : leave raw nid s ds = some out) : out.p = none := by
  unfold leave at h
  split at h
  · rw [← Option.some.inj h]
  · split at h
    · split at h
      · split at h
        · rw [← Option.some.inj h]
        · cases h
      · cases h
    · split at h
      · rw [← Option.some.inj h]
      · cases h
theorem plainO_some {r : Option Out} (h : plainO r = some out) : r = some out ∧ out.p = none := by
  unfold plainO at h
  split at h
  · rw [← Option.some.inj h]; exact ⟨rfl, rfl⟩
  · cases h
theorem callF_cases {F : FuncId → Option AFun} {raw : Raw} {n f : Nat} {ds : List D} (h : callF F raw (n + 1) f ds hp nid = some out) :
    (F f = none ∧ raw.tab f ds hp nid = some out ∧ out.p = none) ∨ ∃ fn e s rs, F f = some fn ∧ runC F raw n fn.body ⟨True, ds ++ List.replicate (fn.ntmps - ds.length) undefD, hp, hp.length, []⟩ = some (e, s) ∧ exD e = true ∧ resD s fn.results = some rs ∧ leave (raw f) nid s rs = some out := by
  simp only [callF] at h
  split at h
  · rename_i hF
    exact .inl ⟨hF, plainO_some h⟩
  · refine .inr ?_
    rename_i fn hfn
    unfold startC at h
    simp only [appK_eq, forceN_eq] at h
    unfold endC at h
    split at h
    · rename_i e s he
      split at h
      · rename_i hex
        split at h
        · rename_i rs hr
          exact ⟨fn, e, s, rs, hfn, he, hex, hr, h⟩
        · cases h
      · cases h
    · cases h
theorem callF_true {F : FuncId → Option AFun} {raw : Raw} : ∀ n, ClTrue (callF F raw n) := by
  intro n f ds hp nid out h p hp
  cases n with
  | zero => simp [callF] at h
  | succ n =>
    rcases callF_cases h with ⟨_, _, h3⟩ | ⟨fn, e, s, rs, _, _, _, _, hl⟩
    · rw [h3] at hp
      cases hp
    · rw [leave_p hl] at hp
      cases hp
theorem runC_true {F : FuncId → Option AFun} {raw : Raw} : ∀ (m : Nat) (c : ACode) (s s' : St) (e : Ex), runC F raw m c s = some (e, s') → s.p → s'.p
  | 0, c, s, s', e, h, _ => by simp [runC] at h
  | m + 1, c, s, s', e, h, hp => by
    cases c <;> simp only [runC, stepC] at h
    case skip => obtain ⟨_, rfl⟩ := some_pair h; exact hp
    case region ops k =>
      obtain ⟨h1, _⟩ := someC_cases h
      unfold reg at h1
      simp only [growS_eq, forceN_eq, lenG_eq] at h1
      exact stps_true (callF_true m) _ _ _ h1 hp
    case seq x y =>
      rcases thenC_cases h with ⟨s1, h1, h2⟩ | ⟨_, h1⟩
      · exact runC_true m y s1 s' e h2 (runC_true m x s s1 _ h1 hp)
      · exact runC_true m x s s' e h1 hp
    case cond c x y =>
      obtain ⟨t, _, h1⟩ := testC_cases h
      cases t
      · exact runC_true m y s s' e h1 hp
      · exact runC_true m x s s' e h1 hp
    case block i b =>
      rcases outC_cases h with ⟨h1, _⟩ | ⟨j, _, h1, _⟩ | ⟨h1, _⟩
      · exact runC_true m b s _ _ h1 hp
      · exact runC_true m b s _ _ h1 hp
      · exact runC_true m b s _ _ h1 hp
    case loop b =>
      rcases thenC_cases h with ⟨s1, h1, h2⟩ | ⟨_, h1⟩
      · exact runC_true m (.loop b) s1 s' e h2 (runC_true m b s s1 _ h1 hp)
      · exact runC_true m b s s' e h1 hp
    case exit i => obtain ⟨_, rfl⟩ := some_pair h; exact hp
    case ret => obtain ⟨_, rfl⟩ := some_pair h; exact hp
end
end Go.Ev
