import Derived.Test.YtmekepomgofiaaaEvZb
set_option linter.all false
namespace Go.Ev
/-- the end of a function, so that it can be reckoned -/
noncomputable def exitW (raw : Bool) (nid : Nat) (fn : AFun) (R : Out → Prop) (e : Ex) (s : St) : Prop := match exD e with
  | true => match resD s fn.results with
    | some rds => match leave raw nid s rds with
      | some out => R out
      | none => False
    | none => False
  | false => False
theorem exitW_p {raw : Bool} {nid : Nat} {fn : AFun} {R : Out → Prop} {e : Ex} {s : St} (h : exitW raw nid fn R e s) : exitP raw nid fn R e s := by
  unfold exitW at h
  split at h
  · rename_i h1
    split at h
    · rename_i rds h2
      split at h
      · rename_i out h3
        exact ⟨h1, rds, out, h2, h3, h⟩
      · exact h.elim
    · exact h.elim
  · exact h.elim
theorem iteP_intro {b : Bool} {A B : Prop} (h1 : b = true → A) (h2 : b = false → B) : iteP b A B := by
  cases b
  · exact h2 rfl
  · exact h1 rfl
theorem iteP_known {b : Bool} {A : Prop} (t : Bool) (h : b = t) (h' : iteP t A A) : A := by
  cases t <;> exact h'
theorem both {b : Bool} {A : Prop} (h1 : b = true → A) (h2 : b = false → A) : A := by
  cases b
  · exact h2 rfl
  · exact h1 rfl
end Go.Ev
