import Derived.Test.YtmekepomgofiaaaEvC
import Derived.Laws.StructEq
import Derived.Laws.Strings
set_option linter.all false
namespace Go.Ev
theorem bytesOfS_length (s : ByteArray) : (bytesOfS s).length = s.size := rfl
theorem catB_eq (x y : ByteArray) : catB x y = x ++ y := by
  have h : (catB x y).data = (x ++ y).data := by
    rw [ByteArray.data_append]
    apply Array.ext'
    simp [catB, bytesOfS]
  cases hx : x ++ y
  rw [hx] at h
  unfold catB at h ⊢
  simp at h
  rw [← h]
theorem subB_eq (s : ByteArray) (l h : Nat) : subB s l h = s.extract l h := by
  have e : (subB s l h).data = (s.extract l h).data := by
    rw [ByteArray.data_extract]
    apply Array.ext'
    simp [subB, bytesOfS, List.extract_eq_take_drop]
  cases hx : s.extract l h
  rw [hx] at e
  unfold subB at e ⊢
  simp at e
  rw [← e]
theorem bytesOfS_eq (s : ByteArray) : bytesOfS s = s.toList := (ByteArray.toList_eq s).symm
theorem beqS (a b : ByteArray) : (a == b) = (bytesOfS a == bytesOfS b) := by
  rw [bytesOfS_eq, bytesOfS_eq]; exact beq_toListBytes a b
end Go.Ev
