/-
  Contracts of the functions that the law calls, for every input (Ra).
-/
import Derived.Test.YtlcimajjnfbidaaGreatDoorV00
set_option linter.all false
set_option maxRecDepth 100000
set_option maxHeartbeats 40000000
namespace Rx
def V:Nat:=65536
theorem V_pow:V=2^16:=by decide +kernel
def word (x j:Nat):Nat:=x / V^j%V
def len (x:Nat):Nat:=if x=0 then 0 else x.log2 / 16+1
theorem lt_len (x:Nat):x<V^len x:=by
 unfold len
 split
 · subst x;simp
 · rename_i h
   rw [V_pow,←Nat.pow_mul]
   exact Nat.lt_of_lt_of_le Nat.lt_log2_self (Nat.pow_le_pow_right (by omega) (by omega))
theorem len_le {x n:Nat} (h:x<V^n):len x≤n:=by
 unfold len
 split
 · omega
 · rename_i hx
   rw [V_pow,←Nat.pow_mul] at h
   have:=(Nat.log2_lt hx).2 h
   omega
theorem len_eq_zero {x:Nat}:len x=0↔x=0:=by unfold len;split <;> simp_all
theorem len_pos {x:Nat}:0<len x↔0<x:=by have:=@len_eq_zero x;omega
theorem len_mono {x y:Nat} (h:x≤y):len x≤len y:=len_le (Nat.lt_of_le_of_lt h (lt_len y))
def wl (x k:Nat):List Nat:=(List.range k).map (word x)
end Rx
