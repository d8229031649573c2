/-
  Contracts of the functions that the law calls, for every input (Ra).
-/
import Derived.Test.YtcicfnlljdnagaaGreatDoorY00
set_option linter.all false
set_option maxRecDepth 100000
set_option maxHeartbeats 40000000
namespace Rx
def V:Nat:=65536
theorem BF':0<V:=by unfold V;omega
theorem Hm':V=2^16:=by decide +kernel
theorem AS' (n:Nat):0<V^n:=Nat.pow_pos BF'
def word (x j:Nat):Nat:=x / V^j%V
theorem word_lt (x j:Nat):word x j<V:=Nat.mod_lt _ BF'
def len (x:Nat):Nat:=if x=0 then 0 else x.log2 / 16+1
theorem AB':len 0=0:=by simp [len]
theorem Am (x:Nat):x<V^len x:=by
 unfold len
 split
 · subst x;simp
 · rename_i h
   rw [Hm',←Nat.pow_mul]
   exact Nat.lt_of_lt_of_le Nat.lt_log2_self (Nat.pow_le_pow_right (by omega) (by omega))
theorem Ax {x n:Nat} (h:x<V^n):len x≤n:=by
 unfold len
 split
 · omega
 · rename_i hx
   rw [Hm',←Nat.pow_mul] at h
   have:=(Nat.log2_lt hx).2 h
   omega
theorem Bp' {x:Nat}:len x=0↔x=0:=by unfold len;split <;> simp_all
theorem Ai' {x:Nat}:0<len x↔0<x:=by have:=@Bp' x;omega
theorem Al' {x y:Nat} (h:x≤y):len x≤len y:=Ax (Nat.lt_of_le_of_lt h (Am y))
theorem Bq:len 1=1:=by decide +kernel
theorem Aw (x y:Nat):len (x*y)≤len x+len y:=by
 rcases Nat.eq_zero_or_pos y with h | h
 · subst h;simp [AB']
 · apply Ax
   rw [Nat.pow_add]
   exact Nat.mul_lt_mul_of_lt_of_le (Am x) (Nat.le_of_lt (Am y)) (AS' _)
theorem Az' (x j:Nat):x%V^(j+1)=x%V^j+V^j*word x j:=by
 unfold word
 rw [Nat.pow_succ,Nat.mod_mul]
theorem AT' {x n:Nat} (h:len x≤n):x%V^n=x :=
 Nat.mod_eq_of_lt (Nat.lt_of_lt_of_le (Am x) (Nat.pow_le_pow_right BF' h))
theorem Cp {x j:Nat} (h:len x≤j):word x j=0:=by
 unfold word
 rw [Nat.div_eq_of_lt (Nat.lt_of_lt_of_le (Am x) (Nat.pow_le_pow_right BF' h))]
 rfl
theorem AU' (x j:Nat):x / V^j=word x j+V*(x / V^(j+1)):=by
 unfold word
 rw [Nat.pow_succ,←Nat.div_div_eq_div_mul]
 exact (Nat.mod_add_div _ _).symm
def wl (x k:Nat):List Nat:=(List.range k).map (word x)
theorem Hx' (x k:Nat):wl x (k+1)=wl x k++[word x k]:=by simp [wl,List.range_succ]
theorem Ih' {x k j:Nat} (h:j<k):(wl x k)[j]?=some (word x j):=by simp [wl,h]
theorem BZ {z k j:Nat} (h:j<k):word (z%V^k) j=word z j:=by
 unfold word
 obtain ⟨d,rfl⟩:∃ d,k=j+(1+d):=⟨k - j - 1,by omega⟩
 rw [Nat.pow_add,Nat.mod_mul_right_div_self,Nat.pow_add,Nat.pow_one,Nat.mod_mul_right_mod]
theorem Cr {z k:Nat} (h:word z k=0):z%V^(k+1)=z%V^k:=by rw [Az',h];simp
theorem CK' {z k:Nat} (h:word z k≠0):len (z%V^(k+1))=k+1:=by
 have h1:=Ax (Nat.mod_lt z (AS' (k+1)))
 rcases Nat.lt_or_ge (len (z%V^(k+1))) (k+1) with h2 | h2
 · have h3:z%V^(k+1)<V^k:=Nat.lt_of_lt_of_le (Am _) (Nat.pow_le_pow_right BF' (by omega))
   rw [Az'] at h3
   have h4:=Nat.lt_of_le_of_lt (Nat.le_add_left _ _) h3
   have:V^k*1≤V^k*word z k:=Nat.mul_le_mul_left _ (by omega)
   omega
 · omega
theorem DO' {s c P t:Nat} (hP:0<P) (h:s / P=c):(s+P*t) / P=c+t∧(s+P*t) / P%V=(c+t)%V∧(s+P*t) / (P*V)=(c+t) / V:=by
 have e:(s+P*t) / P=c+t:=by rw [Nat.add_mul_div_left _ _ hP,h]
 exact ⟨e,by rw [e],by rw [←Nat.div_div_eq_div_mul,e]⟩
theorem Dt' {x y k:Nat} (h:x%V^(k+1)=y%V^(k+1)):word x k=word y k:=by
 rw [←BZ (z:=x) (k:=k+1) (by omega),h,BZ (by omega)]
def dblC (x b k:Nat):Nat:=(2*(x%V^k)+b) / V^k
theorem Gn' (x b:Nat):dblC x b 0=b:=by simp [dblC,Nat.mod_one]
theorem Fm' {x b:Nat} (hb:b≤1) (k:Nat):dblC x b k≤1:=by
 unfold dblC
 have h1:=Nat.mod_lt x (AS' k)
 rw [←Nat.lt_succ_iff,Nat.div_lt_iff_lt_mul (AS' k)]
 omega
theorem Go' (x b k:Nat):word (2*x+b) k=(dblC x b k+2*word x k)%V∧dblC x b (k+1)=(dblC x b k+2*word x k) / V:=by
 have e:2*(x%V^(k+1))+b=(2*(x%V^k)+b)+V^k*(2*word x k):=by rw [Az',Nat.mul_add,Nat.mul_left_comm];omega
 obtain ⟨_,h2,h3⟩:=DO' (s:=2*(x%V^k)+b) (t:=2*word x k) (AS' k) rfl
 constructor
 · have h4:(2*x+b)%V^(k+1)=((2*(x%V^k)+b)+V^k*(2*word x k))%V^(k+1):=by
     rw [←e,Nat.add_mod (2*(x%V^(k+1))),Nat.mul_mod 2 (x%V^(k+1)),Nat.mod_mod,←Nat.mul_mod,←Nat.add_mod]
   rw [Dt' h4]
   exact h2
 · unfold dblC
   rw [e,Nat.pow_succ]
   exact h3
theorem GZ' {x b m:Nat} (hb:b≤1) (hx:len x≤m):word (2*x+b) m=dblC x b m∧2*x+b<V^(m+1):=by
 have e1:=AT' hx
 have h1:=Nat.lt_of_lt_of_le (Am x) (Nat.pow_le_pow_right BF' hx)
 have hlt:2*x+b<V^(m+1):=by
   rw [Nat.pow_succ]
   have:V^m*2≤V^m*V:=Nat.mul_le_mul_left _ (by unfold V;omega)
   omega
 refine ⟨?_,hlt⟩
 have h3:=Fm' (x:=x) hb m
 unfold dblC at h3 ⊢
 rw [e1] at h3 ⊢
 unfold word
 exact Nat.mod_eq_of_lt (Nat.lt_of_le_of_lt h3 (by decide))
def B2' (x y k:Nat):Int:=(((x%V^k:Nat):Int) - ((y%V^k:Nat):Int)) / ((V^k:Nat):Int)
theorem Gp (x y:Nat):B2' x y 0=0:=by simp [B2',Nat.mod_one]
theorem FK' (x y k:Nat) : -1≤B2' x y k∧B2' x y k≤0:=by
 have h1:=Nat.mod_lt x (AS' k)
 have h2:=Nat.mod_lt y (AS' k)
 have hp:=AS' k
 unfold B2'
 generalize x%V^k=a at *
 generalize y%V^k=b at *
 generalize V^k=P at *
 constructor
 · rw [Int.le_ediv_iff_mul_le (by omega)];omega
 · have:((a:Int) - b) / (P:Int)<1:=by rw [Int.ediv_lt_iff_lt_mul (by omega)];omega
   omega
theorem Gp' {x y:Nat} (k:Nat) (h:y≤x):((word (x - y) k:Nat):Int)=(B2' x y k+((word x k:Nat) - (word y k:Nat)))%65536∧B2' x y (k+1)=(B2' x y k+((word x k:Nat) - (word y k:Nat))) / 65536:=by
 have hp:=AS' k
 have hP:((V^k:Nat):Int)≠0:=by omega
 have ex:=Az' x k
 have ey:=Az' y k
 have e:((x%V^(k+1):Nat):Int) - ((y%V^(k+1):Nat):Int)=(((x%V^k:Nat):Int) - ((y%V^k:Nat):Int))+((V^k:Nat):Int)*((word x k:Nat) - (word y k:Nat)):=by
   rw [ex,ey,Int.natCast_add,Int.natCast_add,Int.natCast_mul,Int.natCast_mul,Int.mul_sub];omega
 have hV:(65536:Int)=((V:Nat):Int):=rfl
 have d:(((x%V^(k+1):Nat):Int) - ((y%V^(k+1):Nat):Int)) / ((V^k:Nat):Int)=B2' x y k+((word x k:Nat) - (word y k:Nat)):=by
   rw [e,Int.add_mul_ediv_left _ _ hP];rfl
 constructor
 · rw [←d,hV]
   have m1:=Nat.div_add_mod x (V^(k+1))
   have m2:=Nat.div_add_mod y (V^(k+1))
   obtain ⟨q1,hq1⟩:∃ q,x / V^(k+1)=q:=⟨_,rfl⟩
   obtain ⟨q2,hq2⟩:∃ q,y / V^(k+1)=q:=⟨_,rfl⟩
   rw [hq1] at m1
   rw [hq2] at m2
   have hx:((x - y:Nat):Int)=((V^k:Nat):Int)*(((V:Nat):Int)*((q1:Int) - q2))+(((x%V^(k+1):Nat):Int) - ((y%V^(k+1):Nat):Int)):=by
     rw [Int.natCast_sub h,←Int.mul_assoc,←Int.natCast_mul,←Nat.pow_succ,Int.mul_sub,←Int.natCast_mul,←Int.natCast_mul]
     show _=((V^(k+1)*q1:Nat):Int) - ((V^(k+1)*q2:Nat):Int)+_
     generalize V^(k+1)*q1=a1 at m1 ⊢
     generalize V^(k+1)*q2=a2 at m2 ⊢
     generalize x%V^(k+1)=a3 at m1 ⊢
     generalize y%V^(k+1)=a4 at m2 ⊢
     omega
   unfold word
   rw [Int.natCast_emod,Int.natCast_ediv,hx,Int.mul_comm,Int.add_comm,Int.add_mul_ediv_right _ _ hP,Int.add_mul_emod_self_left]
 · unfold B2'
   rw [Nat.pow_succ,Int.natCast_mul,←Int.ediv_ediv_of_nonneg (by omega),←Nat.pow_succ,d,hV]
   rfl
end Rx
