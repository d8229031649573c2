/-
  Contracts of the functions that the law calls, for every input (Ra).
-/
import Derived.Test.YtflopjfnppolgaaGreatDoorZ00
set_option linter.all false
set_option maxRecDepth 100000
set_option maxHeartbeats 40000000
namespace Rx
def V:Nat:=65536
theorem Bn':0<V:=by unfold V;omega
theorem Ij':V=2^16:=by decide +kernel
theorem AQ' (n:Nat):0<V^n:=Nat.pow_pos Bn'
def word (x j:Nat):Nat:=x / V^j%V
theorem word_lt (x j:Nat):word x j<V:=Nat.mod_lt _ Bn'
def len (x:Nat):Nat:=if x=0 then 0 else x.log2 / 16+1
theorem AG':len 0=0:=by simp [len]
theorem Ao (x:Nat):x<V^len x:=by
 unfold len
 split
 · subst x;simp
 · rename_i h
   rw [Ij',←Nat.pow_mul]
   exact Nat.lt_of_lt_of_le Nat.lt_log2_self (Nat.pow_le_pow_right (by omega) (by omega))
theorem AA {x n:Nat} (h:x<V^n):len x≤n:=by
 unfold len
 split
 · omega
 · rename_i hx
   rw [Ij',←Nat.pow_mul] at h
   have:=(Nat.log2_lt hx).2 h
   omega
theorem BB' {x:Nat}:len x=0↔x=0:=by unfold len;split <;> simp_all
theorem Ak {x:Nat}:0<len x↔0<x:=by have:=@BB' x;omega
theorem Am {x y:Nat} (h:x≤y):len x≤len y:=AA (Nat.lt_of_le_of_lt h (Ao y))
theorem BC:len 1=1:=by decide +kernel
theorem At' (x y:Nat):len (x*y)≤len x+len y:=by
 rcases Nat.eq_zero_or_pos y with h | h
 · subst h;simp [AG']
 · apply AA
   rw [Nat.pow_add]
   exact Nat.mul_lt_mul_of_lt_of_le (Ao x) (Nat.le_of_lt (Ao y)) (AQ' _)
theorem BM (x y:Nat):len (x+y)≤max (len x) (len y)+1:=by
 apply AA
 have h1:=Nat.lt_of_lt_of_le (Ao x) (Nat.pow_le_pow_right Bn' (Nat.le_max_left (len x) (len y)))
 have h2:=Nat.lt_of_lt_of_le (Ao y) (Nat.pow_le_pow_right Bn' (Nat.le_max_right (len x) (len y)))
 rw [Nat.pow_succ]
 have h3:V^max (len x) (len y)*2≤V^max (len x) (len y)*V:=Nat.mul_le_mul_left _ (by unfold V;omega)
 omega
theorem AB (x j:Nat):x%V^(j+1)=x%V^j+V^j*word x j:=by
 unfold word
 rw [Nat.pow_succ,Nat.mod_mul]
theorem AY' {x n:Nat} (h:len x≤n):x%V^n=x :=
 Nat.mod_eq_of_lt (Nat.lt_of_lt_of_le (Ao x) (Nat.pow_le_pow_right Bn' h))
theorem Cv' {x j:Nat} (h:len x≤j):word x j=0:=by
 unfold word
 rw [Nat.div_eq_of_lt (Nat.lt_of_lt_of_le (Ao x) (Nat.pow_le_pow_right Bn' h))]
 rfl
theorem Ba (x j:Nat):x / V^j=word x j+V*(x / V^(j+1)):=by
 unfold word
 rw [Nat.pow_succ,←Nat.div_div_eq_div_mul]
 exact (Nat.mod_add_div _ _).symm
def wl (x k:Nat):List Nat:=(List.range k).map (word x)
theorem It' (x k:Nat):wl x (k+1)=wl x k++[word x k]:=by simp [wl,List.range_succ]
theorem IT {x k j:Nat} (h:j<k):(wl x k)[j]?=some (word x j):=by simp [wl,h]
theorem Cb {z k j:Nat} (h:j<k):word (z%V^k) j=word z j:=by
 unfold word
 obtain ⟨d,rfl⟩:∃ d,k=j+(1+d):=⟨k - j - 1,by omega⟩
 rw [Nat.pow_add,Nat.mod_mul_right_div_self,Nat.pow_add,Nat.pow_one,Nat.mod_mul_right_mod]
theorem Cx' {z k:Nat} (h:word z k=0):z%V^(k+1)=z%V^k:=by rw [AB,h];simp
theorem CQ' {z k:Nat} (h:word z k≠0):len (z%V^(k+1))=k+1:=by
 have h1:=AA (Nat.mod_lt z (AQ' (k+1)))
 rcases Nat.lt_or_ge (len (z%V^(k+1))) (k+1) with h2 | h2
 · have h3:z%V^(k+1)<V^k:=Nat.lt_of_lt_of_le (Ao _) (Nat.pow_le_pow_right Bn' (by omega))
   rw [AB] at h3
   have h4:=Nat.lt_of_le_of_lt (Nat.le_add_left _ _) h3
   have:V^k*1≤V^k*word z k:=Nat.mul_le_mul_left _ (by omega)
   omega
 · omega
theorem CW' {s c P t:Nat} (hP:0<P) (h:s / P=c):(s+P*t) / P=c+t∧(s+P*t) / P%V=(c+t)%V∧(s+P*t) / (P*V)=(c+t) / V:=by
 have e:(s+P*t) / P=c+t:=by rw [Nat.add_mul_div_left _ _ hP,h]
 exact ⟨e,by rw [e],by rw [←Nat.div_div_eq_div_mul,e]⟩
def addC (x y k:Nat):Nat:=(x%V^k+y%V^k) / V^k
theorem GV' (x y:Nat):addC x y 0=0:=by simp [addC,Nat.mod_one]
theorem FM' (x y k:Nat):addC x y k≤1:=by
 unfold addC
 have h1:=Nat.mod_lt x (AQ' k)
 have h2:=Nat.mod_lt y (AQ' k)
 rw [←Nat.lt_succ_iff,Nat.div_lt_iff_lt_mul (AQ' k)]
 omega
theorem CJ {x y k:Nat} (h:x%V^(k+1)=y%V^(k+1)):word x k=word y k:=by
 rw [←Cb (z:=x) (k:=k+1) (by omega),h,Cb (by omega)]
theorem GW (x y k:Nat):word (x+y) k=(addC x y k+(word x k+word y k))%V∧addC x y (k+1)=(addC x y k+(word x k+word y k)) / V:=by
 have e:x%V^(k+1)+y%V^(k+1)=(x%V^k+y%V^k)+V^k*(word x k+word y k):=by rw [AB,AB,Nat.mul_add];omega
 obtain ⟨_,h2,h3⟩:=CW' (s:=x%V^k+y%V^k) (t:=word x k+word y k) (AQ' k) rfl
 constructor
 · have h4:(x+y)%V^(k+1)=((x%V^k+y%V^k)+V^k*(word x k+word y k))%V^(k+1):=by rw [←e,←Nat.add_mod]
   rw [CJ h4]
   exact h2
 · unfold addC
   rw [e,Nat.pow_succ]
   exact h3
theorem HL' {x y m:Nat} (hx:len x≤m) (hy:len y≤m):word (x+y) m=addC x y m∧x+y<V^(m+1):=by
 have e1:=AY' hx
 have e2:=AY' hy
 have h1:=Nat.lt_of_lt_of_le (Ao x) (Nat.pow_le_pow_right Bn' hx)
 have h2:=Nat.lt_of_lt_of_le (Ao y) (Nat.pow_le_pow_right Bn' hy)
 have hlt:x+y<V^(m+1):=by
   rw [Nat.pow_succ]
   have:V^m*2≤V^m*V:=Nat.mul_le_mul_left _ (by unfold V;omega)
   omega
 refine ⟨?_,hlt⟩
 have h3:=FM' x y m
 unfold addC at h3 ⊢
 rw [e1,e2] at h3 ⊢
 unfold word
 exact Nat.mod_eq_of_lt (Nat.lt_of_le_of_lt h3 (by decide))
def dblC (x b k:Nat):Nat:=(2*(x%V^k)+b) / V^k
theorem GW' (x b:Nat):dblC x b 0=b:=by simp [dblC,Nat.mod_one]
theorem FN {x b:Nat} (hb:b≤1) (k:Nat):dblC x b k≤1:=by
 unfold dblC
 have h1:=Nat.mod_lt x (AQ' k)
 rw [←Nat.lt_succ_iff,Nat.div_lt_iff_lt_mul (AQ' k)]
 omega
theorem GX (x b k:Nat):word (2*x+b) k=(dblC x b k+2*word x k)%V∧dblC x b (k+1)=(dblC x b k+2*word x k) / V:=by
 have e:2*(x%V^(k+1))+b=(2*(x%V^k)+b)+V^k*(2*word x k):=by rw [AB,Nat.mul_add,Nat.mul_left_comm];omega
 obtain ⟨_,h2,h3⟩:=CW' (s:=2*(x%V^k)+b) (t:=2*word x k) (AQ' k) rfl
 constructor
 · have h4:(2*x+b)%V^(k+1)=((2*(x%V^k)+b)+V^k*(2*word x k))%V^(k+1):=by
     rw [←e,Nat.add_mod (2*(x%V^(k+1))),Nat.mul_mod 2 (x%V^(k+1)),Nat.mod_mod,←Nat.mul_mod,←Nat.add_mod]
   rw [CJ h4]
   exact h2
 · unfold dblC
   rw [e,Nat.pow_succ]
   exact h3
theorem HM' {x b m:Nat} (hb:b≤1) (hx:len x≤m):word (2*x+b) m=dblC x b m∧2*x+b<V^(m+1):=by
 have e1:=AY' hx
 have h1:=Nat.lt_of_lt_of_le (Ao x) (Nat.pow_le_pow_right Bn' hx)
 have hlt:2*x+b<V^(m+1):=by
   rw [Nat.pow_succ]
   have:V^m*2≤V^m*V:=Nat.mul_le_mul_left _ (by unfold V;omega)
   omega
 refine ⟨?_,hlt⟩
 have h3:=FN (x:=x) hb m
 unfold dblC at h3 ⊢
 rw [e1] at h3 ⊢
 unfold word
 exact Nat.mod_eq_of_lt (Nat.lt_of_le_of_lt h3 (by decide))
def Cd (x y k:Nat):Int:=(((x%V^k:Nat):Int) - ((y%V^k:Nat):Int)) / ((V^k:Nat):Int)
theorem GX' (x y:Nat):Cd x y 0=0:=by simp [Cd,Nat.mod_one]
theorem Gh' (x y k:Nat) : -1≤Cd x y k∧Cd x y k≤0:=by
 have h1:=Nat.mod_lt x (AQ' k)
 have h2:=Nat.mod_lt y (AQ' k)
 have hp:=AQ' k
 unfold Cd
 generalize x%V^k=a at *
 generalize y%V^k=b at *
 generalize V^k=P at *
 constructor
 · rw [Int.le_ediv_iff_mul_le (by omega)];omega
 · have:((a:Int) - b) / (P:Int)<1:=by rw [Int.ediv_lt_iff_lt_mul (by omega)];omega
   omega
theorem GY {x y:Nat} (k:Nat) (h:y≤x):((word (x - y) k:Nat):Int)=(Cd x y k+((word x k:Nat) - (word y k:Nat)))%65536∧Cd x y (k+1)=(Cd x y k+((word x k:Nat) - (word y k:Nat))) / 65536:=by
 have hp:=AQ' k
 have hP:((V^k:Nat):Int)≠0:=by omega
 have ex:=AB x k
 have ey:=AB y k
 have e:((x%V^(k+1):Nat):Int) - ((y%V^(k+1):Nat):Int)=(((x%V^k:Nat):Int) - ((y%V^k:Nat):Int))+((V^k:Nat):Int)*((word x k:Nat) - (word y k:Nat)):=by
   rw [ex,ey,Int.natCast_add,Int.natCast_add,Int.natCast_mul,Int.natCast_mul,Int.mul_sub];omega
 have hV:(65536:Int)=((V:Nat):Int):=rfl
 have d:(((x%V^(k+1):Nat):Int) - ((y%V^(k+1):Nat):Int)) / ((V^k:Nat):Int)=Cd x y k+((word x k:Nat) - (word y k:Nat)):=by
   rw [e,Int.add_mul_ediv_left _ _ hP];rfl
 constructor
 · rw [←d,hV]
   have m1:=Nat.div_add_mod x (V^(k+1))
   have m2:=Nat.div_add_mod y (V^(k+1))
   obtain ⟨q1,hq1⟩:∃ q,x / V^(k+1)=q:=⟨_,rfl⟩
   obtain ⟨q2,hq2⟩:∃ q,y / V^(k+1)=q:=⟨_,rfl⟩
   rw [hq1] at m1
   rw [hq2] at m2
   have hx:((x - y:Nat):Int)=((V^k:Nat):Int)*(((V:Nat):Int)*((q1:Int) - q2))+(((x%V^(k+1):Nat):Int) - ((y%V^(k+1):Nat):Int)):=by
     rw [Int.natCast_sub h,←Int.mul_assoc,←Int.natCast_mul,←Nat.pow_succ,Int.mul_sub,←Int.natCast_mul,←Int.natCast_mul]
     show _=((V^(k+1)*q1:Nat):Int) - ((V^(k+1)*q2:Nat):Int)+_
     generalize V^(k+1)*q1=a1 at m1 ⊢
     generalize V^(k+1)*q2=a2 at m2 ⊢
     generalize x%V^(k+1)=a3 at m1 ⊢
     generalize y%V^(k+1)=a4 at m2 ⊢
     omega
   unfold word
   rw [Int.natCast_emod,Int.natCast_ediv,hx,Int.mul_comm,Int.add_comm,Int.add_mul_ediv_right _ _ hP,Int.add_mul_emod_self_left]
 · unfold Cd
   rw [Nat.pow_succ,Int.natCast_mul,←Int.ediv_ediv_of_nonneg (by omega),←Nat.pow_succ,d,hV]
   rfl
end Rx
