/-
  Contracts of the functions that the law calls, for every input (Ra).
-/
import Derived.Test.YtlcimajjnfbidaaGreatDoorE00
set_option linter.all false
set_option maxRecDepth 100000
set_option maxHeartbeats 40000000
namespace Rx
def V:Nat:=65536
theorem V_eq:V=65536:=rfl
theorem V_pos:0<V:=by unfold V;omega
theorem V_pow:V=2^16:=by decide +kernel
theorem Vn_pos (n:Nat):0<V^n:=Nat.pow_pos V_pos
def word (x j:Nat):Nat:=x / V^j%V
theorem word_lt (x j:Nat):word x j<V:=Nat.mod_lt _ V_pos
def len (x:Nat):Nat:=if x=0 then 0 else x.log2 / 16+1
theorem len_zero:len 0=0:=by simp [len]
theorem lt_len (x:Nat):x<V^len x:=by
 unfold len
 split
 · subst x;simp
 · rename_i h
   rw [V_pow,←Nat.pow_mul]
   exact Nat.lt_of_lt_of_le Nat.lt_log2_self (Nat.pow_le_pow_right (by omega) (by omega))
theorem len_le {x n:Nat} (h:x<V^n):len x≤n:=by
 unfold len
 split
 · omega
 · rename_i hx
   rw [V_pow,←Nat.pow_mul] at h
   have:=(Nat.log2_lt hx).2 h
   omega
theorem len_eq_zero {x:Nat}:len x=0↔x=0:=by unfold len;split <;> simp_all
theorem len_pos {x:Nat}:0<len x↔0<x:=by have:=@len_eq_zero x;omega
theorem len_lb {x n:Nat} (h:n<len x):V^n≤x:=by
 rcases Nat.lt_or_ge x (V^n) with h1 | h1
 · have:=len_le h1;omega
 · exact h1
theorem len_mono {x y:Nat} (h:x≤y):len x≤len y:=len_le (Nat.lt_of_le_of_lt h (lt_len y))
theorem len_lt_of {x y:Nat} (h:len x<len y):x<y:=by
 rcases Nat.lt_or_ge x y with h1 | h1
 · exact h1
 · have:=len_mono h1;omega
theorem len_one:len 1=1:=by decide +kernel
theorem len_of_lt {x:Nat} (h0:0<x) (h:x<V):len x=1:=by
 have:=len_le (x:=x) (n:=1) (by simpa using h)
 have:=(@len_pos x).2 h0
 omega
theorem len_mul_le (x y:Nat):len (x*y)≤len x+len y:=by
 rcases Nat.eq_zero_or_pos y with h | h
 · subst h;simp [len_zero]
 · apply len_le
   rw [Nat.pow_add]
   exact Nat.mul_lt_mul_of_lt_of_le (lt_len x) (Nat.le_of_lt (lt_len y)) (Vn_pos _)
theorem len_add_le (x y:Nat):len (x+y)≤max (len x) (len y)+1:=by
 apply len_le
 have h1:=Nat.lt_of_lt_of_le (lt_len x) (Nat.pow_le_pow_right V_pos (Nat.le_max_left (len x) (len y)))
 have h2:=Nat.lt_of_lt_of_le (lt_len y) (Nat.pow_le_pow_right V_pos (Nat.le_max_right (len x) (len y)))
 rw [Nat.pow_succ]
 have h3:V^max (len x) (len y)*2≤V^max (len x) (len y)*V:=Nat.mul_le_mul_left _ (by unfold V;omega)
 omega
theorem mod_step (x j:Nat):x%V^(j+1)=x%V^j+V^j*word x j:=by
 unfold word
 rw [Nat.pow_succ,Nat.mod_mul]
theorem mod_len {x n:Nat} (h:len x≤n):x%V^n=x :=
 Nat.mod_eq_of_lt (Nat.lt_of_lt_of_le (lt_len x) (Nat.pow_le_pow_right V_pos h))
theorem word_ge {x j:Nat} (h:len x≤j):word x j=0:=by
 unfold word
 rw [Nat.div_eq_of_lt (Nat.lt_of_lt_of_le (lt_len x) (Nat.pow_le_pow_right V_pos h))]
 rfl
theorem div_step (x j:Nat):x / V^j=word x j+V*(x / V^(j+1)):=by
 unfold word
 rw [Nat.pow_succ,←Nat.div_div_eq_div_mul]
 exact (Nat.mod_add_div _ _).symm
theorem word_top {x:Nat} (h:0<x):word x (len x - 1)=x / V^(len x - 1)∧0<word x (len x - 1):=by
 have hl:=(@len_pos x).2 h
 have h1:x / V^(len x - 1)<V:=by
   rw [Nat.div_lt_iff_lt_mul (Vn_pos _),←Nat.pow_succ']
   have:=lt_len x
   rwa [show (len x - 1).succ=len x by omega]
 have h2:0<x / V^(len x - 1):=Nat.div_pos (len_lb (by omega)) (Vn_pos _)
 unfold word
 rw [Nat.mod_eq_of_lt h1]
 exact ⟨rfl,h2⟩
def seg (cs:List Nat) (o:Nat):Nat→Nat
  | 0=>0
  | n+1=>seg cs o n+V^n*cs.getD (o+n) 0
theorem seg_lt {cs:List Nat} (h:∀ d∈cs,d<V) (o n:Nat):seg cs o n<V^n:=by
 induction n with
 | zero=>simp [seg]
 | succ n ih =>
   unfold seg
   have hd:cs.getD (o+n) 0<V:=by
     rw [List.getD_eq_getElem?_getD]
     cases hg:cs[o+n]? with
     | none=>simpa using V_pos
     | some d=>simpa using h d (List.mem_of_getElem? hg)
   have:V^n*(cs.getD (o+n) 0+1)≤V^n*V:=Nat.mul_le_mul_left _ hd
   rw [Nat.mul_add,Nat.mul_one] at this
   rw [Nat.pow_succ]
   omega
theorem seg_congr {cs ds:List Nat} {o p n:Nat} (h:∀ j,j<n→cs.getD (o+j) 0=ds.getD (p+j) 0):seg cs o n=seg ds p n:=by
 induction n with
 | zero=>rfl
 | succ n ih=>unfold seg;rw [ih (fun j hj=>h j (by omega)),h n (by omega)]
theorem getD_set (cs:List Nat) (i j v:Nat):(cs.set i v).getD j 0=if i=j∧i<cs.length then v else cs.getD j 0:=by
 simp only [List.getD_eq_getElem?_getD,List.getElem?_set]
 split
 · rename_i h;subst h
   split
   · simp [*]
   · rename_i h2;simp [h2]
 · rename_i h;simp [h]
theorem seg_set_out {cs:List Nat} {o n i v:Nat} (h:i<o∨o+n≤i):seg (cs.set i v) o n=seg cs o n :=
 seg_congr fun j hj=>by rw [getD_set,if_neg (by omega)]
theorem seg_set {cs:List Nat} {o n i v:Nat} (hi:i<n) (hl:o+n≤cs.length) :
   seg (cs.set (o+i) v) o n+V^i*cs.getD (o+i) 0=seg cs o n+V^i*v:=by
 induction n with
 | zero=>omega
 | succ n ih =>
   unfold seg
   rcases Nat.lt_or_ge i n with h | h
   · have:=ih h (by omega)
     rw [getD_set,if_neg (by omega)]
     omega
   · obtain rfl:i=n:=by omega
     rw [seg_set_out (by omega),getD_set,if_pos (by omega)]
     omega
theorem seg_split (cs:List Nat) (o m n:Nat):seg cs o (m+n)=seg cs o m+V^m*seg cs (o+m) n:=by
 induction n with
 | zero=>simp [seg]
 | succ n ih =>
   show seg cs o (m+n)+V^(m+n)*cs.getD (o+(m+n)) 0=seg cs o m+V^m*(seg cs (o+m) n+V^n*cs.getD (o+m+n) 0)
   rw [ih,Nat.pow_add,Nat.mul_add,Nat.add_assoc,Nat.mul_assoc,Nat.add_assoc o m n]
theorem seg_word {cs:List Nat} (h:∀ d∈cs,d<V) {o n j:Nat} (hj:j<n):word (seg cs o n) j=cs.getD (o+j) 0:=by
 obtain ⟨k,rfl⟩:∃ k,n=j+(1+k):=⟨n - j - 1,by omega⟩
 rw [seg_split]
 unfold word
 rw [Nat.add_mul_div_left _ _ (Vn_pos j),Nat.div_eq_of_lt (seg_lt h o j),Nat.zero_add,seg_split]
 have h1:seg cs (o+j) 1=cs.getD (o+j) 0:=by simp [seg]
 have h2:=seg_lt h (o+j) 1
 rw [h1] at h2 ⊢
 rw [Nat.pow_one,Nat.add_mul_mod_self_left]
 exact Nat.mod_eq_of_lt (by simpa using h2)
theorem seg_words {cs:List Nat} {x o n:Nat} (h:∀ j,j<n→cs.getD (o+j) 0=word x j):seg cs o n=x%V^n:=by
 induction n with
 | zero=>simp [seg,Nat.mod_one]
 | succ n ih=>unfold seg;rw [ih (fun j hj=>h j (by omega)),h n (by omega),mod_step]
theorem seg_zero {cs:List Nat} {o n:Nat} (h:∀ j,j<n→cs.getD (o+j) 0=0):seg cs o n=0:=by
 induction n with
 | zero=>rfl
 | succ n ih=>unfold seg;rw [ih (fun j hj=>h j (by omega)),h n (by omega)];simp
theorem len_seg {cs:List Nat} (h:∀ d∈cs,d<V) {o n:Nat} (hn:0<n) (ht:cs.getD (o+(n - 1)) 0≠0):len (seg cs o n)=n:=by
 have h1:=len_le (seg_lt h o n)
 rcases Nat.lt_or_ge (len (seg cs o n)) n with h2 | h2
 · have h3:=word_ge (x:=seg cs o n) (j:=n - 1) (by omega)
   rw [seg_word h (by omega)] at h3
   exact absurd h3 ht
 · omega
def wl (x k:Nat):List Nat:=(List.range k).map (word x)
theorem wl_len (x k:Nat):(wl x k).length=k:=by simp [wl]
theorem wl_succ (x k:Nat):wl x (k+1)=wl x k++[word x k]:=by simp [wl,List.range_succ]
theorem wl_get {x k j:Nat} (h:j<k):(wl x k)[j]?=some (word x j):=by simp [wl,h]
theorem wl_congr {x y k:Nat} (h:∀ j,j<k→word x j=word y j):wl x k=wl y k:=by
 unfold wl
 apply List.map_congr_left
 intro j hj
 exact h j (List.mem_range.1 hj)
theorem word_mod {z k j:Nat} (h:j<k):word (z%V^k) j=word z j:=by
 unfold word
 obtain ⟨d,rfl⟩:∃ d,k=j+(1+d):=⟨k - j - 1,by omega⟩
 rw [Nat.pow_add,Nat.mod_mul_right_div_self,Nat.pow_add,Nat.pow_one,Nat.mod_mul_right_mod]
theorem mod_top_zero {z k:Nat} (h:word z k=0):z%V^(k+1)=z%V^k:=by rw [mod_step,h];simp
theorem len_mod_of {z k:Nat} (h:word z k≠0):len (z%V^(k+1))=k+1:=by
 have h1:=len_le (Nat.mod_lt z (Vn_pos (k+1)))
 rcases Nat.lt_or_ge (len (z%V^(k+1))) (k+1) with h2 | h2
 · have h3:z%V^(k+1)<V^k:=Nat.lt_of_lt_of_le (lt_len _) (Nat.pow_le_pow_right V_pos (by omega))
   rw [mod_step] at h3
   have h4:=Nat.lt_of_le_of_lt (Nat.le_add_left _ _) h3
   have:V^k*1≤V^k*word z k:=Nat.mul_le_mul_left _ (by omega)
   omega
 · omega
theorem carry_step {s c P t:Nat} (hP:0<P) (h:s / P=c):(s+P*t) / P=c+t∧(s+P*t) / P%V=(c+t)%V∧(s+P*t) / (P*V)=(c+t) / V:=by
 have e:(s+P*t) / P=c+t:=by rw [Nat.add_mul_div_left _ _ hP,h]
 exact ⟨e,by rw [e],by rw [←Nat.div_div_eq_div_mul,e]⟩
def addC (x y k:Nat):Nat:=(x%V^k+y%V^k) / V^k
theorem addC_zero (x y:Nat):addC x y 0=0:=by simp [addC,Nat.mod_one]
theorem addC_le (x y k:Nat):addC x y k≤1:=by
 unfold addC
 have h1:=Nat.mod_lt x (Vn_pos k)
 have h2:=Nat.mod_lt y (Vn_pos k)
 rw [←Nat.lt_succ_iff,Nat.div_lt_iff_lt_mul (Vn_pos k)]
 omega
theorem word_of_mod {x y k:Nat} (h:x%V^(k+1)=y%V^(k+1)):word x k=word y k:=by
 rw [←word_mod (z:=x) (k:=k+1) (by omega),h,word_mod (by omega)]
theorem addC_step (x y k:Nat):word (x+y) k=(addC x y k+(word x k+word y k))%V∧addC x y (k+1)=(addC x y k+(word x k+word y k)) / V:=by
 have e:x%V^(k+1)+y%V^(k+1)=(x%V^k+y%V^k)+V^k*(word x k+word y k):=by rw [mod_step,mod_step,Nat.mul_add];omega
 obtain ⟨_,h2,h3⟩:=carry_step (s:=x%V^k+y%V^k) (t:=word x k+word y k) (Vn_pos k) rfl
 constructor
 · have h4:(x+y)%V^(k+1)=((x%V^k+y%V^k)+V^k*(word x k+word y k))%V^(k+1):=by rw [←e,←Nat.add_mod]
   rw [word_of_mod h4]
   exact h2
 · unfold addC
   rw [e,Nat.pow_succ]
   exact h3
theorem addC_end {x y m:Nat} (hx:len x≤m) (hy:len y≤m):word (x+y) m=addC x y m∧x+y<V^(m+1):=by
 have e1:=mod_len hx
 have e2:=mod_len hy
 have h1:=Nat.lt_of_lt_of_le (lt_len x) (Nat.pow_le_pow_right V_pos hx)
 have h2:=Nat.lt_of_lt_of_le (lt_len y) (Nat.pow_le_pow_right V_pos hy)
 have hlt:x+y<V^(m+1):=by
   rw [Nat.pow_succ]
   have:V^m*2≤V^m*V:=Nat.mul_le_mul_left _ (by unfold V;omega)
   omega
 refine ⟨?_,hlt⟩
 have h3:=addC_le x y m
 unfold addC at h3 ⊢
 rw [e1,e2] at h3 ⊢
 unfold word
 exact Nat.mod_eq_of_lt (Nat.lt_of_le_of_lt h3 (by decide))
def dblC (x b k:Nat):Nat:=(2*(x%V^k)+b) / V^k
theorem dblC_zero (x b:Nat):dblC x b 0=b:=by simp [dblC,Nat.mod_one]
theorem dblC_le {x b:Nat} (hb:b≤1) (k:Nat):dblC x b k≤1:=by
 unfold dblC
 have h1:=Nat.mod_lt x (Vn_pos k)
 rw [←Nat.lt_succ_iff,Nat.div_lt_iff_lt_mul (Vn_pos k)]
 omega
theorem dblC_step (x b k:Nat):word (2*x+b) k=(dblC x b k+2*word x k)%V∧dblC x b (k+1)=(dblC x b k+2*word x k) / V:=by
 have e:2*(x%V^(k+1))+b=(2*(x%V^k)+b)+V^k*(2*word x k):=by rw [mod_step,Nat.mul_add,Nat.mul_left_comm];omega
 obtain ⟨_,h2,h3⟩:=carry_step (s:=2*(x%V^k)+b) (t:=2*word x k) (Vn_pos k) rfl
 constructor
 · have h4:(2*x+b)%V^(k+1)=((2*(x%V^k)+b)+V^k*(2*word x k))%V^(k+1):=by
     rw [←e,Nat.add_mod (2*(x%V^(k+1))),Nat.mul_mod 2 (x%V^(k+1)),Nat.mod_mod,←Nat.mul_mod,←Nat.add_mod]
   rw [word_of_mod h4]
   exact h2
 · unfold dblC
   rw [e,Nat.pow_succ]
   exact h3
theorem dblC_end {x b m:Nat} (hb:b≤1) (hx:len x≤m):word (2*x+b) m=dblC x b m∧2*x+b<V^(m+1):=by
 have e1:=mod_len hx
 have h1:=Nat.lt_of_lt_of_le (lt_len x) (Nat.pow_le_pow_right V_pos hx)
 have hlt:2*x+b<V^(m+1):=by
   rw [Nat.pow_succ]
   have:V^m*2≤V^m*V:=Nat.mul_le_mul_left _ (by unfold V;omega)
   omega
 refine ⟨?_,hlt⟩
 have h3:=dblC_le (x:=x) hb m
 unfold dblC at h3 ⊢
 rw [e1] at h3 ⊢
 unfold word
 exact Nat.mod_eq_of_lt (Nat.lt_of_le_of_lt h3 (by decide))
def subC (x y k:Nat):Int:=(((x%V^k:Nat):Int) - ((y%V^k:Nat):Int)) / ((V^k:Nat):Int)
theorem subC_zero (x y:Nat):subC x y 0=0:=by simp [subC,Nat.mod_one]
theorem subC_bound (x y k:Nat) : -1≤subC x y k∧subC x y k≤0:=by
 have h1:=Nat.mod_lt x (Vn_pos k)
 have h2:=Nat.mod_lt y (Vn_pos k)
 have hp:=Vn_pos k
 unfold subC
 generalize x%V^k=a at *
 generalize y%V^k=b at *
 generalize V^k=P at *
 constructor
 · rw [Int.le_ediv_iff_mul_le (by omega)];omega
 · have:((a:Int) - b) / (P:Int)<1:=by rw [Int.ediv_lt_iff_lt_mul (by omega)];omega
   omega
theorem subC_step {x y:Nat} (k:Nat) (h:y≤x):((word (x - y) k:Nat):Int)=(subC x y k+((word x k:Nat) - (word y k:Nat)))%65536∧subC x y (k+1)=(subC x y k+((word x k:Nat) - (word y k:Nat))) / 65536:=by
 have hp:=Vn_pos k
 have hP:((V^k:Nat):Int)≠0:=by omega
 have ex:=mod_step x k
 have ey:=mod_step y k
 have e:((x%V^(k+1):Nat):Int) - ((y%V^(k+1):Nat):Int)=(((x%V^k:Nat):Int) - ((y%V^k:Nat):Int))+((V^k:Nat):Int)*((word x k:Nat) - (word y k:Nat)):=by
   rw [ex,ey,Int.natCast_add,Int.natCast_add,Int.natCast_mul,Int.natCast_mul,Int.mul_sub];omega
 have hV:(65536:Int)=((V:Nat):Int):=rfl
 have d:(((x%V^(k+1):Nat):Int) - ((y%V^(k+1):Nat):Int)) / ((V^k:Nat):Int)=subC x y k+((word x k:Nat) - (word y k:Nat)):=by
   rw [e,Int.add_mul_ediv_left _ _ hP];rfl
 constructor
 · rw [←d,hV]
   have m1:=Nat.div_add_mod x (V^(k+1))
   have m2:=Nat.div_add_mod y (V^(k+1))
   obtain ⟨q1,hq1⟩:∃ q,x / V^(k+1)=q:=⟨_,rfl⟩
   obtain ⟨q2,hq2⟩:∃ q,y / V^(k+1)=q:=⟨_,rfl⟩
   rw [hq1] at m1
   rw [hq2] at m2
   have hx:((x - y:Nat):Int)=((V^k:Nat):Int)*(((V:Nat):Int)*((q1:Int) - q2))+(((x%V^(k+1):Nat):Int) - ((y%V^(k+1):Nat):Int)):=by
     rw [Int.natCast_sub h,←Int.mul_assoc,←Int.natCast_mul,←Nat.pow_succ,Int.mul_sub,←Int.natCast_mul,←Int.natCast_mul]
     show _=((V^(k+1)*q1:Nat):Int) - ((V^(k+1)*q2:Nat):Int)+_
     generalize V^(k+1)*q1=a1 at m1 ⊢
     generalize V^(k+1)*q2=a2 at m2 ⊢
     generalize x%V^(k+1)=a3 at m1 ⊢
     generalize y%V^(k+1)=a4 at m2 ⊢
     omega
   unfold word
   rw [Int.natCast_emod,Int.natCast_ediv,hx,Int.mul_comm,Int.add_comm,Int.add_mul_ediv_right _ _ hP,Int.add_mul_emod_self_left]
 · unfold subC
   rw [Nat.pow_succ,Int.natCast_mul,←Int.ediv_ediv_of_nonneg (by omega),←Nat.pow_succ,d,hV]
   rfl
end Rx
