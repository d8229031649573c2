/-
  Contracts of the functions that the law calls, for every input (Nat).
-/
import Derived.Test.YtflopjfnppolgaaGreatDoorZ00
set_option linter.all false
set_option maxRecDepth 100000
set_option maxHeartbeats 40000000
namespace Vx
def W:Nat:=18446744073709551616
theorem BG':W=18446744073709551616:=rfl
theorem W_pos:0<W:=by unfold W;omega
theorem AT':W=2^64:=by decide +kernel
theorem AH' (n:Nat):0<W^n:=Nat.pow_pos W_pos
def word (x j:Nat):Nat:=x / W^j%W
theorem word_lt (x j:Nat):word x j<W:=Nat.mod_lt _ W_pos
def len (x:Nat):Nat:=if x=0 then 0 else x.log2 / 64+1
theorem AG':len 0=0:=by simp [len]
theorem Ao (x:Nat):x<W^len x:=by
 unfold len
 split
 · subst x;simp
 · rename_i h
   rw [AT',←Nat.pow_mul]
   exact Nat.lt_of_lt_of_le Nat.lt_log2_self (Nat.pow_le_pow_right (by omega) (by omega))
theorem AA {x n:Nat} (h:x<W^n):len x≤n:=by
 unfold len
 split
 · omega
 · rename_i hx
   rw [AT',←Nat.pow_mul] at h
   have:=(Nat.log2_lt hx).2 h
   omega
theorem BB' {x:Nat}:len x=0↔x=0:=by unfold len;split <;> simp_all
theorem Ak {x:Nat}:0<len x↔0<x:=by have:=@BB' x;omega
theorem IJ' {x n:Nat} (h:n<len x):W^n≤x:=by
 rcases Nat.lt_or_ge x (W^n) with h1 | h1
 · have:=AA h1;omega
 · exact h1
theorem Am {x y:Nat} (h:x≤y):len x≤len y:=AA (Nat.lt_of_le_of_lt h (Ao y))
theorem En {x y:Nat} (h:len x<len y):x<y:=by
 rcases Nat.lt_or_ge x y with h1 | h1
 · exact h1
 · have:=Am h1;omega
theorem BC:len 1=1:=by decide +kernel
theorem BH {x:Nat} (h0:0<x) (h:x<W):len x=1:=by
 have:=AA (x:=x) (n:=1) (by simpa using h)
 have:=(@Ak x).2 h0
 omega
theorem At' (x y:Nat):len (x*y)≤len x+len y:=by
 rcases Nat.eq_zero_or_pos y with h | h
 · subst h;simp [AG']
 · apply AA
   rw [Nat.pow_add]
   exact Nat.mul_lt_mul_of_lt_of_le (Ao x) (Nat.le_of_lt (Ao y)) (AH' _)
theorem BM (x y:Nat):len (x+y)≤max (len x) (len y)+1:=by
 apply AA
 have h1:=Nat.lt_of_lt_of_le (Ao x) (Nat.pow_le_pow_right W_pos (Nat.le_max_left (len x) (len y)))
 have h2:=Nat.lt_of_lt_of_le (Ao y) (Nat.pow_le_pow_right W_pos (Nat.le_max_right (len x) (len y)))
 rw [Nat.pow_succ]
 have h3:W^max (len x) (len y)*2≤W^max (len x) (len y)*W:=Nat.mul_le_mul_left _ (by unfold W;omega)
 omega
theorem AB (x j:Nat):x%W^(j+1)=x%W^j+W^j*word x j:=by
 unfold word
 rw [Nat.pow_succ,Nat.mod_mul]
theorem AY' {x n:Nat} (h:len x≤n):x%W^n=x :=
 Nat.mod_eq_of_lt (Nat.lt_of_lt_of_le (Ao x) (Nat.pow_le_pow_right W_pos h))
theorem Cv' {x j:Nat} (h:len x≤j):word x j=0:=by
 unfold word
 rw [Nat.div_eq_of_lt (Nat.lt_of_lt_of_le (Ao x) (Nat.pow_le_pow_right W_pos h))]
 rfl
theorem Ba (x j:Nat):x / W^j=word x j+W*(x / W^(j+1)):=by
 unfold word
 rw [Nat.pow_succ,←Nat.div_div_eq_div_mul]
 exact (Nat.mod_add_div _ _).symm
theorem BW' {x:Nat} (h:0<x):word x (len x - 1)=x / W^(len x - 1)∧0<word x (len x - 1):=by
 have hl:=(@Ak x).2 h
 have h1:x / W^(len x - 1)<W:=by
   rw [Nat.div_lt_iff_lt_mul (AH' _),←Nat.pow_succ']
   have:=Ao x
   rwa [show (len x - 1).succ=len x by omega]
 have h2:0<x / W^(len x - 1):=Nat.div_pos (IJ' (by omega)) (AH' _)
 unfold word
 rw [Nat.mod_eq_of_lt h1]
 exact ⟨rfl,h2⟩
def seg (cs:List Nat) (o:Nat):Nat→Nat
  | 0=>0
  | n+1=>seg cs o n+W^n*cs.getD (o+n) 0
theorem Br' {cs:List Nat} (h:∀ d∈cs,d<W) (o n:Nat):seg cs o n<W^n:=by
 induction n with
 | zero=>simp [seg]
 | succ n ih =>
   unfold seg
   have hd:cs.getD (o+n) 0<W:=by
     rw [List.getD_eq_getElem?_getD]
     cases hg:cs[o+n]? with
     | none=>simpa using W_pos
     | some d=>simpa using h d (List.mem_of_getElem? hg)
   have:W^n*(cs.getD (o+n) 0+1)≤W^n*W:=Nat.mul_le_mul_left _ hd
   rw [Nat.mul_add,Nat.mul_one] at this
   rw [Nat.pow_succ]
   omega
theorem BH' {cs ds:List Nat} {o p n:Nat} (h:∀ j,j<n→cs.getD (o+j) 0=ds.getD (p+j) 0):seg cs o n=seg ds p n:=by
 induction n with
 | zero=>rfl
 | succ n ih=>unfold seg;rw [ih (fun j hj=>h j (by omega)),h n (by omega)]
theorem getD_set (cs:List Nat) (i j v:Nat):(cs.set i v).getD j 0=if i=j∧i<cs.length then v else cs.getD j 0:=by
 simp only [List.getD_eq_getElem?_getD,List.getElem?_set]
 split
 · rename_i h;subst h
   split
   · simp [*]
   · rename_i h2;simp [h2]
 · rename_i h;simp [h]
theorem BC' {cs:List Nat} {o n i v:Nat} (h:i<o∨o+n≤i):seg (cs.set i v) o n=seg cs o n :=
 BH' fun j hj=>by rw [getD_set,if_neg (by omega)]
theorem CK' {cs:List Nat} {o n i v:Nat} (hi:i<n) (hl:o+n≤cs.length) :
   seg (cs.set (o+i) v) o n+W^i*cs.getD (o+i) 0=seg cs o n+W^i*v:=by
 induction n with
 | zero=>omega
 | succ n ih =>
   unfold seg
   rcases Nat.lt_or_ge i n with h | h
   · have:=ih h (by omega)
     rw [getD_set,if_neg (by omega)]
     omega
   · obtain rfl:i=n:=by omega
     rw [BC' (by omega),getD_set,if_pos (by omega)]
     omega
theorem AB' (cs:List Nat) (o m n:Nat):seg cs o (m+n)=seg cs o m+W^m*seg cs (o+m) n:=by
 induction n with
 | zero=>simp [seg]
 | succ n ih =>
   show seg cs o (m+n)+W^(m+n)*cs.getD (o+(m+n)) 0=seg cs o m+W^m*(seg cs (o+m) n+W^n*cs.getD (o+m+n) 0)
   rw [ih,Nat.pow_add,Nat.mul_add,Nat.add_assoc,Nat.mul_assoc,Nat.add_assoc o m n]
theorem ET {cs:List Nat} (h:∀ d∈cs,d<W) {o n j:Nat} (hj:j<n):word (seg cs o n) j=cs.getD (o+j) 0:=by
 obtain ⟨k,rfl⟩:∃ k,n=j+(1+k):=⟨n - j - 1,by omega⟩
 rw [AB']
 unfold word
 rw [Nat.add_mul_div_left _ _ (AH' j),Nat.div_eq_of_lt (Br' h o j),Nat.zero_add,AB']
 have h1:seg cs (o+j) 1=cs.getD (o+j) 0:=by simp [seg]
 have h2:=Br' h (o+j) 1
 rw [h1] at h2 ⊢
 rw [Nat.pow_one,Nat.add_mul_mod_self_left]
 exact Nat.mod_eq_of_lt (by simpa using h2)
theorem En' {cs:List Nat} {x o n:Nat} (h:∀ j,j<n→cs.getD (o+j) 0=word x j):seg cs o n=x%W^n:=by
 induction n with
 | zero=>simp [seg,Nat.mod_one]
 | succ n ih=>unfold seg;rw [ih (fun j hj=>h j (by omega)),h n (by omega),AB]
theorem Cx {cs:List Nat} {o n:Nat} (h:∀ j,j<n→cs.getD (o+j) 0=0):seg cs o n=0:=by
 induction n with
 | zero=>rfl
 | succ n ih=>unfold seg;rw [ih (fun j hj=>h j (by omega)),h n (by omega)];simp
def quo3 (a2 a1 a0 b1 b0:Nat):Nat:=if b1≤a2 then W - 1 else (a2*W*W+a1*W+a0) / (b1*W+b0)
theorem C8' {a2 a1 a0 b1 b0 t rest:Nat} (hb:0<b1) (h:t*b1+rest=a2*W+a1)
   (hge:(a2*W*W+a1*W+a0) / (b1*W+b0)≤t) (hle:t*b0≤rest*W+a0):t=(a2*W*W+a1*W+a0) / (b1*W+b0):=by
 have hpos:0<b1*W+b0:=by have:=Nat.mul_pos hb W_pos;omega
 have h1:t≤(a2*W*W+a1*W+a0) / (b1*W+b0):=by
   rw [Nat.le_div_iff_mul_le hpos]
   have h2:=congrArg (· * W) h
   simp only [Nat.add_mul] at h2
   rw [Nat.mul_add,←Nat.mul_assoc]
   omega
 omega
theorem Il' {a2 a1 a0 b1 b0 t rest:Nat} (hb:0<b1) (h:t*b1+rest=a2*W+a1)
   (hge:(a2*W*W+a1*W+a0) / (b1*W+b0)≤t) (hgt:rest*W+a0<t*b0) :
   0<t∧(a2*W*W+a1*W+a0) / (b1*W+b0)≤t - 1∧(t - 1)*b1+(rest+b1)=a2*W+a1:=by
 have hpos:0<b1*W+b0:=by have:=Nat.mul_pos hb W_pos;omega
 have ht:0<t:=by
   rcases Nat.eq_zero_or_pos t with h0 | h0
   · subst h0;simp at hgt
   · exact h0
 refine ⟨ht,?_,?_⟩
 · have h1:(a2*W*W+a1*W+a0) / (b1*W+b0)<t:=by
     rw [Nat.div_lt_iff_lt_mul hpos]
     have h2:=congrArg (· * W) h
     simp only [Nat.add_mul] at h2
     rw [Nat.mul_add,←Nat.mul_assoc]
     omega
   omega
 · obtain ⟨s,rfl⟩:∃ s,t=s+1:=⟨t - 1,by omega⟩
   simp only [Nat.add_mul,Nat.one_mul,Nat.add_sub_cancel] at h ⊢
   omega
theorem IK {x y r a:Nat} (hx:y<W) (ha:a<W):(x<r∨x=r∧y≤a)↔x*W+y≤r*W+a:=by
 constructor
 · rintro (h | ⟨rfl,h⟩)
   · have:(x+1)*W≤r*W:=Nat.mul_le_mul_right _ h
     rw [Nat.add_mul] at this;omega
   · omega
 · intro h
   rcases Nat.lt_trichotomy x r with h1 | h1 | h1
   · exact .inl h1
   · subst h1;exact .inr ⟨rfl,by omega⟩
   · have:(r+1)*W≤x*W:=Nat.mul_le_mul_right _ h1
     rw [Nat.add_mul] at this;omega
theorem FV' {a2 a1 a0 b1 b0 la lb K a b:Nat} (hb1:W≤2*b1) (h1:b1<W) (h0:b0<W) (ha0:a0<W) (ha1:a1<W) (hK:0<K)
   (hla:la<K) (hlb:lb<K) (ha:a=(a2*W*W+a1*W+a0)*K+la) (hb:b=(b1*W+b0)*K+lb) (hab:a<b*W) :
   quo3 a2 a1 a0 b1 b0<W∧a / b≤quo3 a2 a1 a0 b1 b0∧quo3 a2 a1 a0 b1 b0≤a / b+1:=by
 have hW:=BG'
 have hb1':0<b1:=by omega
 have hpos:0<b1*W+b0:=by have:=Nat.mul_pos hb1' W_pos;omega
 have hbpos:0<b:=by rw [hb];have:=Nat.mul_pos hpos hK;omega
 have hlt:a / b<W:=by rw [Nat.div_lt_iff_lt_mul hbpos,Nat.mul_comm];exact hab
 unfold quo3
 split
 · rename_i hge
   refine ⟨by omega,by omega,?_⟩
   have h2:W - 2≤a / b:=by
     rw [Nat.le_div_iff_mul_le hbpos]
     -- (W - 2)*b≤b1*W*W*K≤a
     have e1:b<(b1+1)*W*K:=by
       have:(b1*W+b0+1)*K≤(b1+1)*W*K:=Nat.mul_le_mul_right _ (by rw [Nat.add_mul];omega)
       rw [Nat.add_mul (b1*W+b0),Nat.one_mul] at this
       omega
     have e2:(W - 2)*(b1+1)≤b1*W:=by
       rw [Nat.sub_mul,Nat.mul_add,Nat.mul_comm W b1];omega
     have e3:(W - 2)*b≤(W - 2)*((b1+1)*W*K):=Nat.mul_le_mul_left _ (Nat.le_of_lt e1)
     have e4:(W - 2)*((b1+1)*W*K)=(W - 2)*(b1+1)*(W*K):=by simp only [Nat.mul_assoc]
     have e5:(W - 2)*(b1+1)*(W*K)≤b1*W*(W*K):=Nat.mul_le_mul_right _ e2
     have e6:b1*W*(W*K)≤a2*W*(W*K):=Nat.mul_le_mul_right _ (Nat.mul_le_mul_right _ hge)
     have e7:a2*W*(W*K)≤a:=by
       rw [ha,Nat.add_mul,Nat.add_mul,←Nat.mul_assoc (a2*W)];omega
     omega
   omega
 · rename_i hlt2
   have hq:(a2*W*W+a1*W+a0) / (b1*W+b0)<W:=by
     rw [Nat.div_lt_iff_lt_mul hpos]
     have:(a2+1)*W≤b1*W:=Nat.mul_le_mul_right _ (by omega)
     have e1:(a2*W+a1+1)*W≤b1*W*W:=Nat.mul_le_mul_right _ (by rw [Nat.add_mul] at this;omega)
     rw [Nat.add_mul,Nat.add_mul] at e1
     rw [Nat.mul_add,Nat.mul_comm W (b1*W)]
     omega
   generalize hQ:(a2*W*W+a1*W+a0) / (b1*W+b0)=q at hq ⊢
   have hq1:q*(b1*W+b0)≤a2*W*W+a1*W+a0:=by rw [←hQ];exact Nat.div_mul_le_self _ _
   have hq2:a2*W*W+a1*W+a0<(q+1)*(b1*W+b0):=by
     have:=Nat.lt_mul_div_succ (a2*W*W+a1*W+a0) hpos
     rw [hQ] at this
     exact Nat.lt_of_lt_of_eq this (Nat.mul_comm _ _)
   refine ⟨hq,?_,?_⟩
   · have:a / b<q+1:=by
       rw [Nat.div_lt_iff_lt_mul hbpos]
       have e1:(a2*W*W+a1*W+a0+1)*K≤(q+1)*(b1*W+b0)*K:=Nat.mul_le_mul_right _ hq2
       rw [Nat.add_mul (a2*W*W+a1*W+a0) 1,Nat.one_mul] at e1
       have e2:(q+1)*b=(q+1)*(b1*W+b0)*K+(q+1)*lb:=by rw [hb,Nat.mul_add,Nat.mul_assoc]
       omega
     omega
   · rcases Nat.eq_zero_or_pos q with h | h
     · rw [h];exact Nat.zero_le _
     obtain ⟨s,rfl⟩:∃ s,q=s+1:=⟨q - 1,by omega⟩
     have:s≤a / b:=by
       rw [Nat.le_div_iff_mul_le hbpos]
       have e1:(s+1)*(b1*W+b0)*K≤(a2*W*W+a1*W+a0)*K:=Nat.mul_le_mul_right _ hq1
       have e2:(s+1)*b=(s+1)*(b1*W+b0)*K+(s+1)*lb:=by rw [hb,Nat.mul_add,Nat.mul_assoc]
       have e3:(s+1)*lb≤W*K:=Nat.mul_le_mul (by omega) (Nat.le_of_lt hlb)
       have e4:W*K≤b1*W*K:=by
         rw [Nat.mul_assoc];exact Nat.le_mul_of_pos_left _ hb1'
       have e5:b1*W*K≤b:=by rw [hb,Nat.add_mul];omega
       rw [Nat.add_mul,Nat.one_mul] at e2
       omega
     omega
theorem Gz {lo an P b a t lo' m:Nat} (hlo:a=lo+an*P) (hP:b<P) (hb:0<b) (ht:t=a / b) (h:lo'+b*t=lo+m*P) (hlo':lo'<P) :
   ¬ an<m∧lo'=a%b:=by
 have hr:a%b<b:=Nat.mod_lt _ hb
 have e:=Nat.div_add_mod a b
 rw [←ht] at e
 have e1:lo'+an*P=a%b+m*P:=by omega
 rcases Nat.lt_trichotomy an m with h1 | h1 | h1
 · have:(an+1)*P≤m*P:=Nat.mul_le_mul_right _ h1
   rw [Nat.add_mul] at this;omega
 · subst h1;omega
 · have:(m+1)*P≤an*P:=Nat.mul_le_mul_right _ h1
   rw [Nat.add_mul] at this;omega
theorem Gz' {lo an P b a t lo' m:Nat} (hlo:a=lo+an*P) (hP:b<P) (hb:0<b) (ht:t=a / b+1) (h:lo'+b*t=lo+m*P) (hlo':lo'<P) :
   an<m∧lo'+b=a%b+P:=by
 have hr:a%b<b:=Nat.mod_lt _ hb
 have e:=Nat.div_add_mod a b
 rw [ht,Nat.mul_add] at h
 have e1:lo'+b+an*P=a%b+m*P:=by omega
 rcases Nat.lt_trichotomy (an+1) m with h1 | h1 | h1
 · have:(an+1+1)*P≤m*P:=Nat.mul_le_mul_right _ h1
   simp only [Nat.add_mul] at this;omega
 · subst h1;rw [Nat.add_mul] at e1;omega
 · have:m*P≤an*P:=Nat.mul_le_mul_right _ (by omega)
   omega
end Vx
