/-
  Contracts of the functions that the law calls, for every input (Ql Qc Qg Qa).
-/
import Derived.Test.YtcicfnlljdnagaaGreatDoorY00
import Derived.Test.YtcicfnlljdnagaaGreatDoorY31
import Derived.Test.YtcicfnlljdnagaaGreatDoorY18
import Derived.Test.YtcicfnlljdnagaaGreatDoorY12
set_option linter.all false
set_option maxRecDepth 100000
set_option maxHeartbeats 40000000
namespace Go.Proofs.YtcicfnlljdnagaaGreatDoor
open Lib (hid)
theorem hun {wB wS w:World} {G:Nat} (h:Ag' wB G wS w):(∀ b o,b<G→w.cell? ⟨b,o,none⟩=wB.cell? ⟨b,o,none⟩)∧Go.RowKit.Below G wB w∧Aj' wS w:=h
theorem A7' (x:Rat) (l:List Rat):leastOf x l∈x::l∧∀ y∈x::l,leastOf x l≤y:=by
 refine ⟨?_,fun y hy=>?_⟩
 · rcases Dt l x with h | h
   · rw [h];exact List.mem_cons_self ..
   · exact List.mem_cons_of_mem _ h
 · rcases List.mem_cons.1 hy with rfl | h
   · exact (DB' l y).1
   · exact (DB' l x).2 y h
theorem AN (x:Rat) (l:List Rat):greatestOf x l∈x::l∧∀ y∈x::l,y≤greatestOf x l:=by
 refine ⟨?_,fun y hy=>?_⟩
 · rcases CI l x with h | h
   · rw [h];exact List.mem_cons_self ..
   · exact List.mem_cons_of_mem _ h
 · rcases List.mem_cons.1 hy with rfl | h
   · exact (CD l y).1
   · exact (CD l x).2 y h
theorem ET {x m:Rat} {l:List Rat} (h1:m∈x::l) (h2:∀ y∈x::l,m≤y):leastOf x l=m :=
 Rat.le_antisymm ((A7' x l).2 m h1) (h2 _ (A7' x l).1)
theorem Du' {x m:Rat} {l:List Rat} (h1:m∈x::l) (h2:∀ y∈x::l,y≤m):greatestOf x l=m :=
 Rat.le_antisymm (h2 _ (AN x l).1) ((AN x l).2 m h1)
theorem FP {x y:Rat} {l m:List Rat} (h:∀ z,z∈x::l↔z∈y::m):leastOf x l=leastOf y m :=
 ET ((h _).2 (A7' y m).1) (fun z hz=>(A7' y m).2 z ((h z).1 hz))
theorem Es {x y:Rat} {l m:List Rat} (h:∀ z,z∈x::l↔z∈y::m):greatestOf x l=greatestOf y m :=
 Du' ((h _).2 (AN y m).1) (fun z hz=>(AN y m).2 z ((h z).1 hz))
def BI (k p:Nat) (lo hi:Rat):Rat:=if (k >>> p)%2=0 then lo else hi
def Cm' (F:Rat→Rat→Rat→Rat) (a0 a1 b0 b1 c0 c1:Rat) (n:Nat):List Rat:=(List.range n).map fun k=>F (BI k 0 a0 a1) (BI k 1 b0 b1) (BI k 2 c0 c1)
theorem Cz (F:Rat→Rat→Rat→Rat) (a0 a1 b0 b1 c0 c1:Rat) (n:Nat):(Cm' F a0 a1 b0 b1 c0 c1 n).length=n:=by simp [Cm']
theorem FP' (F:Rat→Rat→Rat→Rat) (a0 a1 b0 b1 c0 c1:Rat) (n:Nat):Cm' F a0 a1 b0 b1 c0 c1 n++[F (BI n 0 a0 a1) (BI n 1 b0 b1) (BI n 2 c0 c1)]=Cm' F a0 a1 b0 b1 c0 c1 (n+1):=by simp [Cm',List.range_succ]
def AY' (F:Rat→Rat→Rat→Rat) (a0 a1 b0 b1 c0 c1:Rat):List Rat:=[F a1 b0 c0,F a0 b1 c0,F a1 b1 c0,F a0 b0 c1,F a1 b0 c1,F a0 b1 c1,F a1 b1 c1]
theorem Gv (F:Rat→Rat→Rat→Rat) (a0 a1 b0 b1 c0 c1:Rat):Cm' F a0 a1 b0 b1 c0 c1 8=F a0 b0 c0::AY' F a0 a1 b0 b1 c0 c1:=rfl
def cornLo (F:Rat→Rat→Rat→Rat) (a0 a1 b0 b1 c0 c1:Rat):Rat:=leastOf (F a0 b0 c0) (AY' F a0 a1 b0 b1 c0 c1)
def cornHi (F:Rat→Rat→Rat→Rat) (a0 a1 b0 b1 c0 c1:Rat):Rat:=greatestOf (F a0 b0 c0) (AY' F a0 a1 b0 b1 c0 c1)
theorem DC (k p:Nat) (lo hi:Rat):BI k p lo hi∈[lo,hi]:=by unfold BI;split <;> simp
theorem AB {F:Rat→Rat→Rat→Rat} {a0 a1 b0 b1 c0 c1 z:Rat}:z∈F a0 b0 c0::AY' F a0 a1 b0 b1 c0 c1↔∃ x∈[a0,a1],∃ y∈[b0,b1],∃ u∈[c0,c1],F x y u=z:=by
 simp only [AY',List.mem_cons,List.not_mem_nil,or_false]
 constructor
 · rintro (h | h | h | h | h | h | h | h)
   · exact ⟨a0,Or.inl rfl,b0,Or.inl rfl,c0,Or.inl rfl,h.symm⟩
   · exact ⟨a1,Or.inr rfl,b0,Or.inl rfl,c0,Or.inl rfl,h.symm⟩
   · exact ⟨a0,Or.inl rfl,b1,Or.inr rfl,c0,Or.inl rfl,h.symm⟩
   · exact ⟨a1,Or.inr rfl,b1,Or.inr rfl,c0,Or.inl rfl,h.symm⟩
   · exact ⟨a0,Or.inl rfl,b0,Or.inl rfl,c1,Or.inr rfl,h.symm⟩
   · exact ⟨a1,Or.inr rfl,b0,Or.inl rfl,c1,Or.inr rfl,h.symm⟩
   · exact ⟨a0,Or.inl rfl,b1,Or.inr rfl,c1,Or.inr rfl,h.symm⟩
   · exact ⟨a1,Or.inr rfl,b1,Or.inr rfl,c1,Or.inr rfl,h.symm⟩
 · rintro ⟨x,rfl | rfl,y,rfl | rfl,u,rfl | rfl,rfl⟩ <;> simp
theorem AW' {F:Rat→Rat→Rat→Rat} {a0 a1 b0 b1 c0 c1:Rat}:∀ x∈[a0,a1],∀ y∈[b0,b1],∀ z∈[c0,c1],cornLo F a0 a1 b0 b1 c0 c1≤F x y z∧F x y z≤cornHi F a0 a1 b0 b1 c0 c1 :=
 fun x hx y hy z hz=>⟨(A7' _ _).2 _ (AB.2 ⟨x,hx,y,hy,z,hz,rfl⟩),(AN _ _).2 _ (AB.2 ⟨x,hx,y,hy,z,hz,rfl⟩)⟩
theorem BX' {F G:Rat→Rat→Rat→Rat} {a0 a1 b0 b1 c0 c1 a2 a3 b2 b3 c2 c3:Rat} (h:∀ z,(∃ x∈[a0,a1],∃ y∈[b0,b1],∃ u∈[c0,c1],F x y u=z)↔(∃ x∈[a2,a3],∃ y∈[b2,b3],∃ u∈[c2,c3],G x y u=z)) :
   cornLo F a0 a1 b0 b1 c0 c1=cornLo G a2 a3 b2 b3 c2 c3∧cornHi F a0 a1 b0 b1 c0 c1=cornHi G a2 a3 b2 b3 c2 c3 :=
 ⟨FP (fun z=>AB.trans ((h z).trans AB.symm)),Es (fun z=>AB.trans ((h z).trans AB.symm))⟩
theorem CD' {F:Rat→Rat→Rat→Rat} {a0 a1 b0 b1 c0 c1:Rat} {P:Rat→Prop} (h:∀ x∈[a0,a1],∀ y∈[b0,b1],∀ z∈[c0,c1],P (F x y z)):P (cornLo F a0 a1 b0 b1 c0 c1)∧P (cornHi F a0 a1 b0 b1 c0 c1):=by
 obtain ⟨x,hx,y,hy,z,hz,e⟩:=AB.1 (A7' (F a0 b0 c0) (AY' F a0 a1 b0 b1 c0 c1)).1
 obtain ⟨x',hx',y',hy',z',hz',e'⟩:=AB.1 (AN (F a0 b0 c0) (AY' F a0 a1 b0 b1 c0 c1)).1
 exact ⟨by unfold cornLo;rw [←e];exact h x hx y hy z hz,by unfold cornHi;rw [←e'];exact h x' hx' y' hy' z' hz'⟩
def Fq (f:Rat→Rat) (p q:Rat):Prop:=∀ t,p≤t→t≤q→∀ m M,(m≤f p∧f p≤M)→(m≤f q∧f q≤M)→m≤f t∧f t≤M
theorem DP' {A B p q t:Rat} (hp:0≤A*p+B) (hq:0≤A*q+B) (h1:p≤t) (h2:t≤q):0≤A*t+B:=by
 rcases Rat.le_total (a:=0) (b:=A) with h | h
 · have:=Rat.mul_nonneg h (show 0≤t - p by grind);grind
 · have:=Rat.mul_nonneg (show 0 ≤ -A by grind) (show 0≤q - t by grind);grind
theorem Ik {A B p q t:Rat} (hp:0<A*p+B) (hq:0<A*q+B) (h1:p≤t) (h2:t≤q):0<A*t+B:=by
 rcases Rat.le_total (a:=0) (b:=A) with h | h
 · have:=Rat.mul_nonneg h (show 0≤t - p by grind);grind
 · have:=Rat.mul_nonneg (show 0 ≤ -A by grind) (show 0≤q - t by grind);grind
theorem D6' {f:Rat→Rat} {A B p q:Rat} (hf:∀ t,f t=A*t+B):Fq f p q:=by
 intro t h1 h2 m M hp hq
 rw [hf] at hp hq ⊢
 have:=DP' (A:=A) (B:=B - m) (p:=p) (q:=q) (by grind) (by grind) h1 h2
 have:=DP' (A := -A) (B:=M - B) (p:=p) (q:=q) (by grind) (by grind) h1 h2
 constructor <;> grind
theorem Cn {m n d:Rat} (hd:0<d):m≤n / d↔m*d≤n:=by
 constructor
 · intro h
   have:=Rat.mul_le_mul_of_nonneg_right h (Rat.le_of_lt hd)
   rwa [Rat.div_mul_cancel (by grind)] at this
 · intro h
   have:=Rat.mul_le_mul_of_nonneg_right h (Rat.le_of_lt (Rat.inv_pos.2 hd))
   rwa [Rat.mul_assoc,Rat.mul_inv_cancel _ (by grind),Rat.mul_one,←Rat.div_def] at this
theorem Cn' {m n d:Rat} (hd:0<d):n / d≤m↔n≤m*d:=by
 constructor
 · intro h
   have:=Rat.mul_le_mul_of_nonneg_right h (Rat.le_of_lt hd)
   rwa [Rat.div_mul_cancel (by grind)] at this
 · intro h
   have:=Rat.mul_le_mul_of_nonneg_right h (Rat.le_of_lt (Rat.inv_pos.2 hd))
   rwa [Rat.mul_assoc,Rat.mul_inv_cancel _ (by grind),Rat.mul_one,←Rat.div_def] at this
theorem G8' {n d:Rat}:n / d=(-n) / (-d):=by
 by_cases h:d=0
 · subst h;simp [Rat.div_def]
 · have h1 : -d≠0:=by grind
   have h2:=Rat.div_mul_cancel (a:=n) h
   have h3:=Rat.div_mul_cancel (a := -n) h1
   have h4:(n / d - -n / -d)*d=0:=by grind
   rcases Rat.mul_eq_zero.1 h4 with h5 | h5
   · grind
   · exact absurd h5 h
theorem De {f:Rat→Rat} {A B C D p q:Rat} (hf:∀ t,f t=(A*t+B) / (C*t+D)) (hp:0<C*p+D) (hq:0<C*q+D):Fq f p q:=by
 intro t h1 h2 m M kp kq
 have ht:=Ik hp hq h1 h2
 rw [hf] at kp kq ⊢
 rw [Cn hp,Cn' hp] at kp
 rw [Cn hq,Cn' hq] at kq
 rw [Cn ht,Cn' ht]
 have:=DP' (A:=A - m*C) (B:=B - m*D) (p:=p) (q:=q) (by grind) (by grind) h1 h2
 have:=DP' (A:=M*C - A) (B:=M*D - B) (p:=p) (q:=q) (by grind) (by grind) h1 h2
 constructor <;> grind
theorem DC' {f:Rat→Rat} {A B C D p q:Rat} (hf:∀ t,f t=(A*t+B) / (C*t+D)) (h:0<C*p+D∧0<C*q+D∨C*p+D<0∧C*q+D<0):Fq f p q:=by
 rcases h with h | h
 · exact De hf h.1 h.2
 · refine De (A := -A) (B := -B) (C := -C) (D := -D) (fun t=>?_) (by grind) (by grind)
   rw [hf,G8']
   congr 1 <;> grind
theorem DQ {F:Rat→Rat→Rat→Rat} {a0 a1 b0 b1 c0 c1 x y z m M:Rat} (hx:a0≤x∧x≤a1) (hy:b0≤y∧y≤b1) (hz:c0≤z∧z≤c1)
   (h1:∀ y z,b0≤y→y≤b1→c0≤z→z≤c1→Fq (fun x=>F x y z) a0 a1) (h2:∀ x z,a0≤x→x≤a1→c0≤z→z≤c1→Fq (fun y=>F x y z) b0 b1) (h3:∀ x y,a0≤x→x≤a1→b0≤y→y≤b1→Fq (fun z=>F x y z) c0 c1)
   (k:∀ x∈[a0,a1],∀ y∈[b0,b1],∀ z∈[c0,c1],m≤F x y z∧F x y z≤M):m≤F x y z∧F x y z≤M:=by
 have ha:a0≤a1:=Rat.le_trans hx.1 hx.2
 have hb:b0≤b1:=Rat.le_trans hy.1 hy.2
 have hc:c0≤c1:=Rat.le_trans hz.1 hz.2
 have k1:∀ y∈[b0,b1],∀ z∈[c0,c1],m≤F x y z∧F x y z≤M:=fun y hy z hz=>h1 y z (by simp at hy;grind) (by simp at hy;grind) (by simp at hz;grind) (by simp at hz;grind) x hx.1 hx.2 m M (k a0 (by simp) y hy z hz) (k a1 (by simp) y hy z hz)
 have k2:∀ z∈[c0,c1],m≤F x y z∧F x y z≤M:=fun z hz=>h2 x z hx.1 hx.2 (by simp at hz;grind) (by simp at hz;grind) y hy.1 hy.2 m M (k1 b0 (by simp) z hz) (k1 b1 (by simp) z hz)
 exact h3 x y hx.1 hx.2 hy.1 hy.2 z hz.1 hz.2 m M (k2 c0 (by simp)) (k2 c1 (by simp))
def divisorQ (f l r:Rat):Rat:=f - (l+r) / 2
def Ap' (f l r:Rat):Rat:=(l - r) / divisorQ f l r
theorem DQ' {a0 a1 b0 b1 c0 c1 x y z m M:Rat} (hx:a0≤x∧x≤a1) (hy:b0≤y∧y≤b1) (hz:c0≤z∧z≤c1)
   (k:∀ x∈[a0,a1],∀ y∈[b0,b1],∀ z∈[c0,c1],m≤divisorQ x y z∧divisorQ x y z≤M):m≤divisorQ x y z∧divisorQ x y z≤M:=by
 refine DQ hx hy hz (fun y z _ _ _ _=>D6' (A:=1) (B := - (y+z) / 2) fun t=>?_) (fun x z _ _ _ _=>D6' (A := - 1 / 2) (B:=x - z / 2) fun t=>?_) (fun x y _ _ _ _=>D6' (A := - 1 / 2) (B:=x - y / 2) fun t=>?_) k <;> unfold divisorQ <;> grind
theorem HY' {a0 a1 b0 b1 c0 c1 x y z m M m' M':Rat} (hx:a0≤x∧x≤a1) (hy:b0≤y∧y≤b1) (hz:c0≤z∧z≤c1)
   (kd:∀ x∈[a0,a1],∀ y∈[b0,b1],∀ z∈[c0,c1],m'≤divisorQ x y z∧divisorQ x y z≤M') (h0:¬ (m'≤0∧0≤M'))
   (k:∀ x∈[a0,a1],∀ y∈[b0,b1],∀ z∈[c0,c1],m≤Ap' x y z∧Ap' x y z≤M):m≤Ap' x y z∧Ap' x y z≤M:=by
 have ha:a0≤a1:=Rat.le_trans hx.1 hx.2
 have hb:b0≤b1:=Rat.le_trans hy.1 hy.2
 have hc:c0≤c1:=Rat.le_trans hz.1 hz.2
 have key:(∀ x y z,a0≤x→x≤a1→b0≤y→y≤b1→c0≤z→z≤c1→0<divisorQ x y z)∨(∀ x y z,a0≤x→x≤a1→b0≤y→y≤b1→c0≤z→z≤c1→divisorQ x y z<0):=by
   have hd:∀ x y z,a0≤x→x≤a1→b0≤y→y≤b1→c0≤z→z≤c1→m'≤divisorQ x y z∧divisorQ x y z≤M':=fun x y z i1 i2 i3 i4 i5 i6=>DQ' ⟨i1,i2⟩ ⟨i3,i4⟩ ⟨i5,i6⟩ kd
   by_cases hm:m'≤0
   · right
     intro x y z i1 i2 i3 i4 i5 i6
     have:=hd x y z i1 i2 i3 i4 i5 i6
     grind
   · left
     intro x y z i1 i2 i3 i4 i5 i6
     have:=hd x y z i1 i2 i3 i4 i5 i6
     grind
 refine DQ hx hy hz (fun y z i1 i2 i3 i4=>DC' (A:=0) (B:=y - z) (C:=1) (D := - (y+z) / 2) (fun t=>?_) ?_) (fun x z i1 i2 i3 i4=>DC' (A:=1) (B := - z) (C := - 1 / 2) (D:=x - z / 2) (fun t=>?_) ?_) (fun x y i1 i2 i3 i4=>DC' (A := - 1) (B:=y) (C := - 1 / 2) (D:=x - y / 2) (fun t=>?_) ?_) k
 · unfold Ap' divisorQ;congr 1 <;> grind
 · rcases key with h | h
   · left;have:=h a0 y z (by grind) ha i1 i2 i3 i4;have:=h a1 y z ha (by grind) i1 i2 i3 i4;unfold divisorQ at *;grind
   · right;have:=h a0 y z (by grind) ha i1 i2 i3 i4;have:=h a1 y z ha (by grind) i1 i2 i3 i4;unfold divisorQ at *;grind
 · unfold Ap' divisorQ;congr 1 <;> grind
 · rcases key with h | h
   · left;have:=h x b0 z i1 i2 (by grind) hb i3 i4;have:=h x b1 z i1 i2 hb (by grind) i3 i4;unfold divisorQ at *;grind
   · right;have:=h x b0 z i1 i2 (by grind) hb i3 i4;have:=h x b1 z i1 i2 hb (by grind) i3 i4;unfold divisorQ at *;grind
 · unfold Ap' divisorQ;congr 1 <;> grind
 · rcases key with h | h
   · left;have:=h x y c0 i1 i2 i3 i4 (by grind) hc;have:=h x y c1 i1 i2 i3 i4 hc (by grind);unfold divisorQ at *;grind
   · right;have:=h x y c0 i1 i2 i3 i4 (by grind) hc;have:=h x y c1 i1 i2 i3 i4 hc (by grind);unfold divisorQ at *;grind
theorem coef_raise (p x y z:Rat):Ap' (x+p) (y+p) (z+p)=Ap' x y z:=by unfold Ap' divisorQ;congr 1 <;> grind
theorem divisor_raise (p x y z:Rat):divisorQ (x+p) (y+p) (z+p)=divisorQ x y z:=by unfold divisorQ;grind
theorem C0 (s x y z:Rat):divisorQ (x*s) (y*s) (z*s)=divisorQ x y z*s:=by unfold divisorQ;grind
theorem DR' {s x y z:Rat} (hs:s≠0):Ap' (x*s) (y*s) (z*s)=Ap' x y z:=by
 unfold Ap'
 rw [C0,show y*s - z*s=(y - z)*s by grind]
 by_cases h:divisorQ x y z=0
 · rw [h];simp [Rat.div_def]
 · have h1:divisorQ x y z*s≠0:=fun e=>(Rat.mul_eq_zero.1 e).elim h hs
   have h2:=Rat.div_mul_cancel (a:=y - z) h
   have h3:=Rat.div_mul_cancel (a:=(y - z)*s) h1
   have h4:((y - z)*s / (divisorQ x y z*s) - (y - z) / divisorQ x y z)*(divisorQ x y z*s)=0:=by grind
   rcases Rat.mul_eq_zero.1 h4 with h5 | h5
   · grind
   · exact absurd h5 h1
theorem BY (x y z:Rat):divisorQ x z y=divisorQ x y z:=by unfold divisorQ;grind
theorem Cz' (x y z:Rat):Ap' x z y = - Ap' x y z:=by unfold Ap';rw [BY,Rat.div_def,Rat.div_def];grind
end Go.Proofs.YtcicfnlljdnagaaGreatDoor
namespace Go.Proofs.YtcicfnlljdnagaaGreatDoor.Rf
open Lib (hid)
open Go.RowKit
open Rx
open Vx (Ab' Ah Ah')
open List renaming getElem?_toArray → lg, getElem?_cons_zero → lz, getElem?_cons_succ → ls, setIfInBounds_toArray → lt, set_cons_zero → ly, set_cons_succ → lu
theorem BI' (x:Rat) (l:List Rat):leastOf x l≤greatestOf x l:=Rat.le_trans ((DB' l x).1) ((CD l x).1)
theorem BT {w:World} {b:Nat} {p q:Rat} {T:TypeId} {s1 s2:Bool} {A1 A2 A3 A4:Option Addr} {n1 c1 n2 c2 n3 c3 n4 c4:Nat} (h:w.heap[b]?=some (.cells #[.bool s1,.slice A1 n1 c1,.slice A2 n2 c2,.bool s2,.slice A3 n3 c3,.slice A4 n4 c4] T (0,0)))
   (hp:Ad' w (.agg #[.bool s1,.slice A1 n1 c1,.slice A2 n2 c2]) p) (hq:Ad' w (.agg #[.bool s2,.slice A3 n3 c3,.slice A4 n4 c4]) q):AX w b 0 [p,q]:=by
 obtain ⟨r0,r1,r2,r3,r4,r5⟩:=Af h
 intro i x hi
 match i with
 | 0=>obtain rfl:=Option.some.inj hi;exact ⟨_,_,_,_,_,_,_,r0,r1,r2,hp⟩
 | 1=>obtain rfl:=Option.some.inj hi;exact ⟨_,_,_,_,_,_,_,r3,r4,r5,hq⟩
 | i+2=>simp at hi
theorem Eo {w:World} {b o c n:Nat} {x0 lo hi:Rat} {l:List Rat} (el:leastOf x0 l=lo) (eh:greatestOf x0 l=hi) (hl:AX w b o (x0::l)) (hn:n=l.length+1) (hn2:n≤1000) (hs:∀ y∈x0::l,Ab' y≤16777216) :
   Calls Tryz.prog 58 #[.slice (some ⟨b,o,none⟩) n c] w (AQ w lo hi):=by
 have hlh:lo≤hi:=by rw [←el,←eh];exact BI' _ _
 have slo:Ab' lo≤16777216:=by rw [←el];have:=(Bs x0 l hs l.length).1;rwa [List.take_of_length_le (nL _)] at this
 have shi:Ab' hi≤16777216:=by rw [←eh];have:=(Bs x0 l hs l.length).2;rwa [List.take_of_length_le (nL _)] at this
 replace hn:=hid hn
 replace hl:=hid hl
 replace hs:=hid hs
 replace el:=hid el
 replace eh:=hid eh
 replace hlh:=hid hlh
 replace slo:=hid slo
 replace shi:=hid shi
 obtain ⟨w1,hw1⟩:=eX ((w.alloc (.cells #[.bool false,.slice none 0 0,.slice none 0 0,.bool false,.slice none 0 0,.slice none 0 0] 34)))
 have b1:=An w (.cells #[.bool false,.slice none 0 0,.slice none 0 0,.bool false,.slice none 0 0,.slice none 0 0] 34)
 have g1:=hA_ w (.cells #[.bool false,.slice none 0 0,.slice none 0 0,.bool false,.slice none 0 0,.slice none 0 0] 34)
 rw [←hw1] at b1 g1
 replace g1:=hid g1
 replace b1:=hid b1
 go_enter Tryz.func58,Tryz.ntmps58
 go_upto_region 1 with fail
 rw [←hw1]
 clear hw1
 have HX:=hid (Fe (c:=c) el.out (hl.out.keep b1.out) hn.out hn2 hs.out)
 go_wp2_with fail
 refine (HX.out).mono ?_
 rintro e w2 ⟨v2,rfl,hv2,b2⟩
 obtain ⟨C1,j1,C2,j2,rfl,-,-⟩:=id hv2.opened
 replace hv2:=hid hv2
 replace b2:=hid b2
 clear HX
 have y0_2:=hid (bS b1.out b2.out)
 have HX:=hid (Fe' (c:=c) eh.out (hl.out.keep y0_2.out) hn.out hn2 hs.out)
 go_wp2_with fail
 refine (HX.out).mono ?_
 rintro e w3 ⟨v3,rfl,hv3,b3⟩
 obtain ⟨C3,j3,C4,j4,rfl,-,-⟩:=id hv3.opened
 replace hv3:=hid hv3
 replace b3:=hid b3
 clear HX
 have HX:=hid (EM' (hv2.out.keep b3.out) hv3.out (nT slo.out (by omega)) (nT shi.out (by omega)) hlh.out)
 go_wp2_with fail
 refine (HX.out).mono ?_
 rintro e w4 ⟨v4,rfl,hv4,b4⟩
 obtain ⟨C5,j5,C6,j6,C7,j7,C8,j8,rfl,-,-,-,-⟩:=id hv4.opened
 replace hv4:=hid hv4
 replace b4:=hid b4
 clear HX
 go_upto_region 2 with fail
 obtain ⟨w5,hw5⟩:=eX (w4.alloc (.cells #[.bool (decide (lo.num<0)),.slice C5 (Vx.len lo.num.natAbs) j5,.slice C6 (Vx.len (below lo.den)) j6,.bool (decide (hi.num<0)),.slice C7 (Vx.len hi.num.natAbs) j7,.slice C8 (Vx.len (below hi.den)) j8] 34))
 have b5:=hid (Ar hw5)
 have L5:=hid (At' hw5)
 rw [←hw5]
 clear hw5
 obtain ⟨z_o_0,z_o_1,z_o_2,z_o_3,z_o_4,z_o_5⟩:=Af L5.out
 have y1_5:=hid (bS (bS (bS b2.out b3.out) b4.out) b5.out)
 have DR:=(Ac' g1.out y1_5.out)
 have q0:w5.cell? ⟨w.heap.size,0,none⟩=some (.bool false):=cR _ _ _ _ _ _ DR
 have F0:w5.frozen? ⟨w.heap.size,0,none⟩=false:=fR w5 (w.heap.size) 0 _ _ DR
 have q1:w5.cell? ⟨w.heap.size,1,none⟩=some (.slice none 0 0):=cR _ _ _ _ _ _ DR
 have F1:w5.frozen? ⟨w.heap.size,1,none⟩=false:=fR w5 (w.heap.size) 1 _ _ DR
 have q2:w5.cell? ⟨w.heap.size,2,none⟩=some (.slice none 0 0):=cR _ _ _ _ _ _ DR
 have F2:w5.frozen? ⟨w.heap.size,2,none⟩=false:=fR w5 (w.heap.size) 2 _ _ DR
 have q3:w5.cell? ⟨w.heap.size,3,none⟩=some (.bool false):=cR _ _ _ _ _ _ DR
 have F3:w5.frozen? ⟨w.heap.size,3,none⟩=false:=fR w5 (w.heap.size) 3 _ _ DR
 have q4:w5.cell? ⟨w.heap.size,4,none⟩=some (.slice none 0 0):=cR _ _ _ _ _ _ DR
 have F4:w5.frozen? ⟨w.heap.size,4,none⟩=false:=fR w5 (w.heap.size) 4 _ _ DR
 have q5:w5.cell? ⟨w.heap.size,5,none⟩=some (.slice none 0 0):=cR _ _ _ _ _ _ DR
 have F5:w5.frozen? ⟨w.heap.size,5,none⟩=false:=fR w5 (w.heap.size) 5 _ _ DR
 have y0_5:=hid (bS (bS (bS y0_2.out b3.out) b4.out) b5.out)
 have FB:=y0_5.out
 have FV:=(hv4.out.keep b5.out)
 obtain ⟨ue,hw⟩:=eX (((((((w5.setCell ⟨w.heap.size,0,none⟩ (.bool (decide (lo.num<0)))).setCell ⟨w.heap.size,1,none⟩ (.slice C5 (Vx.len lo.num.natAbs) j5)).setCell ⟨w.heap.size,2,none⟩ (.slice C6 (Vx.len (below lo.den)) j6)).setCell ⟨w.heap.size,3,none⟩ (.bool (decide (hi.num<0)))).setCell ⟨w.heap.size,4,none⟩ (.slice C7 (Vx.len hi.num.natAbs) j7)).setCell ⟨w.heap.size,5,none⟩ (.slice C8 (Vx.len (below hi.den)) j8)))
 obtain ⟨E_ue,-,LV,BL⟩:=Av DR hw
 have FE:=hid (LV.box FV)
 replace FB:=hid (BL _ _ (by omega) FB)
 replace E_ue:=hid E_ue
 replace hw:=hid hw
 clear DR FV LV BL
 go_wp2_with fail
 rw [←hw.out]
 obtain ⟨r0,r1,r2,r3,r4,r5⟩:=Af E_ue.out
 refine bP (v:=.agg #[.bool (decide (lo.num<0)),.slice C5 (Vx.len lo.num.natAbs) j5,.slice C6 (Vx.len (below lo.den)) j6,.bool (decide (hi.num<0)),.slice C7 (Vx.len hi.num.natAbs) j7,.slice C8 (Vx.len (below hi.den)) j8]) ?_ rfl ⟨_,rfl,FE.out,FB.out⟩
 simp [results,Tryz.results58,go_sem,r0,r1,r2,r3,r4,r5]
theorem CW {w:World} {vx vd:Value} {x d:Rat} (hx:Ad' w vx x) (hd:Ad' w vd d) (sx:Ab' x≤4000000) (sd:Ab' d≤4000000) (h0:0≤d) :
   Calls Tryz.prog 74 #[vx,vd] w (AQ w (x - d) (x+d)):=by
 obtain ⟨lo,elo⟩:=eY (x - d)
 obtain ⟨hi,ehi⟩:=eY (x+d)
 have slo:Ab' lo≤16777216:=by rw [←elo];have:=Vx.AF' x d;omega
 have shi:Ab' hi≤16777216:=by rw [←ehi];have:=Vx.AM x d;omega
 have hle:lo≤hi:=by rw [←elo,←ehi];grind
 have el:leastOf lo [hi]=lo:=by unfold leastOf;simp only [List.foldl_cons,List.foldl_nil];rw [if_neg (Rat.not_lt.2 hle)]
 have eh:greatestOf lo [hi]=hi:=by unfold greatestOf;simp only [List.foldl_cons,List.foldl_nil];split <;> grind
 rw [elo,ehi]
 have sx1:=hid (show Ab' x≤536870912 by omega)
 have sd1:=hid (show Ab' d≤536870912 by omega)
 replace elo:=hid elo
 replace ehi:=hid ehi
 replace el:=hid el
 replace eh:=hid eh
 replace slo:=hid slo
 replace shi:=hid shi
 clear hle sx sd
 obtain ⟨C1,j1,C2,j2,rfl,-,-⟩:=id hx.opened
 replace hx:=hid hx
 obtain ⟨C3,j3,C4,j4,rfl,-,-⟩:=id hd.opened
 replace hd:=hid hd
 obtain ⟨w1,hw1⟩:=eX ((((w.alloc (.cells #[.bool (decide (x.num<0)),.slice C1 (Vx.len x.num.natAbs) j1,.slice C2 (Vx.len (below x.den)) j2] 32)).alloc (.cells #[.bool (decide (d.num<0)),.slice C3 (Vx.len d.num.natAbs) j3,.slice C4 (Vx.len (below d.den)) j4] 32)).alloc (.cells #[.bool false,.slice none 0 0,.slice none 0 0,.bool false,.slice none 0 0,.slice none 0 0] 34)))
 obtain ⟨b1,g1,g2,g3⟩:=AD hw1
 replace g1:=hid g1
 replace g2:=hid g2
 replace g3:=hid g3
 replace b1:=hid b1
 go_enter Tryz.func74,Tryz.ntmps74
 go_upto_region 1 with fail
 rw [←hw1]
 clear hw1
 go_wp2_with fail
 have HSZa:Hid ((w.heap.size+2)≤w1.heap.size):=hid (by have:=Af' (Ac' g3.out (Below.refl _ w1));omega)
 obtain ⟨z_x_0,z_x_1,z_x_2⟩:=Ae g1.out
 have hlta_x:w.heap.size<(w.heap.size+2):=by omega
 obtain ⟨z_d_0,z_d_1,z_d_2⟩:=Ae g2.out
 have hlta_d:w.heap.size+1<(w.heap.size+2):=by omega
 have H0:=Ag'.start w1 (w.heap.size+2)
 have H0':=H0
 unfold Ag' at H0'
 refine wp_region_held_drew (S:=(fun w'=>(∀ b o,b<(w.heap.size+2)→w'.cell? ⟨b,o,none⟩=w1.cell? ⟨b,o,none⟩)∧Below ((w.heap.size+2)) w1 w'∧Aj' w1 w')) (by kernel_rfl) ?_ (fun hHeld=>?_)
 · (try dsimp only)
   exact H0'
 obtain ⟨w2,hw2⟩:=eX w1.drew
 have b2:Hid (Below w1.heap.size w1 w2):=by rw [hw2];exact ⟨rfl,rfl,rfl,nL _,fun _ _=>rfl⟩
 rw [←hw2] at hHeld H0 ⊢
 clear hw2 H0'
 refine tk (i:=0) (h:=?_)
 try simp only [Act.put,lt,ly,lu]
 refine tk (i:=1) (h:=?_)
 try simp only [Act.put,lt,ly,lu]
 refine tk (i:=3) (h:=?_)
 try simp only [Act.put,lt,ly,lu]
 refine tk (i:=4) (h:=?_)
 try simp only [Act.put,lt,ly,lu]
 have y0_2:=hid (bS b1.out b2.out)
 refine rd (i:=2) (h:=fun K hK=>?_);go_simp;go_at_call 10
 refine (A9' elo.out (hx.out.keep y0_2.out) (hd.out.keep y0_2.out) sx1.out sd1.out).mono ?_
 rintro e w3 ⟨v3,rfl,hv3,b3⟩
 obtain ⟨C5,j5,C6,j6,rfl,-,-⟩:=id hv3.opened
 replace hv3:=hid hv3
 replace b3:=hid b3
 have hk3:=Aw' H0 HSZa b3.out;clear hHeld H0
 refine hK.out _ _ (by (try dsimp only);with_reducible exact hun hk3) (fun hHeld=>?_)
 clear hK K;try simp only [Act.put,lt,ly,lu]
 have y0_3:=hid (bS y0_2.out b3.out)
 refine rd (i:=5) (h:=fun K hK=>?_);go_simp;go_at_call 12
 refine (Cq ehi.out (hx.out.keep y0_3.out) (hd.out.keep y0_3.out) sx1.out sd1.out).mono ?_
 rintro e w4 ⟨v4,rfl,hv4,b4⟩
 obtain ⟨C7,j7,C8,j8,rfl,-,-⟩:=id hv4.opened
 replace hv4:=hid hv4
 replace b4:=hid b4
 have hk4:=Aw' hk3 HSZa b4.out;clear hHeld hk3
 refine hK.out _ _ (by (try dsimp only);with_reducible exact hun hk4) (fun hHeld=>?_)
 clear hK K;try simp only [Act.put,lt,ly,lu]
 refine wpAnyH_ready (rs:=[6]) (by kernel_rfl) (by simp) (AllReadyH.cons (o:=?oz) ?ez ?kz AllReadyH.nil)
 case ez=>simp only [lg,lz,ls];rfl
 intro K hK;go_simp
 obtain ⟨w5,hw5⟩:=eX (w4.alloc (.cells #[.bool (decide (lo.num<0)),.slice C5 (Vx.len lo.num.natAbs) j5,.slice C6 (Vx.len (below lo.den)) j6,.bool (decide (hi.num<0)),.slice C7 (Vx.len hi.num.natAbs) j7,.slice C8 (Vx.len (below hi.den)) j8] 32))
 have b5:=hid (Ar hw5)
 have LR:=hid (At' hw5)
 rw [←hw5]
 clear hw5
 have HNS:=hid (BT LR.out ((hv3.out.keep b4.out).keep b5.out) (hv4.out.keep b5.out))
 have hk5:=Aw' hk4 HSZa b5.out;clear hHeld hk4
 refine hK.out _ _ (by (try dsimp only);with_reducible exact hun hk5) (fun hHeld=>?_)
 clear hK K;try simp only [Act.put,lt,ly,lu]
 refine rd (i:=7) (h:=fun K hK=>?_);go_simp;go_at_call 58
 refine (Eo (n:=2) el.out eh.out HNS.out rfl (by omega) (by intro y hy;simp only [List.mem_cons,List.not_mem_nil,or_false] at hy;rcases hy with rfl | rfl;exact slo.out;exact shi.out)).mono ?_
 rintro e w6 ⟨v6,rfl,hv6,b6⟩
 obtain ⟨C9,j9,C10,j10,C11,j11,C12,j12,rfl,-,-,-,-⟩:=id hv6.opened
 replace hv6:=hid hv6
 replace b6:=hid b6
 have hk6:=Aw' hk5 HSZa b6.out;clear hHeld hk5
 refine hK.out _ _ (by (try dsimp only);with_reducible exact hun hk6) (fun hHeld=>?_)
 clear hK K;try simp only [Act.put,lt,ly,lu]
 have y1_6:=hid (bS (bS (bS (bS b2.out b3.out) b4.out) b5.out) b6.out)
 have Dq8:=(Ac' g3.out y1_6.out)
 refine rd (i:=8) (h:=fun K hK=>?_)
 have q0:w6.cell? ⟨w.heap.size+2,0,none⟩=some (.bool false):=cR _ _ _ _ _ _ Dq8
 have F0:w6.frozen? ⟨w.heap.size+2,0,none⟩=false:=fR w6 (w.heap.size+2) 0 _ _ Dq8
 have q1:w6.cell? ⟨w.heap.size+2,1,none⟩=some (.slice none 0 0):=cR _ _ _ _ _ _ Dq8
 have F1:w6.frozen? ⟨w.heap.size+2,1,none⟩=false:=fR w6 (w.heap.size+2) 1 _ _ Dq8
 have q2:w6.cell? ⟨w.heap.size+2,2,none⟩=some (.slice none 0 0):=cR _ _ _ _ _ _ Dq8
 have F2:w6.frozen? ⟨w.heap.size+2,2,none⟩=false:=fR w6 (w.heap.size+2) 2 _ _ Dq8
 have q3:w6.cell? ⟨w.heap.size+2,3,none⟩=some (.bool false):=cR _ _ _ _ _ _ Dq8
 have F3:w6.frozen? ⟨w.heap.size+2,3,none⟩=false:=fR w6 (w.heap.size+2) 3 _ _ Dq8
 have q4:w6.cell? ⟨w.heap.size+2,4,none⟩=some (.slice none 0 0):=cR _ _ _ _ _ _ Dq8
 have F4:w6.frozen? ⟨w.heap.size+2,4,none⟩=false:=fR w6 (w.heap.size+2) 4 _ _ Dq8
 have q5:w6.cell? ⟨w.heap.size+2,5,none⟩=some (.slice none 0 0):=cR _ _ _ _ _ _ Dq8
 have F5:w6.frozen? ⟨w.heap.size+2,5,none⟩=false:=fR w6 (w.heap.size+2) 5 _ _ Dq8
 replace Dq8:=hid Dq8
 go_simp
 clear q0 F0 q1 F1 q2 F2 q3 F3 q4 F4 q5 F5
 have y0_6:=hid (bS (bS (bS y0_3.out b4.out) b5.out) b6.out)
 have FB:=hid y0_6.out
 have FV:=hid hv6.out
 obtain ⟨ue,hw⟩:=eX (((((((w6.setCell ⟨w.heap.size+2,0,none⟩ (.bool (decide (lo.num<0)))).setCell ⟨w.heap.size+2,1,none⟩ (.slice C9 (Vx.len lo.num.natAbs) j9)).setCell ⟨w.heap.size+2,2,none⟩ (.slice C10 (Vx.len (below lo.den)) j10)).setCell ⟨w.heap.size+2,3,none⟩ (.bool (decide (hi.num<0)))).setCell ⟨w.heap.size+2,4,none⟩ (.slice C11 (Vx.len hi.num.natAbs) j11)).setCell ⟨w.heap.size+2,5,none⟩ (.slice C12 (Vx.len (below hi.den)) j12)))
 obtain ⟨E_ue,OT,LV,BL⟩:=Av Dq8.out hw
 rw [←hw]
 clear hw
 replace E_ue:=hid E_ue
 have FE:=hid (LV.box FV.out)
 replace FB:=hid (BL _ _ (by omega) FB.out)
 have HKE:=hk6
 refine hK.out _ _ ?_ (fun hHeld2=>?_)
 · (try dsimp only)
   exact ⟨fun b o hb=>(Aq (BL (w.heap.size+2) _ (by omega) hk6.2.1)) b o hb,BL (w.heap.size+2) _ (by omega) hk6.2.1,Be' hk6.2.2 LV⟩
 clear hK K hHeld OT LV BL HKE
 try simp only [Act.put,lt,ly,lu]
 have hHeld:=hHeld2
 clear hHeld2
 refine wpAnyH_done (by kernel_rfl) ?_ _
 clear hHeld
 obtain ⟨r0,r1,r2,r3,r4,r5⟩:=Af E_ue.out
 go_wp2_with fail
 refine bP (v:=.agg #[.bool (decide (lo.num<0)),.slice C9 (Vx.len lo.num.natAbs) j9,.slice C10 (Vx.len (below lo.den)) j10,.bool (decide (hi.num<0)),.slice C11 (Vx.len hi.num.natAbs) j11,.slice C12 (Vx.len (below hi.den)) j12]) ?_ rfl ⟨_,rfl,FE.out,FB.out⟩
 simp [results,Tryz.results74,go_sem,r0,r1,r2,r3,r4,r5]
def AQ' (w:World) (v:Value) (a b e:Rat):Prop :=
  ∃ A1 c1 A2 c2 A3 c3 A4 c4 A5 c5 A6 c6,v=.agg #[.bool (decide (a.num<0)),.slice A1 (Vx.len a.num.natAbs) c1,.slice A2 (Vx.len (below a.den)) c2,.bool (decide (b.num<0)),.slice A3 (Vx.len b.num.natAbs) c3,.slice A4 (Vx.len (below b.den)) c4,.bool (decide (e.num<0)),.slice A5 (Vx.len e.num.natAbs) c5,.slice A6 (Vx.len (below e.den)) c6] ∧
    Aj w (.agg #[.bool (decide (a.num<0)),.slice A1 (Vx.len a.num.natAbs) c1,.slice A2 (Vx.len (below a.den)) c2,.bool (decide (b.num<0)),.slice A3 (Vx.len b.num.natAbs) c3,.slice A4 (Vx.len (below b.den)) c4]) a b∧Ad' w (.agg #[.bool (decide (e.num<0)),.slice A5 (Vx.len e.num.natAbs) c5,.slice A6 (Vx.len (below e.den)) c6]) e
theorem AQ'.opened {w:World} {v:Value} {a b e:Rat} (h:AQ' w v a b e):∃ A1 c1 A2 c2 A3 c3 A4 c4 A5 c5 A6 c6,v=.agg #[.bool (decide (a.num<0)),.slice A1 (Vx.len a.num.natAbs) c1,.slice A2 (Vx.len (below a.den)) c2,.bool (decide (b.num<0)),.slice A3 (Vx.len b.num.natAbs) c3,.slice A4 (Vx.len (below b.den)) c4,.bool (decide (e.num<0)),.slice A5 (Vx.len e.num.natAbs) c5,.slice A6 (Vx.len (below e.den)) c6] ∧
   Aj w (.agg #[.bool (decide (a.num<0)),.slice A1 (Vx.len a.num.natAbs) c1,.slice A2 (Vx.len (below a.den)) c2,.bool (decide (b.num<0)),.slice A3 (Vx.len b.num.natAbs) c3,.slice A4 (Vx.len (below b.den)) c4]) a b∧Ad' w (.agg #[.bool (decide (e.num<0)),.slice A5 (Vx.len e.num.natAbs) c5,.slice A6 (Vx.len (below e.den)) c6]) e:=h
theorem AQ'.keep {w w':World} {v:Value} {a b e:Rat} (h:AQ' w v a b e) (hb:Below w.heap.size w w'):AQ' w' v a b e:=by
 obtain ⟨A1,c1,A2,c2,A3,c3,A4,c4,A5,c5,A6,c6,h1,h2,h3⟩:=h
 exact ⟨A1,c1,A2,c2,A3,c3,A4,c4,A5,c5,A6,c6,h1,h2.keep hb,h3.keep hb⟩
def Bz' (a b e:Rat):Prop:=0<a∧b≤1∧0≤e
theorem ET' {w:World} {b:Bool}:Calls Tryz.prog 100 #[.bool b] w (fun e w'=>e=.returned (.int .i64 (if b then 0 else 2))∧Below w.heap.size w w'):=by
 cases b <;> (go_enter Tryz.func100,Tryz.ntmps100;go_wp2_with fail;go_ret;exact ⟨rfl,Below.refl _ _⟩)
theorem FQ {w:World} {y n:Bool}:Calls Tryz.prog 77 #[.bool y,.bool n] w (fun e w'=>e=.returned (.int .u8 (if y then 1 else if n then 2 else 3))∧Below w.heap.size w w'):=by
 cases y <;> cases n <;> (go_enter Tryz.func77,Tryz.ntmps77;go_wp2_with fail;go_ret;exact ⟨rfl,Below.refl _ _⟩)
theorem Gv' {q:Rat} (h:0<q):0<q.num:=by
 have h1:=Rat.num_nonneg.2 (Rat.le_of_lt h)
 rcases Int.lt_or_eq_of_le h1 with h2 | h2
 · exact h2
 · have:=Rat.num_eq_zero.1 h2.symm;grind
theorem Ay' {w:World} {n:Int} {q:Rat} (hq:((n:Int):Rat)=q) (h1 : -9223372036854775808≤n) (h2:n≤9223372036854775807):Calls Tryz.prog 25 #[.int .i64 n] w (Ao' w q):=hq ▸ Ei n h1 h2
def Fq' (w:World) (e:Ending) (w':World):Prop:=e=.returned (.int .i64 0)∧Below w.heap.size w w'
theorem CI' {w:World} {v:Value} {a b r:Rat} (hp:AQ' w v a b r) (hg:Bz' a b r) (sa:Ab' a≤16777216) (sb:Ab' b≤16777216) :
   Calls Tryz.prog 61 #[v] w (Fq' w):=by
 obtain ⟨o,eo⟩:=eY (((1:Int):Rat):Rat)
 have ha1:a.num.sign=1:=Int.sign_eq_one_of_pos (Gv' hg.1)
 have hb1:cmpQ b o≤0:=by rw [←eo];exact Int.not_lt.1 (CH' hg.2.1)
 have hr1:0≤r.num.sign:=Int.sign_nonneg_iff.2 (Rat.num_nonneg.2 hg.2.2)
 obtain ⟨c1,ec1⟩:=eY (cmpQ b o:Int)
 obtain ⟨c2,ec2⟩:=eY (r.num.sign:Int)
 rw [ec1] at hb1
 rw [ec2] at hr1
 have d1:decide (c1≤0)=true:=dT_ hb1
 have d2:decide (c2≥0)=true:=dT_ hr1
 have so:Ab' o≤3:=by rw [←eo];decide
 replace ha1:=hid ha1
 replace eo:=hid eo
 replace ec1:=hid ec1
 replace ec2:=hid ec2
 replace so:=hid so
 replace sa:=hid sa
 replace sb:=hid sb
 obtain ⟨C1,j1,C2,j2,C3,j3,C4,j4,C5,j5,C6,j6,rfl,hpg,hpe⟩:=id hp.opened
 replace hp:=hid hp
 replace hpg:=hid hpg
 replace hpe:=hid hpe
 obtain ⟨w1,hw1⟩:=eX ((w.alloc (.cells #[.bool (decide (a.num<0)),.slice C1 (Vx.len a.num.natAbs) j1,.slice C2 (Vx.len (below a.den)) j2,.bool (decide (b.num<0)),.slice C3 (Vx.len b.num.natAbs) j3,.slice C4 (Vx.len (below b.den)) j4,.bool (decide (r.num<0)),.slice C5 (Vx.len r.num.natAbs) j5,.slice C6 (Vx.len (below r.den)) j6] 71)))
 have b1:=An w (.cells #[.bool (decide (a.num<0)),.slice C1 (Vx.len a.num.natAbs) j1,.slice C2 (Vx.len (below a.den)) j2,.bool (decide (b.num<0)),.slice C3 (Vx.len b.num.natAbs) j3,.slice C4 (Vx.len (below b.den)) j4,.bool (decide (r.num<0)),.slice C5 (Vx.len r.num.natAbs) j5,.slice C6 (Vx.len (below r.den)) j6] 71)
 have g1:=hA_ w (.cells #[.bool (decide (a.num<0)),.slice C1 (Vx.len a.num.natAbs) j1,.slice C2 (Vx.len (below a.den)) j2,.bool (decide (b.num<0)),.slice C3 (Vx.len b.num.natAbs) j3,.slice C4 (Vx.len (below b.den)) j4,.bool (decide (r.num<0)),.slice C5 (Vx.len r.num.natAbs) j5,.slice C6 (Vx.len (below r.den)) j6] 71)
 rw [←hw1] at b1 g1
 replace g1:=hid g1
 replace b1:=hid b1
 go_enter Tryz.func61,Tryz.ntmps61
 go_upto_region 1 with fail
 rw [←hw1]
 clear hw1
 have hg:w1.heap[w.heap.size]?=some (.cells #[.bool (decide (a.num<0)),.slice C1 (Vx.len a.num.natAbs) j1,.slice C2 (Vx.len (below a.den)) j2,.bool (decide (b.num<0)),.slice C3 (Vx.len b.num.natAbs) j3,.slice C4 (Vx.len (below b.den)) j4,.bool (decide (r.num<0)),.slice C5 (Vx.len r.num.natAbs) j5,.slice C6 (Vx.len (below r.den)) j6] 71 (0,0)):=((Below.refl _ w1).block _ (gE.1 g1.out).1).trans g1.out
 have z_p_0:w1.cell? ⟨w.heap.size,0,none⟩=some (.bool (decide (a.num<0))):=cR _ _ _ _ _ _ hg
 have z_p_1:w1.cell? ⟨w.heap.size,1,none⟩=some (.slice C1 (Vx.len a.num.natAbs) j1):=cR _ _ _ _ _ _ hg
 have z_p_2:w1.cell? ⟨w.heap.size,2,none⟩=some (.slice C2 (Vx.len (below a.den)) j2):=cR _ _ _ _ _ _ hg
 have z_p_3:w1.cell? ⟨w.heap.size,3,none⟩=some (.bool (decide (b.num<0))):=cR _ _ _ _ _ _ hg
 have z_p_4:w1.cell? ⟨w.heap.size,4,none⟩=some (.slice C3 (Vx.len b.num.natAbs) j3):=cR _ _ _ _ _ _ hg
 have z_p_5:w1.cell? ⟨w.heap.size,5,none⟩=some (.slice C4 (Vx.len (below b.den)) j4):=cR _ _ _ _ _ _ hg
 have z_p_6:w1.cell? ⟨w.heap.size,6,none⟩=some (.bool (decide (r.num<0))):=cR _ _ _ _ _ _ hg
 have z_p_7:w1.cell? ⟨w.heap.size,7,none⟩=some (.slice C5 (Vx.len r.num.natAbs) j5):=cR _ _ _ _ _ _ hg
 have z_p_8:w1.cell? ⟨w.heap.size,8,none⟩=some (.slice C6 (Vx.len (below r.den)) j6):=cR _ _ _ _ _ _ hg
 clear hg
 have HX:=hid (Bm (hpg.out.keep b1.out) (nT sa.out (by omega)))
 go_wp2_with fail
 refine (HX.out).mono ?_
 rintro e w2 ⟨v2,rfl,hv2,b2⟩
 obtain ⟨C7,j7,C8,j8,rfl,-,-⟩:=id hv2.opened
 replace hv2:=hid hv2
 replace b2:=hid b2
 clear HX
 have HX:=hid (BQ' ha1.out hv2.out)
 go_wp2_with fail
 refine (HX.out).mono ?_
 rintro e w3 ⟨rfl,b3⟩
 replace b3:=hid b3
 clear HX
 have y1_3:=hid (bS b2.out b3.out)
 have hg:w3.heap[w.heap.size]?=some (.cells #[.bool (decide (a.num<0)),.slice C1 (Vx.len a.num.natAbs) j1,.slice C2 (Vx.len (below a.den)) j2,.bool (decide (b.num<0)),.slice C3 (Vx.len b.num.natAbs) j3,.slice C4 (Vx.len (below b.den)) j4,.bool (decide (r.num<0)),.slice C5 (Vx.len r.num.natAbs) j5,.slice C6 (Vx.len (below r.den)) j6] 71 (0,0)):=(y1_3.out.block _ (gE.1 g1.out).1).trans g1.out
 have z_p_0:w3.cell? ⟨w.heap.size,0,none⟩=some (.bool (decide (a.num<0))):=cR _ _ _ _ _ _ hg
 have z_p_1:w3.cell? ⟨w.heap.size,1,none⟩=some (.slice C1 (Vx.len a.num.natAbs) j1):=cR _ _ _ _ _ _ hg
 have z_p_2:w3.cell? ⟨w.heap.size,2,none⟩=some (.slice C2 (Vx.len (below a.den)) j2):=cR _ _ _ _ _ _ hg
 have z_p_3:w3.cell? ⟨w.heap.size,3,none⟩=some (.bool (decide (b.num<0))):=cR _ _ _ _ _ _ hg
 have z_p_4:w3.cell? ⟨w.heap.size,4,none⟩=some (.slice C3 (Vx.len b.num.natAbs) j3):=cR _ _ _ _ _ _ hg
 have z_p_5:w3.cell? ⟨w.heap.size,5,none⟩=some (.slice C4 (Vx.len (below b.den)) j4):=cR _ _ _ _ _ _ hg
 have z_p_6:w3.cell? ⟨w.heap.size,6,none⟩=some (.bool (decide (r.num<0))):=cR _ _ _ _ _ _ hg
 have z_p_7:w3.cell? ⟨w.heap.size,7,none⟩=some (.slice C5 (Vx.len r.num.natAbs) j5):=cR _ _ _ _ _ _ hg
 have z_p_8:w3.cell? ⟨w.heap.size,8,none⟩=some (.slice C6 (Vx.len (below r.den)) j6):=cR _ _ _ _ _ _ hg
 clear hg
 have y0_3:=hid (bS (bS b1.out b2.out) b3.out)
 have HX:=hid (BS (hpg.out.keep y0_3.out) (nT sb.out (by omega)))
 go_wp2_with fail
 refine (HX.out).mono ?_
 rintro e w4 ⟨v4,rfl,hv4,b4⟩
 obtain ⟨C9,j9,C10,j10,rfl,-,-⟩:=id hv4.opened
 replace hv4:=hid hv4
 replace b4:=hid b4
 clear HX
 have HX:=hid (Ay' (w:=w4) eo.out (by omega) (by omega))
 go_wp2_with fail
 refine (HX.out).mono ?_
 rintro e w5 ⟨v5,rfl,hv5,b5⟩
 obtain ⟨C11,j11,C12,j12,rfl,-,-⟩:=id hv5.opened
 replace hv5:=hid hv5
 replace b5:=hid b5
 clear HX
 have HX:=hid (Ba' ec1.out (hv4.out.keep b5.out) hv5.out (nT sb.out (by omega)) (nT so.out (by omega)))
 go_wp2_with fail
 refine (HX.out).mono ?_
 rintro e w6 ⟨rfl,b6⟩
 replace b6:=hid b6
 clear HX
 have y1_6:=hid (bS (bS (bS y1_3.out b4.out) b5.out) b6.out)
 have hg:w6.heap[w.heap.size]?=some (.cells #[.bool (decide (a.num<0)),.slice C1 (Vx.len a.num.natAbs) j1,.slice C2 (Vx.len (below a.den)) j2,.bool (decide (b.num<0)),.slice C3 (Vx.len b.num.natAbs) j3,.slice C4 (Vx.len (below b.den)) j4,.bool (decide (r.num<0)),.slice C5 (Vx.len r.num.natAbs) j5,.slice C6 (Vx.len (below r.den)) j6] 71 (0,0)):=(y1_6.out.block _ (gE.1 g1.out).1).trans g1.out
 have z_p_0:w6.cell? ⟨w.heap.size,0,none⟩=some (.bool (decide (a.num<0))):=cR _ _ _ _ _ _ hg
 have z_p_1:w6.cell? ⟨w.heap.size,1,none⟩=some (.slice C1 (Vx.len a.num.natAbs) j1):=cR _ _ _ _ _ _ hg
 have z_p_2:w6.cell? ⟨w.heap.size,2,none⟩=some (.slice C2 (Vx.len (below a.den)) j2):=cR _ _ _ _ _ _ hg
 have z_p_3:w6.cell? ⟨w.heap.size,3,none⟩=some (.bool (decide (b.num<0))):=cR _ _ _ _ _ _ hg
 have z_p_4:w6.cell? ⟨w.heap.size,4,none⟩=some (.slice C3 (Vx.len b.num.natAbs) j3):=cR _ _ _ _ _ _ hg
 have z_p_5:w6.cell? ⟨w.heap.size,5,none⟩=some (.slice C4 (Vx.len (below b.den)) j4):=cR _ _ _ _ _ _ hg
 have z_p_6:w6.cell? ⟨w.heap.size,6,none⟩=some (.bool (decide (r.num<0))):=cR _ _ _ _ _ _ hg
 have z_p_7:w6.cell? ⟨w.heap.size,7,none⟩=some (.slice C5 (Vx.len r.num.natAbs) j5):=cR _ _ _ _ _ _ hg
 have z_p_8:w6.cell? ⟨w.heap.size,8,none⟩=some (.slice C6 (Vx.len (below r.den)) j6):=cR _ _ _ _ _ _ hg
 clear hg
 have y0_6:=hid (bS (bS (bS y0_3.out b4.out) b5.out) b6.out)
 have HX:=hid (BQ' ec2.out (hpe.out.keep y0_6.out))
 go_wp2_with fail
 refine (HX.out).mono ?_
 rintro e w7 ⟨rfl,b7⟩
 replace b7:=hid b7
 clear HX
 have HX:=hid (ET' (w:=w7) (b:=true))
 go_wp2_with fail
 refine (HX.out).mono ?_
 rintro e w8 ⟨rfl,b8⟩
 replace b8:=hid b8
 clear HX
 have y0_8:=hid (bS (bS y0_6.out b7.out) b8.out)
 have FB:=hid y0_8.out
 go_wp2_with fail
 go_ret
 exact ⟨rfl,FB.out⟩
theorem CW' {w:World} {v:Value} {a b r:Rat} {n k:Nat} {m:Int} (hp:AQ' w v a b r) (hg:Bz' a b r) (sa:Ab' a≤16777216) (sb:Ab' b≤16777216) (hn:n≤200) (hk:k≤n) (hm:((k:Nat):Int)=m:=by rfl) :
   Calls Tryz.prog 59 #[v,.int .i64 ((n:Nat):Int),.int .i64 m] w (Fq' w):=by
 have d1:decide (((n:Nat):Int)>200)=false:=dF_ (by omega)
 have d2:decide (((n:Nat):Int)<((k:Nat):Int))=false:=dF_ (by omega)
 have d1':¬ ((n:Nat):Int)>200:=by omega
 have d2':¬ ((n:Nat):Int)<((k:Nat):Int):=by omega
 subst hm
 replace sa:=hid sa
 replace sb:=hid sb
 replace hg:=hid hg
 obtain ⟨C1,j1,C2,j2,C3,j3,C4,j4,C5,j5,C6,j6,rfl,hpg,hpe⟩:=id hp.opened
 replace hp:=hid hp
 replace hpg:=hid hpg
 replace hpe:=hid hpe
 obtain ⟨w1,hw1⟩:=eX ((w.alloc (.cells #[.bool (decide (a.num<0)),.slice C1 (Vx.len a.num.natAbs) j1,.slice C2 (Vx.len (below a.den)) j2,.bool (decide (b.num<0)),.slice C3 (Vx.len b.num.natAbs) j3,.slice C4 (Vx.len (below b.den)) j4,.bool (decide (r.num<0)),.slice C5 (Vx.len r.num.natAbs) j5,.slice C6 (Vx.len (below r.den)) j6] 71)))
 have b1:=An w (.cells #[.bool (decide (a.num<0)),.slice C1 (Vx.len a.num.natAbs) j1,.slice C2 (Vx.len (below a.den)) j2,.bool (decide (b.num<0)),.slice C3 (Vx.len b.num.natAbs) j3,.slice C4 (Vx.len (below b.den)) j4,.bool (decide (r.num<0)),.slice C5 (Vx.len r.num.natAbs) j5,.slice C6 (Vx.len (below r.den)) j6] 71)
 have g1:=hA_ w (.cells #[.bool (decide (a.num<0)),.slice C1 (Vx.len a.num.natAbs) j1,.slice C2 (Vx.len (below a.den)) j2,.bool (decide (b.num<0)),.slice C3 (Vx.len b.num.natAbs) j3,.slice C4 (Vx.len (below b.den)) j4,.bool (decide (r.num<0)),.slice C5 (Vx.len r.num.natAbs) j5,.slice C6 (Vx.len (below r.den)) j6] 71)
 rw [←hw1] at b1 g1
 replace g1:=hid g1
 replace b1:=hid b1
 go_enter Tryz.func59,Tryz.ntmps59
 go_upto_region 1 with fail
 rw [←hw1]
 clear hw1
 have hg:w1.heap[w.heap.size]?=some (.cells #[.bool (decide (a.num<0)),.slice C1 (Vx.len a.num.natAbs) j1,.slice C2 (Vx.len (below a.den)) j2,.bool (decide (b.num<0)),.slice C3 (Vx.len b.num.natAbs) j3,.slice C4 (Vx.len (below b.den)) j4,.bool (decide (r.num<0)),.slice C5 (Vx.len r.num.natAbs) j5,.slice C6 (Vx.len (below r.den)) j6] 71 (0,0)):=((Below.refl _ w1).block _ (gE.1 g1.out).1).trans g1.out
 have z_p_0:w1.cell? ⟨w.heap.size,0,none⟩=some (.bool (decide (a.num<0))):=cR _ _ _ _ _ _ hg
 have z_p_1:w1.cell? ⟨w.heap.size,1,none⟩=some (.slice C1 (Vx.len a.num.natAbs) j1):=cR _ _ _ _ _ _ hg
 have z_p_2:w1.cell? ⟨w.heap.size,2,none⟩=some (.slice C2 (Vx.len (below a.den)) j2):=cR _ _ _ _ _ _ hg
 have z_p_3:w1.cell? ⟨w.heap.size,3,none⟩=some (.bool (decide (b.num<0))):=cR _ _ _ _ _ _ hg
 have z_p_4:w1.cell? ⟨w.heap.size,4,none⟩=some (.slice C3 (Vx.len b.num.natAbs) j3):=cR _ _ _ _ _ _ hg
 have z_p_5:w1.cell? ⟨w.heap.size,5,none⟩=some (.slice C4 (Vx.len (below b.den)) j4):=cR _ _ _ _ _ _ hg
 have z_p_6:w1.cell? ⟨w.heap.size,6,none⟩=some (.bool (decide (r.num<0))):=cR _ _ _ _ _ _ hg
 have z_p_7:w1.cell? ⟨w.heap.size,7,none⟩=some (.slice C5 (Vx.len r.num.natAbs) j5):=cR _ _ _ _ _ _ hg
 have z_p_8:w1.cell? ⟨w.heap.size,8,none⟩=some (.slice C6 (Vx.len (below r.den)) j6):=cR _ _ _ _ _ _ hg
 clear hg
 have HX:=hid (CI' (hp.out.keep b1.out) hg.out sa.out sb.out)
 go_wp2_with fail
 refine (HX.out).mono ?_
 rintro e w2 ⟨rfl,b2⟩
 replace b2:=hid b2
 clear HX
 have y0_2:=hid (bS b1.out b2.out)
 have FB:=hid y0_2.out
 go_wp2_with fail
 go_ret
 exact ⟨rfl,FB.out⟩
end Go.Proofs.YtcicfnlljdnagaaGreatDoor.Rf
namespace Go.Proofs.YtcicfnlljdnagaaGreatDoor
open Lib (hid)
open Go.RowKit
open Vx
theorem FQ' {w:World} {vx vy:Value} {x y:Rat} (hx:Ad' w vx x) (hy:Ad' w vy y) (hs:Ab' x≤34359738368) (ht:Ab' y≤34359738368) :
   Calls Tryz.prog 27 #[vx,vy] w (Ao' w (x / y)):=by
 obtain ⟨A1,c1,A2,c2,rfl,-,-⟩:=id hx.opened
 obtain ⟨A3,c3,A4,c4,rfl,-,-⟩:=id hy.opened
 obtain ⟨wB,hwB⟩:=eX (((w.alloc (.cells #[.bool (decide (x.num<0)),.slice A1 (len x.num.natAbs) c1,.slice A2 (len (below x.den)) c2] 32)).alloc (.cells #[.bool (decide (y.num<0)),.slice A3 (len y.num.natAbs) c3,.slice A4 (len (below y.den)) c4] 32)).alloc (.cells #[.bool false,.slice none 0 0,.slice none 0 0] 32))
 obtain ⟨b0,g0,g1,g2⟩:=AD hwB
 obtain ⟨k0,k1,k2⟩:=Ae g0
 obtain ⟨k3,k4,k5⟩:=Ae g1
 have HK0:=hid (Ak'.start (T:=32) rfl (AK' _ _ _ _ _ _ _) g2)
 have HB0:=hid b0
 have hlt1:w.heap.size<w.heap.size+2:=by omega
 have hlt2:w.heap.size+1<w.heap.size+2:=by omega
 clear g0 g1 g2 b0
 obtain ⟨q,hq⟩:=eX (x / y:Rat)
 obtain ⟨cc,hcc⟩:∃ cc:Int,cc=if y=0 then 10 else 0:=⟨_,rfl⟩
 have HX:=hid (CP' (hx.keep HB0.out) (hy.keep HB0.out) hs ht)
 rw [←hq,←hcc] at HX
 rw [←hq]
 clear hq hcc hx hy hs ht
 go_enter Tryz.func27,Tryz.ntmps27
 go_upto_region 1 with fail
 rw [←hwB]
 clear hwB
 go_wp2_with fail
 refine (HX.out).mono ?_
 rintro e w2 ⟨v2,rfl,hv2,b2⟩
 obtain ⟨B1,e1,B2,e2,rfl,-,-⟩:=hv2.opened
 have HK2:=hid (HK0.out.call b2)
 go_upto_region 2 with fail
 obtain ⟨w3,hw3⟩:=eX (w2.alloc (.cells #[.bool (decide (q.num<0)),.slice B1 (len q.num.natAbs) e1,.slice B2 (len (below q.den)) e2] 32))
 have b3:Below w2.heap.size w2 w3:=by rw [hw3];exact (Below.refl _ _).alloc (nL _) _
 have g3:w3.heap[w2.heap.size]?=some (.cells #[.bool (decide (q.num<0)),.slice B1 (len q.num.natAbs) e1,.slice B2 (len (below q.den)) e2] 32 (0,0)):=by rw [hw3];exact hA_ w2 _
 obtain ⟨p0,p1,p2⟩:=Ae g3
 have hk:=(HK2.out.call b3).held (Aj'.refl _)
 have hv3:=hv2.keep b3
 rw [←hw3]
 clear hw3 g3 b3 b2 HX
 obtain ⟨-,c0,c1',c2',f0,f1,f2,-⟩:=id hk
 have HD:=hk.done (q:=q) (b:=decide (q.num<0)) (A1:=B1) (n1:=len q.num.natAbs) (c1:=e1) (A2:=B2) (n2:=len (below q.den)) (c2:=e2) (hv3)
 obtain ⟨d1,d2,d3⟩:=HD
 obtain ⟨r0,r1,r2⟩:=Ae d3
 have HD:=hid (And.intro d1 d2)
 clear d1 d2 d3
 go_wp2_with fail
 refine bP (v:=.agg #[.bool (decide (q.num<0)),.slice (B1) (len q.num.natAbs) (e1),.slice (B2) (len (below q.den)) (e2)]) ?_ rfl ⟨_,rfl,HD.out.1,Ai HB0.out (by omega) HD.out.2⟩
 simp [results,Tryz.results27,go_sem,r0,r1,r2]
end Go.Proofs.YtcicfnlljdnagaaGreatDoor
