/-
  Contracts of the functions that the law calls, for every input (Ri Rj Rk).
-/
import Derived.Test.YtflopjfnppolgaaGreatDoorZ00
import Derived.Test.YtflopjfnppolgaaGreatDoorZ23
import Derived.Laws.CopyOwn
import Derived.Deep.OwnRows
set_option linter.all false
set_option maxRecDepth 100000
set_option maxHeartbeats 40000000
namespace Go.Proofs.YtflopjfnppolgaaGreatDoor.Rf
open Lib (hid)
open Go.RowKit
open Rx
def Bb' (w:World) (g l:Nat) (f:Nat→Nat):Prop:=w.heap[g]?=some (.cells ((List.range l).map fun t=>Value.int .i64 (f t:Nat)).toArray 3 (0,0))
theorem Bb'.cell {w:World} {g l t d:Nat} {f:Nat→Nat} (h:Bb' w g l f) (ht:t<l) (hd:f t=d):w.cell? ⟨g,t,none⟩=some (.int .i64 (d:Nat)):=by
 rw [cR _ _ _ _ _ _ h,←hd];simp [ht]
theorem Bb'.frozen {w:World} {g l:Nat} {f:Nat→Nat} (h:Bb' w g l f) (t:Nat):w.frozen? ⟨g,t,none⟩=false:=fR w g t _ _ h
theorem Bb'.congr {w:World} {g l:Nat} {f f':Nat→Nat} (h:Bb' w g l f) (e:∀ t,t<l→f t=f' t):Bb' w g l f':=by
 have e2:((List.range l).map fun t=>Value.int .i64 (f t:Nat))=(List.range l).map fun t=>Value.int .i64 (f' t:Nat):=List.map_congr_left fun t ht=>by rw [e t (List.mem_range.1 ht)]
 unfold Bb' at *
 rw [h,e2]
theorem Bb'.set {w:World} {g l t d:Nat} {f:Nat→Nat} (h:Bb' w g l f):Bb' (w.setCell ⟨g,t,none⟩ (.int .i64 (d:Nat))) g l (fun j=>if j=t then d else f j):=by
 unfold Bb'
 rw [heap_setCell_same w g t _ _ _ h]
 congr 2
 apply Array.ext'
 simp only [Array.setIfInBounds,List.size_toArray,List.length_map,List.length_range]
 apply List.ext_getElem?
 intro j
 by_cases hj:j<l
 · by_cases hjt:j=t
   · subst hjt;simp [hj]
   · split <;> simp [hj,hjt,Ne.symm hjt]
 · split <;> simp [hj]
theorem Bb'.keep {w w':World} {g l:Nat} {f:Nat→Nat} (h:Bb' w g l f) (e:w'.heap[g]?=w.heap[g]?):Bb' w' g l f:=e.trans h
theorem Bb'.reads {w:World} {g l z:Nat} (h:Bb' w g l (word z)) (hl:l≤maxLen) (hz:z<V^l):A8' w (.slice (some ⟨g,0,none⟩) l l) l z :=
 ⟨_,l,rfl,nL _,hl,hz,fun _=>⟨g,0,rfl,(gE.1 h).1,fun j hj=>by rw [Nat.zero_add];exact h.cell hj rfl⟩⟩
theorem bigT:Tryz.prog.underlying 41=some (.slice 3):=by kernel_rfl
theorem mkBig (n:Nat) (hn:n≤17592186044416) (w:World) :
   (Instr.makeSlice 41 (.int .i64 (n:Nat)) (.int .i64 (n:Nat))).run Tryz.prog w=.ok (.slice (some ⟨w.heap.size,0,none⟩) n n) (w.alloc (.cells (madeCells #[.int .i64 0] n) 3)) :=
 run_make_row' _ _ _ 8 bigT CX rfl .i64 .i64 n (by omega) (by omega) w
theorem Iv (w:World) (n:Nat):Bb' (w.alloc (.cells (madeCells #[.int .i64 0] n) 3)) w.heap.size n (fun _=>0):=by
 unfold Bb'
 rw [hA_]
 congr 2
 apply Array.ext'
 simp [madeCells,Nat.mod_one,List.map_const']
def Cf (T0 a y j:Nat):Nat:=(T0%V^j+a*(y%V^j)) / V^j
theorem G0 (T0 a y:Nat):Cf T0 a y 0=0:=by simp [Cf,Nat.mod_one]
theorem Iv' {a:Nat} (T0 y j:Nat) (ha:a<V):Cf T0 a y j<V:=by
 unfold Cf
 have h1:=Nat.mod_lt T0 (AQ' j)
 have h2:=Nat.mod_lt y (AQ' j)
 rw [Nat.div_lt_iff_lt_mul (AQ' j)]
 have h3:a*(y%V^j)≤(V - 1)*(y%V^j):=Nat.mul_le_mul_right _ (by omega)
 have h4:(V - 1)*(y%V^j)≤(V - 1)*(V^j - 1):=mL _ (by omega)
 have h5:V*V^j=(V - 1)*(V^j - 1)+(V - 1)+V^j:=by
   obtain ⟨p,hp⟩:∃ p,V^j=p+1:=⟨V^j - 1,by have:=AQ' j;omega⟩
   rw [hp,Nat.add_sub_cancel]
   obtain ⟨q,hq⟩:∃ q,V=q+1:=⟨V - 1,by have:=Bn';omega⟩
   rw [hq,Nat.add_sub_cancel,Nat.add_mul,Nat.mul_add];omega
 have:=Bn'
 omega
theorem G0' (T0 a y j:Nat):word (T0+a*y) j=(Cf T0 a y j+(word T0 j+a*word y j))%V∧Cf T0 a y (j+1)=(Cf T0 a y j+(word T0 j+a*word y j)) / V:=by
 have e:T0%V^(j+1)+a*(y%V^(j+1))=(T0%V^j+a*(y%V^j))+V^j*(word T0 j+a*word y j):=by
   rw [AB,AB,Nat.mul_add,Nat.mul_add,Nat.mul_left_comm];omega
 obtain ⟨_,h2,h3⟩:=CW' (s:=T0%V^j+a*(y%V^j)) (t:=word T0 j+a*word y j) (AQ' j) rfl
 constructor
 · have h4:(T0+a*y)%V^(j+1)=((T0%V^j+a*(y%V^j))+V^j*(word T0 j+a*word y j))%V^(j+1):=by
     rw [←e];simp [Nat.add_mod,Nat.mul_mod]
   rw [CJ h4]
   exact h2
 · unfold Cf
   rw [e,Nat.pow_succ]
   exact h3
theorem Ez {x y i:Nat}:(∀ t,t<i→word (x%V^(i+1)*y) t=word (x%V^i*y) t) ∧
   (∀ j,word (x%V^(i+1)*y) (i+j)=word (x%V^i*y / V^i+word x i*y) j)∧(∀ j,word (x%V^i*y) (i+j)=word (x%V^i*y / V^i) j):=by
 have e:x%V^(i+1)*y=x%V^i*y+V^i*(word x i*y):=by rw [AB,Nat.add_mul,Nat.mul_assoc]
 refine ⟨fun t ht=>?_,fun j=>?_,fun j=>?_⟩
 · rw [←Cb ht,e,Nat.add_mul_mod_self_left,Cb ht]
 · unfold word
   rw [e,Nat.pow_add,←Nat.div_div_eq_div_mul,Nat.add_mul_div_left _ _ (AQ' i)]
   rfl
 · unfold word
   rw [Nat.pow_add,←Nat.div_div_eq_div_mul]
theorem Gi' (x y k j:Nat):∀ a b b0 c d c':Nat,word x k=a→word y j=b→word (x%V^k*y) (k+j)=b0→Cf (x%V^k*y / V^k) a y j=c→word (x%V^(k+1)*y) (k+j)=d→Cf (x%V^k*y / V^k) a y (j+1)=c' →
   d=(c+(b0+a*b))%65536∧c'=(c+(b0+a*b)) / 65536∧a<65536∧b<65536∧b0<65536∧c<65536:=by
 intro a b b0 c d c' e1 e2 e3 e4 e5 e6
 obtain ⟨-,h2,h3⟩:=Ez (x:=x) (y:=y) (i:=k)
 obtain ⟨s1,s2⟩:=G0' (x%V^k*y / V^k) a y j
 have ha:=word_lt x k
 have hb:=word_lt y j
 have hb0:=word_lt (x%V^k*y) (k+j)
 rw [e1] at ha
 have hc:=Iv' (a:=a) (x%V^k*y / V^k) y j ha
 rw [e4] at hc s1 s2
 rw [e2] at hb s1 s2
 rw [e3] at hb0
 rw [←h3 j,e3] at s1 s2
 rw [h2 j,e1] at e5
 rw [e5] at s1
 rw [e6] at s2
 exact ⟨s1,s2,ha,hb,hb0,hc⟩
theorem G1' {x y k t m:Nat} (hm:len y=m) (ht:k+(m+1)≤t):word (x%V^(k+1)*y) t=0∧word (x%V^k*y) t=0:=by
 have key:∀ q,q≤k+1→word (x%V^q*y) t=0:=fun q hq=>by
   apply Cv'
   have h1:=At' (x%V^q) y
   have h2:=AA (Nat.mod_lt x (AQ' q))
   omega
 exact ⟨key _ (nL _),key _ (by omega)⟩
theorem G2' (t:Nat):word 0 t=0:=by simp [word]
theorem CY {n:Nat} (h:n<9223372036854775808):IntKind.i64.wrap ((n:Nat):Int)=((n:Nat):Int):=by rw [IntKind.wrap_i64];omega
theorem Db {a b:Nat} (ha:a<65536) (hb:b<65536):a*b<4294967296:=by
 have:=Nat.mul_le_mul (Nat.le_of_lt_succ ha) (Nat.le_of_lt_succ hb);omega
theorem Bo {w:World} {vx vy:Value} {x y:Nat} (hx:Ap' w vx x) (hy:Ap' w vy y) (sx:len x≤1099511627776) (sy:len y≤1099511627776) :
   Calls Tryz.prog 43 #[vx,vy] w (Cj' w (x*y)):=by
 obtain ⟨n,hn⟩:=eY (len x)
 obtain ⟨m,hm⟩:=eY (len y)
 obtain ⟨l,hl⟩:=eY (n+m+1)
 have hlt:x*y<V^l:=by
   have h1:=Ao x
   have h2:=Ao y
   rw [hn] at h1
   rw [hm] at h2
   rw [←hl,Nat.pow_succ,Nat.pow_add]
   refine ltl (Nat.mul_lt_mul_of_lt_of_le h1 (Nat.le_of_lt h2) (AQ' m)) (Nat.le_mul_of_pos_right _ Bn')
 have hend:x%V^n=x:=AY' (by omega)
 have hbig:=hid (fun k t (ht:k+(m+1)≤t)=>G1' (x:=x) hm ht)
 unfold Ap' at hx hy
 rw [hn] at hx sx
 rw [hm] at hy sy
 have hl2:((n:Nat):Int)+(m:Nat)+1=((l:Nat):Int):=by omega
 have hmk:=mkBig l (by omega) w
 obtain ⟨w1,hw1⟩:=eX (w.alloc (.cells (madeCells #[.int .i64 0] l) 3))
 have hr1:=Iv w l
 have hb1:=Am' w (.cells (madeCells #[.int .i64 0] l) 3)
 rw [←hw1] at hmk hr1 hb1
 replace hr1:=hid hr1
 replace hb1:=hid hb1
 obtain ⟨g,hg⟩:=eY w.heap.size
 have hgl:g<w1.heap.size:=by rw [←hg,hw1,World.size_alloc];omega
 rw [hg] at hmk hr1
 clear hw1 hn hm
 replace hlt:=hid hlt
 replace hend:=hid hend
 have hl3:n+m+1=l:=hl
 replace hl:=hid hl
 obtain ⟨A1,c1,rfl,-,-,-,-⟩:=id hx
 obtain ⟨A2,c2,rfl,-,-,-,-⟩:=id hy
 replace hx:=hid hx
 replace hy:=hid hy
 replace hg:=hid hg
 go_enter Tryz.func43,Tryz.ntmps43
 go_wp2_with fail
 clear hl2 hmk
 go_loopw [6] (fun i wr=>∃ k:Nat,k≤n∧i=.int .i64 k∧Hid (Bb' wr g l (word (x%V^k*y)))∧Hid (Below w.heap.size w wr)) (fun i _=>n - (intOf i).toNat)
 case atStart=>exact ⟨0,Nat.zero_le _,rfl,hr1.out.congr (fun t _=>by rw [Nat.pow_zero,Nat.mod_one,Nat.zero_mul,G2']),hb1.out⟩
 case round =>
   obtain ⟨k,hk,rfl,hrow,hbl⟩:=hrel
   rcases Nat.lt_or_ge k n with hkn | hkn
   · obtain ⟨P,hP⟩:=eY (x%V^k*y)
     obtain ⟨P',hP'⟩:=eY (x%V^(k+1)*y)
     obtain ⟨a,ha⟩:=eY (word x k)
     rw [hP] at hrow
     have hst:=hid (fun j=>Gi' x y k j)
     rw [hP,hP'] at hst
     have hbg:=hid (fun t ht=>hbig.out k t ht)
     rw [hP,hP'] at hbg
     replace hP:=hid hP
     replace hP':=hid hP'
     go_wp2_with fail
     go_loopw [7,8] (fun c jv wq=>∃ j:Nat,j≤m+1∧jv=.int .i64 j∧c=.int .i64 (Cf (P / V^k) a y j:Nat)∧Hid (Bb' wq g l (fun t=>if t<k+j then word P' t else word P t))∧Hid (Below w.heap.size w wq)) (fun _ jv _=>m+1 - (intOf jv).toNat)
     case atStart=>exact ⟨0,by omega,rfl,by rw [G0];rfl,hrow.out.congr (fun t _=>by
       split
       · rename_i h;rw [←hP.out,←hP'.out,Ez.1 t h];rfl
       · rfl),hbl.out⟩
     case round =>
       obtain ⟨j,hj,rfl,rfl,hrow,hbl⟩:=hrel
       rcases Nat.lt_or_ge j (m+1) with hjm | hjm
       · obtain ⟨q,hq⟩:=eY (k+j)
         obtain ⟨b,hb⟩:=eY (word y j)
         obtain ⟨b0,hb0⟩:=eY (word P (k+j))
         obtain ⟨c,hc⟩:=eY (Cf (P / V^k) a y j)
         obtain ⟨c',hc'⟩:=eY (Cf (P / V^k) a y (j+1))
         obtain ⟨d,hd⟩:=eY (word P' (k+j))
         obtain ⟨s1,s2,l1,l2,l3,l4⟩:=hst.out j a b b0 c d c' ha hb hb0 hc hd hc'
         rw [hc]
         have hql:q<l:=by omega
         obtain ⟨wq,hwq⟩:=eX wr
         rw [←hwq] at hrow hbl ⊢
         clear hwq
         have hcz:=hrow.out.cell (t:=q) hql (d:=b0) (by rw [if_neg (by omega),←hq];exact hb0)
         obtain ⟨gx,ox,rfl,hcx⟩:=(hx.out.keep hbl.out).at hkn
         rw [ha] at hcx
         have HY:=hid (fun i=>GY' (BK' ((hy.out.keep hbl.out).keep (Ik _ i)) (k:=j) (by omega)))
         rw [hb] at HY
         have l5:=Db l1 l2
         obtain ⟨p,hp⟩:=eY (a*b)
         rw [hp] at l5 s1 s2
         obtain ⟨e1,he1⟩:=eY (b0+p)
         obtain ⟨e2,he2⟩:=eY (c+e1)
         rw [he1,he2] at s1 s2
         have v1:IntKind.i64.wrap (((a:Nat):Int)*(b:Nat))=((p:Nat):Int):=by rw [←Int.natCast_mul,hp];exact CY (by omega)
         have v2:IntKind.i64.wrap (((b0:Nat):Int)+(p:Nat))=((e1:Nat):Int):=by rw [←Int.natCast_add,he1];exact CY (by omega)
         have v3:IntKind.i64.wrap (((c:Nat):Int)+(e1:Nat))=((e2:Nat):Int):=by rw [←Int.natCast_add,he2];exact CY (by omega)
         have v4:IntKind.i64.wrap (((k:Nat):Int)+(j:Nat))=((q:Nat):Int):=by rw [←Int.natCast_add,hq];exact CY (by omega)
         have v5:((k:Nat):Int)+(j:Nat)=((q:Nat):Int):=by omega
         have hand:bits .and .i64 ((e2:Nat):Int) 65535=((d:Nat):Int):=by rw [Do];omega
         have hshr:((e2:Nat):Int) / 65536=((c':Nat):Int):=by omega
         have hqn:((q:Nat):Int).toNat=q:=Int.toNat_natCast q
         replace hd:=hid hd
         replace hc':=hid hc'
         replace hq:=hid hq
         clear hb hb0 hc s1 s2 l1 l2 l3 l4 l5 hp he1 he2
         go_wp2_with fail
         go_quiet ((go_at_call 83;exact HY.out _))
         obtain ⟨wz,hwz⟩:=eX (wq.drewN nq)
         have hcz2:wz.cell? ⟨g,q,none⟩=some (.int .i64 (b0:Nat)):=by rw [hwz];exact hcz
         have hfz:wz.frozen? ⟨g,q,none⟩=false:=by rw [hwz];exact hrow.out.frozen q
         have hrow2:=hid (Bb'.set (t:=q) (d:=d) (show Bb' wz g l _ by rw [hwz];exact hrow.out))
         have hbl2:=hid ((show Below w.heap.size w wz by rw [hwz];exact Below.drewN hbl.out nq).setCell (p:=⟨g,q,none⟩) (Nat.le_of_eq hg.out) (.int .i64 (d:Nat)))
         rw [←hwz]
         clear hwz hrow hbl HY
         go_wp2_with fail
         go_roundw
         case rel =>
           refine ⟨j+1,by omega,by go_num,by rw [hc'.out],hrow2.out.congr ?_,hbl2⟩
           intro t ht
           have hq2:=hq.out
           by_cases h:t=q
           · rw [if_pos h,if_pos (by omega),h,←hq2];exact hd.out.symm
           · rw [if_neg h]
             by_cases h2:t<k+j
             · rw [if_pos h2,if_pos (by omega)]
             · rw [if_neg h2,if_neg (by omega)]
         case measure=>simp [intOf];omega
       · obtain rfl:j=m+1:=by omega
         have hrow2:Hid (Bb' wr g l (word P')):=hid (hrow.out.congr (fun t _=>by
           by_cases h:t<k+(m+1)
           · rw [if_pos h]
           · rw [if_neg h,(hbg.out t (by omega)).1,(hbg.out t (by omega)).2]))
         have t1:decide (((m:Nat):Int)+1≤((m:Nat):Int))=false:=dF_ (by omega)
         clear hst hbg hrow
         go_wp2_with fail
         go_roundw
         case rel=>exact ⟨k+1,by omega,by go_num,by rw [hP'.out];exact hrow2,hbl⟩
         case measure=>simp [intOf];omega
   · obtain rfl:k=n:=by omega
     rw [hend.out] at hrow
     have hl9:l≤maxLen:=by unfold maxLen;omega
     have F:=hid (Bb'.reads hrow.out hl9 hlt.out)
     clear hl9
     go_wp2_with fail
     refine (BZ' F.out).mono ?_
     rintro e w' ⟨v2,rfl,hv2,rfl⟩
     replace hv2:=hid hv2
     go_wp2_with fail
     go_ret
     exact ⟨_,rfl,hv2.out,hbl.out⟩
theorem Iw {x y k X q r t:Nat} (hy:0<y) (hX:x / 2^(k+1)=X) (hq:X / y=q) (hr:X%y=r) (ht:x / 2^k%2=t) :
   (y≤2*r+t→x / 2^k / y=2*q+1∧x / 2^k%y=2*r+t - y)∧(2*r+t<y→x / 2^k / y=2*q∧x / 2^k%y=2*r+t)∧t≤1∧r<y:=by
 have e:x / 2^k=2*X+t:=by
   rw [Nat.pow_succ,←Nat.div_div_eq_div_mul] at hX
   omega
 have h1:=Nat.div_add_mod X y
 rw [hq,hr] at h1
 have h2:r<y:=by rw [←hr];exact Nat.mod_lt _ hy
 have ht1:t≤1:=by omega
 rw [e]
 refine ⟨fun h=>?_,fun h=>?_,ht1,h2⟩
 · have e2:2*X+t=(2*r+t - y)+y*(2*q+1):=by rw [Nat.mul_add,Nat.mul_one,Nat.mul_left_comm];omega
   rw [e2,Nat.add_mul_div_left _ _ hy,Nat.add_mul_mod_self_left,Nat.div_eq_of_lt (by omega),Nat.mod_eq_of_lt (by omega)]
   exact ⟨Nat.zero_add _,rfl⟩
 · have e2:2*X+t=(2*r+t)+y*(2*q):=by rw [Nat.mul_left_comm];omega
   rw [e2,Nat.add_mul_div_left _ _ hy,Nat.add_mul_mod_self_left,Nat.div_eq_of_lt (by omega),Nat.mod_eq_of_lt (by omega)]
   exact ⟨Nat.zero_add _,rfl⟩
theorem FO {x y:Nat} (h:y≤x):decide (Ar x y≥0)=true:=by
 refine dT_ ?_
 rcases Nat.lt_or_ge y x with h1 | h1
 · rw [Ce h1];decide
 · rw [Nat.le_antisymm h h1];rw [Ce'];decide
theorem Fe {x y:Nat} (h:x<y):decide (Ar x y≥0)=false:=by rw [BD' h];rfl
def Iw' (w:World) (p q:Nat) (e:Ending) (w':World):Prop:=∃ v1 v2,e=.returned (.tuple #[v1,v2])∧Ap' w' v1 p∧Ap' w' v2 q∧Below w.heap.size w w'
theorem Fe' (w:World) (g:Nat):Ap' w (.slice (some ⟨g,0,none⟩) 0 0) 0:=⟨_,0,by rw [AG'],by rw [AG'];exact nL _,Nat.zero_le _,by rw [AG'];exact Nat.zero_lt_one,fun h=>absurd h (by rw [AG'];omega)⟩
theorem Ae' {w w1 w2:World} (h:Below w.heap.size w w1) (k:Below w1.heap.size w1 w2):Below w.heap.size w w2:=h.trans (k.mono h.size)
theorem Ix {r y:Nat} (h:r≤2*y):len r≤len y+1:=by
 apply AA
 have h1:=Ao y
 rw [Nat.pow_succ]
 have:V^len y*2≤V^len y*V:=mL _ (by decide)
 omega
theorem Df' {w:World} {vx vy:Value} {x y:Nat} (hx:Ap' w vx x) (hy:Ap' w vy y) (h0:0<y) (sx:len x≤68719476736) (sy:len y≤68719476736) :
   Calls Tryz.prog 152 #[vx,vy] w (Iw' w (x / y) (x%y)):=by
 obtain ⟨n,hn⟩:=eY (len x)
 have htop:x / 2^(16*n)=0:=Nat.div_eq_of_lt (by have:=Ao x;rw [hn] at this;rw [Nat.pow_mul];exact this)
 have hx2:=hid hx
 obtain ⟨A,c,rfl,-,-,-,-⟩:=id hx
 rw [hn] at hx2 sx ⊢
 clear hx
 obtain ⟨q,hq⟩:=eY (x / y)
 obtain ⟨r,hr⟩:=eY (x%y)
 rw [hq,hr]
 replace hq:=hid hq
 replace hr:=hid hr
 replace hn:=hid hn
 replace hy:=hid hy
 replace htop:=hid htop
 replace h0:=hid h0
 obtain ⟨l,hl⟩:=eY (16*n)
 have hl2:16*((n:Nat):Int)=((l:Nat):Int):=by omega
 have hl3:l≤1125899906842624:=by omega
 replace hl:=hid hl
 go_enter Tryz.func152,Tryz.ntmps152
 go_wp2_with fail
 clear hl2
 go_loopw [6,7,8] (fun qv rv i wr=>∃ k:Nat,k≤l∧i=.int .i64 (downI k)∧Hid (Ap' wr qv (x / 2^k / y))∧Hid (Ap' wr rv (x / 2^k%y))∧Hid (Below w.heap.size w wr)) (fun _ _ i _=>(intOf i+1).toNat)
 case atStart =>
   refine ⟨l,nL _,by rw [AM'],?_,?_,?_⟩
   · rw [←hl.out,htop.out,Nat.zero_div];exact Fe' _ _
   · rw [←hl.out,htop.out,Nat.zero_mod];exact Fe' _ _
   · exact Ae' (Am' w _) (Am' _ _)
 case round =>
   obtain ⟨k,hk,rfl,hqv,hrv,hbl⟩:=hrel
   rcases k with _ | k
   · rw [show downI 0 = -1 from rfl]
     rw [Nat.pow_zero,Nat.div_one,hq.out] at hqv
     rw [Nat.pow_zero,Nat.div_one,hr.out] at hrv
     go_wp2_with fail
     go_ret2
     exact ⟨_,_,rfl,hqv.out,hrv.out,hbl.out⟩
   · obtain ⟨X,hX⟩:=eY (x / 2^(k+1))
     rw [hX] at hqv hrv
     obtain ⟨q0,hq0⟩:=eY (X / y)
     obtain ⟨r0,hr0⟩:=eY (X%y)
     obtain ⟨t,ht⟩:=eY (x / 2^k%2)
     rw [hq0] at hqv
     rw [hr0] at hrv
     obtain ⟨d1,d2,d3,d4⟩:=Iw h0.out hX hq0 hr0 ht
     have HB:=hid (Iu (hx2.out.keep hbl.out) (i:=k) (by omega))
     rw [ht] at HB
     have sr:len r0≤1099511627776:=nT (Am (y:=y) (Nat.le_of_lt d4)) (by omega)
     have sq:len q0≤1099511627776:=by
       refine nT (Am (y:=x) ?_) (by rw [hn.out];omega)
       rw [←hq0,←hX]
       exact nT (Nat.div_le_self _ _) (Nat.div_le_self _ _)
     obtain ⟨r1,hr1⟩:=eY (2*r0+t)
     have sr1:len r1≤1099511627776:=nT (Ix (y:=y) (by omega)) (by omega)
     have sy2:len y≤1099511627776:=by omega
     rw [hr1] at d1 d2
     rw [show downI (k+1)=((k:Nat):Int) from rfl]
     obtain ⟨cc,hcc⟩:=eY (Ar r1 y)
     have HC:=hid (fun (u:World) (v:Value) (hv:Ap' u v r1) (hb:Below wr.heap.size wr u)=>BE hv ((hy.out.keep hbl.out).keep hb) sr1 sy2)
     rw [hcc] at HC
     have HD:=hid (Cr' (b:=t) hrv.out d3 sr)
     rw [hr1] at HD
     clear hX hq0 hr0 ht hr1 d4 hx2
     rcases Nat.lt_or_ge r1 y with hry | hry
     · obtain ⟨p1,p2⟩:=d2 hry
       have tc:decide (cc≥0)=false:=by rw [←hcc];exact Fe hry
       replace hcc:=hid hcc
       replace p1:=hid p1
       replace p2:=hid p2
       clear d1 d2 hry d3
       go_wp2_with fail
       refine (HB.out).mono ?_
       rintro e w' ⟨rfl,rfl⟩
       go_wp2_with fail
       refine (HD.out).mono ?_
       rintro e w1 ⟨v1,rfl,hv1,hb1⟩
       replace hv1:=hid hv1
       replace hb1:=hid hb1
       obtain ⟨A1,c1,rfl,-,-,-,-⟩:=id hv1.out
       have HC2:=hid (HC.out _ _ hv1.out hb1.out)
       clear HB HD HC
       go_wp2_with fail
       refine (HC2.out).mono ?_
       rintro e w' ⟨rfl,rfl⟩
       have HD2:=hid (Cr' (b:=0) (hqv.out.keep hb1.out) (by omega) sq)
       go_wp2_with fail
       refine (HD2.out).mono ?_
       rintro e w2 ⟨v2,rfl,hv2,hb2⟩
       replace hv2:=hid hv2
       replace hb2:=hid hb2
       clear HD2 HC2
       go_wp2_with fail
       go_roundw
       case rel=>exact ⟨k,by omega,by rw [AM'],by rw [p1.out];exact hv2,by rw [p2.out];exact hid (hv1.out.keep hb2.out),hid (Ae' hbl.out (Ae' hb1.out hb2.out))⟩
       case measure=>simp [intOf]
     · obtain ⟨p1,p2⟩:=d1 hry
       have tc:decide (cc≥0)=true:=by rw [←hcc];exact FO hry
       replace hcc:=hid hcc
       replace p1:=hid p1
       replace p2:=hid p2
       have HM:=hid (fun (u:World) (v:Value) (hv:Ap' u v r1) (hb:Below wr.heap.size wr u)=>Ck' hv ((hy.out.keep hbl.out).keep hb) hry sr1)
       clear d1 d2 hry d3
       go_wp2_with fail
       refine (HB.out).mono ?_
       rintro e w' ⟨rfl,rfl⟩
       go_wp2_with fail
       refine (HD.out).mono ?_
       rintro e w1 ⟨v1,rfl,hv1,hb1⟩
       replace hv1:=hid hv1
       replace hb1:=hid hb1
       obtain ⟨A1,c1,rfl,-,-,-,-⟩:=id hv1.out
       have HC2:=hid (HC.out _ _ hv1.out hb1.out)
       have HM2:=hid (HM.out _ _ hv1.out hb1.out)
       clear HB HD HC HM
       go_wp2_with fail
       refine (HC2.out).mono ?_
       rintro e w' ⟨rfl,rfl⟩
       go_wp2_with fail
       refine (HM2.out).mono ?_
       rintro e w2 ⟨v2,rfl,hv2,hb2⟩
       replace hv2:=hid hv2
       replace hb2:=hid hb2
       have HD2:=hid (Cr' (b:=1) ((hqv.out.keep hb1.out).keep hb2.out) (by omega) sq)
       clear HC2 HM2
       go_wp2_with fail
       refine (HD2.out).mono ?_
       rintro e w3 ⟨v3,rfl,hv3,hb3⟩
       replace hv3:=hid hv3
       replace hb3:=hid hb3
       clear HD2
       go_wp2_with fail
       go_roundw
       case rel=>exact ⟨k,by omega,by rw [AM'],by rw [p1.out];exact hv3,by rw [p2.out];exact hid (hv2.out.keep hb3.out),hid (Ae' hbl.out (Ae' hb1.out (Ae' hb2.out hb3.out)))⟩
       case measure=>simp [intOf]
end Go.Proofs.YtflopjfnppolgaaGreatDoor.Rf
