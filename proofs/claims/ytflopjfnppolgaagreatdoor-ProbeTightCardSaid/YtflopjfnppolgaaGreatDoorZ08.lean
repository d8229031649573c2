/-
  Contracts of the functions that the law calls, for every input (Cut Div).
-/
import Derived.Test.YtflopjfnppolgaaGreatDoorZ00
import Derived.Test.YtflopjfnppolgaaGreatDoorZ07
import Derived.Deep.QuietTactic
import Derived.BigQuiet
import Derived.Test.YtflopjfnppolgaaGreatDoorZ06
set_option linter.all false
set_option maxRecDepth 100000
set_option maxHeartbeats 40000000
namespace Go.Proofs.YtflopjfnppolgaaGreatDoor
open Lib (hid)
open Go.RowKit
open Vx
def CM' (w:World) (x y:Nat) (e:Ending) (w':World):Prop:=∃ v u,e=.returned (.tuple #[v,u])∧Nt w' v x∧Nt w' u y∧Below w.heap.size w w'
theorem EY' (a h j:Nat):word (a / W^h) j=word a (h+j):=by
 unfold word
 rw [Nat.div_div_eq_div_mul,←Nat.pow_add]
theorem Dm {a h:Nat} (hl:h<len a):len (a / W^h)=len a - h:=by
 have h1:len (a / W^h)≤len a - h:=by
   apply AA
   rw [Nat.div_lt_iff_lt_mul (AH' h),←Nat.pow_add,show len a - h+h=len a by omega]
   exact Ao a
 rcases Nat.lt_or_ge (len (a / W^h)) (len a - h) with h2 | h2
 · have h3:=Cv' (x:=a / W^h) (j:=len a - h - 1) (by omega)
   rw [EY',show h+(len a - h - 1)=len a - 1 by omega] at h3
   have:=(BW' (Ak.1 (show 0<len a by omega))).2
   omega
 · omega
theorem BZ' {w:World} {a h:Nat} {va:Value} (ha:Nt w va a) (hh:0<h) :
   Calls Tryz.prog 135 #[va,.int .i64 (h:Nat)] w (CM' w (a%W^h) (a / W^h)):=by
 obtain ⟨A,c,ea,hca,hca2,_,hp⟩:=id ha
 subst ea
 by_cases hl:len a≤h
 · go_enter Tryz.func135,Tryz.ntmps135
   go_wp2_with fail
   go_ret2
   refine ⟨_,_,rfl,?_,?_,Below.refl _ _⟩
   · rw [AY' hl];exact ha
   · rw [Nat.div_eq_of_lt (ltl (Ao a) (Nat.pow_le_pow_right W_pos hl))]
     exact Nt.zero _
 · obtain ⟨g,o,rfl,hg,hcell⟩:=hp (Ak.1 (by omega))
   have hrd:Bk' w w.heap.size (.slice (some ⟨g,o,none⟩) h c) h (a%W^h) :=
     ⟨_,c,rfl,by omega,hca2,Nat.mod_lt _ (AH' h),fun _=>⟨g,o,rfl,hg,fun j hj=>by rw [Cb hj];exact hcell j (by omega)⟩⟩
   have hl':h<len a:=by omega
   have hle:((h:Nat):Int)≤((len a:Nat):Int):=by omega
   have hcc:((len a:Nat):Int)≤((c:Nat):Int):=by omega
   go_enter Tryz.func135,Tryz.ntmps135
   go_wp2_with fail
   go_quiet ((go_at_call 105;exact Calls.quiet_of_same (Dy (B:=w.heap.size) (z:=a%W^h) hrd)))
   go_wp2_with fail
   go_ret2
   refine ⟨_,_,rfl,hrd.trimmed,?_,Aw _ _⟩
   have hne:a / W^h≠0:=by intro e;have:=Dm hl';rw [e,AG'] at this;omega
   refine ⟨_,c - h,by rw [Dm hl'];rfl,by rw [Dm hl'];omega,by omega,fun e=>absurd e hne,fun _=>⟨g,o+h,rfl,hg,fun j hj=>?_⟩⟩
   rw [Dm hl'] at hj
   rw [EY',Nat.add_assoc]
   exact hcell (h+j) (by omega)
theorem F2' {a b K:Nat}:(a%K+a / K)*(b%K+b / K) - a%K*(b%K) - a / K*(b / K)=a%K*(b / K)+a / K*(b%K):=by
 rw [Nat.add_mul,Nat.mul_add,Nat.mul_add];omega
theorem F3' {a b K:Nat}:a*b=a%K*(b%K)+K*(a%K*(b / K)+a / K*(b%K))+K*K*(a / K*(b / K)):=by
 have ea:=Nat.mod_add_div a K
 have eb:=Nat.mod_add_div b K
 generalize a%K=p at *
 generalize a / K=q at *
 generalize b%K=r at *
 generalize b / K=s at *
 rw [←ea,←eb]
 grind
theorem DL (a h:Nat):len (a / W^h)≤len a - h:=by
 apply AA
 rw [Nat.div_lt_iff_lt_mul (AH' h),←Nat.pow_add]
 exact ltl (Ao a) (Nat.pow_le_pow_right W_pos (by omega))
theorem Dr {cs cs':List Nat} {o n N k m:Nat} (hN:o+n=N) (hs:∀ i,i<o→cs'.getD i 0=cs.getD i 0) (h:seg cs' o n+W^n*k=seg cs o n+m) :
   seg cs' 0 N+W^N*k=seg cs 0 N+W^o*m:=by
 subst hN
 rw [AB',AB',Nat.zero_add,BH' (cs:=cs') (ds:=cs) (o:=0) (p:=0) (n:=o) (fun j hj=>by rw [Nat.zero_add];exact hs j hj)]
 have:=congrArg (W^o * ·) h
 simp only [Nat.mul_add,←Nat.mul_assoc,←Nat.pow_add] at this
 omega
theorem Fr {s12 s11 low P k11 k12 mh hh ab:Nat} (e1:s11+P*k11=low+mh) (e2:s12+P*k12=s11+hh) (e3:ab=low+mh+hh) (e4:ab<P):s12=ab:=by
 rcases Nat.eq_zero_or_pos k11 with h1 | h1
 · rcases Nat.eq_zero_or_pos k12 with h2 | h2
   · subst h1 h2;omega
   · have:=mL P h2;omega
 · have:=mL P h1;omega
def EQ (k:Nat):Prop:=∀ (w:World) (a b:Nat) (va vb:Value),Nt w va a→Nt w vb b→len a≤k→len b≤k →
  Calls Tryz.prog 64 #[va,vb] w (AI w (a*b))
theorem DL' (a h:Nat):len (a%W^h)≤h:=AA (Nat.mod_lt _ (AH' h))
theorem EZ {x y n:Nat} (h:x≤y) (hy:len y≤n):len x≤n:=nT (Am h) hy
theorem C4' {w:World} {a b k:Nat} {va vb:Value} (hk:k≤4398046511104) (ih:∀ j,j<k→EQ j) (ha:Nt w va a) (hb:Nt w vb b) (hs:len a≤k) (hl:len b≤len a) (h40:40≤len b) :
   Calls Tryz.prog 103 #[va,vb] w (AI w (a*b)):=by
 obtain ⟨A,c,ea,hca,hca2,_⟩:=id ha
 obtain ⟨A',c',eb,hcb,hcb2,_⟩:=id hb
 subst ea
 subst eb
 obtain ⟨h,hh⟩:=eX ((len a+1) / 2)
 have hq:((len a:Nat):Int)+1=((len a+1:Nat):Int):=by omega
 have hq2:(((len a:Nat):Int)+1) / 2=((h:Nat):Int):=by omega
 have ih1:=ih (h+1) (by omega)
 have Hh:=hid hh
 have l1:0<h:=by omega
 have l2:2*h≤len a+1:=by omega
 have l3:len a≤2*h:=by omega
 clear hh hq
 have la0:=DL' a h
 have la1:=DL a h
 have lb0:=DL' b h
 have lb1:=DL b h
 have ls:=F3' (a:=a) (b:=b) (K:=W^h)
 have lab:=At' a b
 have p1:len (a%W^h*(b%W^h))≤len a+len b:=EZ (by rw [ls];omega) lab
 have p2:W^h*(a%W^h*(b / W^h)+a / W^h*(b%W^h))<W^(len a+len b):=Nat.lt_of_le_of_lt (by rw [ls];omega) (ltl (Ao (a*b)) (Nat.pow_le_pow_right W_pos lab))
 have p3:W^h*W^h*(a / W^h*(b / W^h))<W^(len a+len b):=Nat.lt_of_le_of_lt (by rw [ls];omega) (ltl (Ao (a*b)) (Nat.pow_le_pow_right W_pos lab))
 have p4:=F2' (a:=a) (b:=b) (K:=W^h)
 have p5:len (a%W^h*(b / W^h)+a / W^h*(b%W^h))≤len a+len b - h:=AA (Nat.lt_of_mul_lt_mul_left (a:=W^h) (by rwa [←Nat.pow_add,show h+(len a+len b - h)=len a+len b by omega]))
 have p6:len (a / W^h*(b / W^h))≤len a+len b - 2*h:=AA (Nat.lt_of_mul_lt_mul_left (a:=W^h*W^h) (by rw [show W^h*W^h*W^(len a+len b - 2*h)=W^(len a+len b) by rw [←Nat.pow_add,←Nat.pow_add];congr 1;omega];exact p3))
 have LS:=hid ls
 have P4:=hid p4
 clear ls p2 p3 p4
 have q1:=BM (a%W^h) (a / W^h)
 have q2:=BM (b%W^h) (b / W^h)
 have q3:a%W^h*(b%W^h)≤(a%W^h+a / W^h)*(b%W^h+b / W^h):=by rw [Nat.add_mul,Nat.mul_add];omega
 have q4:a / W^h*(b / W^h)≤(a%W^h+a / W^h)*(b%W^h+b / W^h) - a%W^h*(b%W^h):=by rw [Nat.add_mul,Nat.mul_add,Nat.mul_add];omega
 have q5:=At' (a%W^h+a / W^h) (b%W^h+b / W^h)
 have q6:len ((a%W^h+a / W^h)*(b%W^h+b / W^h) - a%W^h*(b%W^h))≤len ((a%W^h+a / W^h)*(b%W^h+b / W^h)):=Am (Nat.sub_le _ _)
 go_enter Tryz.func103,Tryz.ntmps103
 go_wp2_with fail
 refine (BZ' (h:=h) ha l1).mono ?_
 rintro e w1 ⟨vla,vha,rfl,hla,hha,b1⟩
 have hb1:=hb.keep b1
 go_wp2_with fail
 refine (BZ' (h:=h) hb1 l1).mono ?_
 rintro e w2 ⟨vlb,vhb,rfl,hlb,hhb,b2⟩
 have hla2:=hla.keep b2
 have hha2:=hha.keep b2
 go_wp2_with fail
 refine (ih1 _ _ _ _ _ hla2 hlb (by omega) (by omega)).mono ?_
 rintro e w3 ⟨vlow,rfl,hlow,b3⟩
 obtain ⟨Al,cl,el,_⟩:=id hlow
 subst el
 have hla3:=hla2.keep b3
 have hha3:=hha2.keep b3
 have hlb3:=hlb.keep b3
 have hhb3:=hhb.keep b3
 go_wp2_with fail
 refine (ih1 _ _ _ _ _ hha3 hhb3 (by omega) (by omega)).mono ?_
 rintro e w4 ⟨vhigh,rfl,hhigh,b4⟩
 have hla4:=hla3.keep b4
 have hha4:=hha3.keep b4
 have hlb4:=hlb3.keep b4
 have hhb4:=hhb3.keep b4
 have hlow4:=hlow.keep b4
 go_wp2_with fail
 refine (D6' hla4 hha4 (by omega) (by omega)).mono ?_
 rintro e w5 ⟨vsa,rfl,hsa,b5⟩
 have hlb5:=hlb4.keep b5
 have hhb5:=hhb4.keep b5
 have hlow5:=hlow4.keep b5
 have hhigh5:=hhigh.keep b5
 go_wp2_with fail
 refine (D6' hlb5 hhb5 (by omega) (by omega)).mono ?_
 rintro e w6 ⟨vsb,rfl,hsb,b6⟩
 have hsa6:=hsa.keep b6
 have hlow6:=hlow5.keep b6
 have hhigh6:=hhigh5.keep b6
 go_wp2_with fail
 refine (ih1 _ _ _ _ _ hsa6 hsb (by omega) (by omega)).mono ?_
 rintro e w7 ⟨vp,rfl,hp,b7⟩
 have hlow7:=hlow6.keep b7
 have hhigh7:=hhigh6.keep b7
 go_wp2_with fail
 refine (Dl' hp hlow7 (by omega) q3).mono ?_
 rintro e w8 ⟨vq,rfl,hq8,b8⟩
 have hlow8:=hlow7.keep b8
 have hhigh8:=hhigh7.keep b8
 go_wp2_with fail
 refine (Dl' hq8 hhigh8 (by omega) q4).mono ?_
 rintro e w9 ⟨vmid,rfl,hmid,b9⟩
 rw [P4.out] at hmid
 have hlow9:=hlow8.keep b9
 have hhigh9:=hhigh8.keep b9
 obtain ⟨w10,cs,hcp,hr,hlen,hseg,b10,hlt10⟩:=EV' (len a+len b+1) hlow9 (by omega)
 have hmk:=BV (len a+len b+1) (len a+len b+1) (by omega) (by omega)
 have bb:=Ae' (Ae' (Ae' (Ae' (Ae' (Ae' (Ae' (Ae' (Ae' b1 b2) b3) b4) b5) b6) b7) b8) b9) b10
 have hsz:=(Ae' (Ae' (Ae' (Ae' (Ae' (Ae' (Ae' (Ae' b1 b2) b3) b4) b5) b6) b7) b8) b9).size
 clear ih ih1 ha hb hb1 hla2 hha2 hla3 hha3 hlb3 hhb3 hla4 hha4 hlb4 hhb4 hlow4 hlb5 hhb5 hlow5 hhigh5 hsa6 hlow6 hhigh6 hlow7 hhigh7 hlow8 hhigh8 q1 q2 q3 q4 q5 q6 la0 la1 lb0 lb1
 clear b1 b2 b3 b4 b5 b6 b7 b8 hsa hsb hp hq8 hhigh hla hha hlb hhb
 go_wp2_with fail
 refine (BS' hr (by rw [hlen.out];omega) (by rw [hlen.out];omega) (As'.mono hmid b10 (nL _)) (nL _) (by omega)).mono ?_
 rintro e w11 ⟨cs11,k11,rfl,hk11,hw11,hr11,hl11,hs11,hz11,hk11'⟩
 have HL11:=hid hl11;have HS11:=hid hs11;have HZ11:=hid hz11
 clear hl11 hs11 hz11
 go_wp2_with fail
 refine (BS' hr11 (by rw [HL11.out,hlen.out];omega) (by rw [HL11.out,hlen.out];omega) (As'.mono hhigh9 (b10.trans (hw11.below (by omega) (by omega))) (nL _)) (by omega) (by omega)).mono ?_
 rintro e w12 ⟨cs12,k12,rfl,hk12,hw12,hr12,hl12,hs12,hz12,hk12'⟩
 have HL12:=hid hl12;have HS12:=hid hs12;have HZ12:=hid hz12
 clear hl12 hs12 hz12
 go_wp2_with fail
 refine (AV' (hr12.reads (o:=0) (by rw [HL12.out,HL11.out,hlen.out];omega) (nL _) (by omega))).mono ?_
 rintro e w13 ⟨v,rfl,hv,rfl⟩
 go_wp2_with fail
 go_ret
 refine Be.made ⟨v,rfl,hv,rfl⟩ (bb.trans ((hw11.trans hw12).below (by omega) (by omega))) hr12.lt ?_
 have e1:=Dr (N:=len a+len b+1) (by omega) (fun i hi=>HS11.out i (.inl hi)) HZ11.out
 have e2:=Dr (N:=len a+len b+1) (by omega) (fun i hi=>HS12.out i (.inl hi)) HZ12.out
 rw [hseg.out] at e1
 have e3:=LS.out
 have e4:a*b<W^(len a+len b+1):=ltl (Ao _) (Nat.pow_le_pow_right W_pos (by omega))
 rw [show W^(2*h)=W^h*W^h by rw [Nat.two_mul,Nat.pow_add]] at e2
 exact Fr e1 e2 e3 e4
theorem Io' {w:World} {a b k:Nat} {va vb:Value} (hk:k≤4398046511104) (ih:∀ j,j<k→EQ j) (ha:Nt w va a) (hb:Nt w vb b) (hs:len a≤k) (hl:len b≤len a) (h40:40≤len b) :
   Calls Tryz.prog 64 #[va,vb] w (AI w (a*b)):=by
 have hc:=C4' hk ih ha hb hs hl h40
 obtain ⟨A,c,ea,hca,hca2,_⟩:=id ha
 obtain ⟨A',c',eb,hcb,hcb2,_⟩:=id hb
 subst ea
 subst eb
 have hd1:decide (len a<len b)=false:=dF_ (by omega)
 have hd2:decide ((40:Int)≤((len b:Nat):Int))=true:=dT_ (by omega)
 clear ih
 go_enter Tryz.func64,Tryz.ntmps64
 go_wp2_with fail
 refine hc.mono ?_
 rintro e w1 ⟨v,rfl,hv,hb⟩
 go_wp2_with fail
 go_ret
 exact ⟨_,rfl,hv,hb⟩
theorem EZ' {w:World} {a b k:Nat} {va vb:Value} (hk:k≤4398046511104) (ih:∀ j,j<k→EQ j) (ha:Nt w va a) (hb:Nt w vb b) (hs:len a≤k) (hl:len b<len a) (h40:40≤len b) :
   Calls Tryz.prog 64 #[vb,va] w (AI w (a*b)):=by
 have hc:=C4' hk ih ha hb hs (Nat.le_of_lt hl) h40
 obtain ⟨A,c,ea,hca,hca2,_⟩:=id ha
 obtain ⟨A',c',eb,hcb,hcb2,_⟩:=id hb
 subst ea
 subst eb
 have hd1:decide (len b<len a)=true:=dT_ (by omega)
 have hd2:decide ((40:Int)≤((len b:Nat):Int))=true:=dT_ (by omega)
 clear ih
 go_enter Tryz.func64,Tryz.ntmps64
 go_wp2_with fail
 refine hc.mono ?_
 rintro e w1 ⟨v,rfl,hv,hb⟩
 go_wp2_with fail
 go_ret
 exact ⟨_,rfl,hv,hb⟩
theorem IN' (k:Nat) (hk:k≤4398046511104):EQ k:=by
 induction k using Nat.strongRecOn with
 | _ k ih =>
   intro w a b va vb ha hb hs ht
   rcases Nat.lt_or_ge (len a) (len b) with h | h
   · rcases Nat.lt_or_ge (len a) 40 with h1 | h1
     · rw [Nat.mul_comm];exact D9' hb ha (by omega) h h1
     · rw [Nat.mul_comm];exact EZ' hk (fun j hj=>ih j hj (by omega)) hb ha (by omega) h h1
   · rcases Nat.lt_or_ge (len b) 40 with h1 | h1
     · exact Db ha hb (by omega) h h1
     · exact Io' hk (fun j hj=>ih j hj (by omega)) ha hb (by omega) h h1
theorem AS {w:World} {a b:Nat} {va vb:Value} (ha:Nt w va a) (hb:Nt w vb b) (hs:len a≤4398046511104) (ht:len b≤4398046511104) :
   Calls Tryz.prog 64 #[va,vb] w (AI w (a*b)):=IN' 4398046511104 (nL _) w a b va vb ha hb hs ht
def IO (w:World) (gq a b nq N k:Nat) (wr:World):Prop :=
  ∃ cr cq,Below w.heap.size w wr∧AK' wr w.heap.size cr∧AK' wr gq cq∧Hid (cr.length=N)∧Hid (cq.length=nq) ∧
    Hid (seg cr 0 N+b*(W^k*seg cq k (nq - k))=a)∧Hid (seg cr 0 N<b*W^k)
theorem DM {cr:List Nat} {b n p N:Nat} (hN:p+(n+1)≤N) (h:seg cr 0 N<b*W^(p+1)) (hb:b<W^n) :
   seg cr p (n+1)<b*W∧seg cr 0 N=seg cr 0 p+W^p*seg cr p (n+1)∧seg cr (p+(n+1)) (N - (p+(n+1)))=0:=by
 obtain ⟨r,rfl⟩:∃ r,N=p+((n+1)+r):=⟨N - p - (n+1),by omega⟩
 rw [show p+(n+1+r) - (p+(n+1))=r by omega]
 have e:=AB' cr 0 p (n+1+r)
 rw [AB' cr (0+p) (n+1) r,Nat.zero_add] at e
 rw [e] at h ⊢
 have h1:seg cr (p+(n+1)) r=0:=by
   rcases Nat.eq_zero_or_pos (seg cr (p+(n+1)) r) with h0 | h0
   · exact h0
   · have h2:W^p*(W^(n+1)*1)≤W^p*(seg cr p (n+1)+W^(n+1)*seg cr (p+(n+1)) r):=mL _ (nT (mL _ h0) (Nat.le_add_left _ _))
     have h3:b*W^(p+1)≤W^n*W^(p+1):=Nat.mul_le_mul_right _ (Nat.le_of_lt hb)
     have h4:W^n*W^(p+1)=W^p*(W^(n+1)*1):=by rw [Nat.mul_one,←Nat.pow_add,←Nat.pow_add];congr 1;omega
     omega
 rw [h1,Nat.mul_zero,Nat.add_zero] at h ⊢
 refine ⟨?_,rfl,rfl⟩
 have h5:W^p*seg cr p (n+1)<W^p*(b*W):=by
   rw [Nat.pow_succ] at h
   have:b*(W^p*W)=W^p*(b*W):=by rw [Nat.mul_left_comm]
   omega
 exact Nat.lt_of_mul_lt_mul_left h5
theorem F4' {cr cr' cq:List Nat} {a b n p N nq q:Nat} (hcr:∀ d∈cr,d<W) (hN:p+(n+1)≤N) (hb0:0<b) (hb:b<W^n)
   (h1:seg cr 0 N+b*(W^(p+1)*seg cq (p+1) (nq - (p+1)))=a) (h2:seg cr 0 N<b*W^(p+1))
   (hout:∀ i,i<p∨p+(n+1)≤i→cr'.getD i 0=cr.getD i 0) (hz:seg cr' p (n+1)=seg cr p (n+1)%b) (hq:q=seg cr p (n+1) / b)
   (hnq:p<nq) (hlq:cq.length=nq) :
   seg cr' 0 N+b*(W^p*seg (cq.set p q) p (nq - p))=a∧seg cr' 0 N<b*W^p:=by
 obtain ⟨f1,f2,f3⟩:=DM hN h2 hb
 obtain ⟨r,hr⟩:∃ r,N=p+((n+1)+r):=⟨N - p - (n+1),by omega⟩
 have e:=AB' cr' 0 p (n+1+r)
 rw [AB' cr' (0+p) (n+1) r,Nat.zero_add,←hr] at e
 have e2:seg cr' (p+(n+1)) r=0:=by
   rw [show r=N - (p+(n+1)) by omega,←f3]
   exact BH' fun j hj=>hout _ (.inr (by omega))
 have e3:seg cr' 0 p=seg cr 0 p:=BH' fun j hj=>by rw [Nat.zero_add];exact hout _ (.inl hj)
 rw [e2,e3,hz,Nat.mul_zero,Nat.add_zero] at e
 have e4:=Dz (cq.set p q) p (nq - p) (by omega)
 have e5:seg (cq.set p q) (p+1) (nq - p - 1)=seg cq (p+1) (nq - p - 1):=BC' (by omega)
 rw [getD_set,if_pos ⟨rfl,by omega⟩,e5,show nq - p - 1=nq - (p+1) by omega] at e4
 have hs:=Br' hcr 0 p
 constructor
 · rw [e,e4,←h1,f2,hq]
   have hm:=Nat.mod_add_div (seg cr p (n+1)) b
   generalize seg cq (p+1) (nq - (p+1))=S
   generalize seg cr 0 p=T
   rw [Nat.pow_succ]
   generalize seg cr p (n+1) / b=u at *
   generalize seg cr p (n+1)%b=v at *
   rw [←hm]
   generalize W^p=K
   generalize W=V
   grind
 · rw [e]
   have hm:seg cr p (n+1)%b+1≤b:=Nat.mod_lt _ hb0
   have:=mL (W^p) hm
   rw [Nat.mul_add,Nat.mul_one] at this
   rw [Nat.mul_comm b]
   omega
theorem F5' {b s:Nat} (hb:0<b) (hs:s=64 - bitlen (word b (len b - 1))):s≤63∧len (b*2^s)=len b∧W≤2*word (b*2^s) (len b - 1):=by
 obtain ⟨e1,e2⟩:=BW' hb
 have hw:=word_lt b (len b - 1)
 have hl:=Ak.2 hb
 generalize word b (len b - 1)=t at *
 have hbl:bitlen t=t.log2+1:=by unfold bitlen;rw [if_neg (by omega)]
 have hlog:t.log2<64:=(Nat.log2_lt (by omega)).2 (by rw [←AT'];exact hw)
 have h1:2^t.log2≤t:=Nat.log2_self_le (by omega)
 have h2:t<2^(t.log2+1):=Nat.lt_log2_self
 rw [hbl] at hs
 have hp:2^t.log2*2^s=2^63:=by rw [←Nat.pow_add];congr 1;omega
 have hp2:2^(t.log2+1)*2^s=W:=by rw [←Nat.pow_add,AT'];congr 1;omega
 have hbt:b<(t+1)*W^(len b - 1):=by
   rw [e1,Nat.mul_comm];exact Nat.lt_mul_div_succ b (AH' _)
 have htb:t*W^(len b - 1)≤b:=by rw [e1];exact Nat.div_mul_le_self _ _
 have hup:b*2^s<W^len b:=by
   have g1:b*2^s<(t+1)*W^(len b - 1)*2^s:=Nat.mul_lt_mul_of_pos_right hbt (Nat.two_pow_pos s)
   have g2:(t+1)*W^(len b - 1)*2^s≤2^(t.log2+1)*W^(len b - 1)*2^s:=Nat.mul_le_mul_right _ (Nat.mul_le_mul_right _ h2)
   rw [Nat.mul_right_comm (2^(t.log2+1)),hp2,←Nat.pow_succ',show (len b - 1).succ=len b by omega] at g2
   omega
 have hlow:2^63*W^(len b - 1)≤b*2^s:=by
   have g1:2^t.log2*W^(len b - 1)*2^s≤t*W^(len b - 1)*2^s:=Nat.mul_le_mul_right _ (Nat.mul_le_mul_right _ h1)
   have g2:t*W^(len b - 1)*2^s≤b*2^s:=Nat.mul_le_mul_right _ htb
   rw [Nat.mul_right_comm (2^t.log2),hp] at g1
   omega
 have hdiv:2^63≤b*2^s / W^(len b - 1):=by
   rw [Nat.le_div_iff_mul_le (AH' _)];exact hlow
 have hdlt:b*2^s / W^(len b - 1)<W:=by
   rw [Nat.div_lt_iff_lt_mul (AH' _),←Nat.pow_succ',show (len b - 1).succ=len b by omega];exact hup
 have hlen:len (b*2^s)=len b:=by
   have g1:=AA hup
   rcases Nat.lt_or_ge (len (b*2^s)) (len b) with g | g
   · have g2:b*2^s<W^(len b - 1):=ltl (Ao _) (Nat.pow_le_pow_right W_pos (by omega))
     rw [Nat.div_eq_of_lt g2] at hdiv
     omega
   · omega
 refine ⟨by omega,hlen,?_⟩
 unfold word
 rw [Nat.mod_eq_of_lt hdlt]
 have:W=2*2^63:=by rw [AT']
 omega
theorem Hq {a b s la:Nat} (ha:a<W^la) (hs:s≤63) (hb:0<b) (htop:W≤2*word b (len b - 1)) (hn:len b≤la):a*2^s<b*W^(la - len b+1):=by
 obtain ⟨e1,e2⟩:=BW' hb
 have hl:=Ak.2 hb
 have hW:W=2*2^63:=by rw [AT']
 have h1:2^63≤b / W^(len b - 1):=by
   rw [←e1]
   omega
 rw [Nat.le_div_iff_mul_le (AH' _)] at h1
 have h2:=Nat.mul_le_mul_right (W^(la - len b+1)) h1
 rw [Nat.mul_assoc,←Nat.pow_add,show len b - 1+(la - len b+1)=la by omega] at h2
 have h3:a*2^s<W^la*2^s:=Nat.mul_lt_mul_of_pos_right ha (Nat.two_pow_pos s)
 have h4:W^la*2^s≤W^la*2^63:=mL _ (Nat.pow_le_pow_right (by omega) hs)
 rw [Nat.mul_comm (2^63)] at h2
 omega
theorem Ip {a b a' b' s R Q:Nat} (hb:0<b) (hb':b'=b*2^s) (ha':a'=a*2^s) (h:R+b'*Q=a') (hR:R<b'):Q=a / b∧R / 2^s=a%b:=by
 subst hb' ha'
 have hp:=Nat.two_pow_pos s
 have e:=Nat.div_add_mod a b
 have hm:=Nat.mod_lt a hb
 have hQ:Q=a / b:=by
   have h1:a*2^s / (b*2^s)=Q:=by
     rw [←h,Nat.add_mul_div_left _ _ (Nat.mul_pos hb hp),Nat.div_eq_of_lt hR,Nat.zero_add]
   rw [Nat.mul_div_mul_right _ _ hp] at h1
   exact h1.symm
 refine ⟨hQ,?_⟩
 have h2:R=a%b*2^s:=by
   rw [hQ] at h
   have h3:a*2^s=b*2^s*(a / b)+a%b*2^s:=by
     rw [Nat.mul_right_comm,←Nat.add_mul,e]
   omega
 rw [h2,Nat.mul_div_cancel _ hp]
theorem Hq' {w:World} {a b:Nat} {va vb:Value} (ha:Nt w va a) (hb:Nt w vb b) (hs:len a≤1099511627776) (hb0:0<b) (hge:b≤a) (hn2:2≤len b) :
   Calls Tryz.prog 99 #[va,vb] w (CM' w (a / b) (a%b)):=by
 have hcm:=Bs' ha hb
 have hc:decide (Ar a b<0)=false:=by
   unfold Ar;rw [if_neg (by omega)];split <;> rfl
 have hlen:=Am hge
 have hlb:=Ak.2 hb0
 obtain ⟨A,ca,ea,hca,hca2,_⟩:=id ha
 obtain ⟨A',cb,eb,hcb,hcb2,_,hp⟩:=id hb
 obtain ⟨gb,ob,rfl,hgb,hcell⟩:=hp hb0
 subst ea
 subst eb
 have ht:(((len b:Nat):Int)==1)=false:=by rw [beq_eq_false_iff_ne];omega
 obtain ⟨s,hsd⟩:=eX (64 - bitlen (word b (len b - 1)))
 obtain ⟨hs63,hnl,hntop⟩:=F5' hb0 hsd
 have hct:=hcell (len b - 1) (by omega)
 have hlz:=Cy (word b (len b - 1)) (word_lt _ _)
 rw [←hsd] at hlz
 have hs':(s:Int)≤63:=by omega
 clear hcell hp hsd
 obtain ⟨b',hb'⟩:∃ b',b'=b*2^s:=⟨_,rfl⟩
 obtain ⟨a',ha'⟩:∃ a',a'=a*2^s:=⟨_,rfl⟩
 rw [←hb'] at hnl hntop
 have HB:=hid hb';have HA:=hid ha';have HNL:=hid hnl
 have hb0':0<b':=by rw [hb'];exact Nat.mul_pos hb0 (Nat.two_pow_pos s)
 have ha'len:len a'≤len a+1:=by
   rw [ha']
   refine nT (At' _ _) (Nat.add_le_add_left ?_ _)
   exact AA (by rw [Nat.pow_one,AT'];exact Nat.pow_lt_pow_right (by omega) (by omega))
 clear hnl hb' ha'
 go_enter Tryz.func99,Tryz.ntmps99
 go_wp2_with fail
 refine hcm.mono ?_
 rintro e w1 ⟨rfl,m,rfl⟩
 have hct1:(w.drewN m).cell? ⟨gb,ob+(len b - 1),none⟩=some (.int .u64 (word b (len b - 1):Nat)):=hct
 have ha1:=ha.drewN m
 have hb1:=hb.drewN m
 have bd1:=Aw w m
 generalize w.drewN m=w1 at hct1 ha1 hb1 bd1 ⊢
 clear hct ha hb hcm
 go_wp2_with fail
 refine (hlz _).mono ?_
 rintro e w' ⟨rfl,rfl⟩
 go_wp2_with fail
 refine (Dk' (n:=s) hb1 (by omega) (by omega)).mono ?_
 rintro e w2 ⟨vb',rfl,hvb,bd2⟩
 rw [←HB.out] at hvb
 have ha2:=ha1.keep bd2
 obtain ⟨Ab,cb2,eb2,hcb3,hcb4,_⟩:=id hvb
 subst eb2
 have hmk:=BV ((len a:Nat)+1) (len a+1) (by omega) (by omega)
 have hms:=BD w2 (len a+1)
 have hmb:=Ba' w2 (len a+1)
 clear hct1 hlz
 have l1:len b'≤len b:=by have:=HNL.out;omega
 have l2:len b≤len b':=by have:=HNL.out;omega
 go_wp2_with fail
 refine (Dk' (n:=s) (ha2.keep hmb) (by omega) (by omega)).mono ?_
 rintro e w3 ⟨va',rfl,hva,bd3⟩
 rw [←HA.out] at hva
 have hr3:AK' w3 w2.heap.size (List.replicate (len a+1) 0):=(B7' w2 (len a+1)).keep (bd3.block _ (by omega))
 obtain ⟨Aa,ca2,ea2,hca3,hca4,_⟩:=id hva
 subst ea2
 obtain ⟨w4,hcp,hw4,cr,hr4,hl4,hd4⟩:=D4' (c:=len a+1) hr3 (by simp) (As'.reads hva) ha'len
 have hl4':cr.length=len a+1:=by rw [hl4];exact List.length_replicate
 have hseg4:=CR hd4 (nL _) ha'len
 have HL4:=hid hl4';have HS4:=hid hseg4
 have hmk2:=BV ((len a:Nat) - (len b':Nat)+1) (len a - len b'+1) (by omega) (by omega)
 have hms2:=BD w4 (len a - len b'+1)
 have hmb2:=Ba' w4 (len a - len b'+1)
 have hb23:=hmb.trans (bd3.mono hmb.size)
 have bd4:=hb23.trans (hw4.below (by have:=bd3.size;omega) (nL _))
 have hs4:=hr4.lt
 have hvb5:=(hvb.keep bd4).keep hmb2
 have hr5:AK' (mk w4 (len a - len b'+1)) w2.heap.size cr:=hr4.keep (hmb2.block _ hs4)
 clear hl4 hd4 hl4' hseg4 hr3 hva hca3 hca4
 clear ha1 hb1 ha2 bd3
 have bd5:=Ae' bd4 hmb2
 have bd12:=Ae' bd1 bd2
 have hsz:=(Ae' bd1 bd2).size
 go_wp2_with fail
 go_loopw [9] (fun i wr=>∃ k:Nat,k≤len a - len b'+1∧i=.int .i64 (downI k)∧IO w2 w4.heap.size a' b' (len a - len b'+1) (len a+1) k wr) (fun i _=>(intOf i+1).toNat)
 case atStart =>
   refine ⟨len a - len b'+1,nL _,congrArg (Value.int .i64) (by rw [AM'];omega),cr,List.replicate (len a - len b'+1) 0,bd5,hr5,B7' _ _,HL4.out,List.length_replicate,?_,?_⟩
   · show _=_
     rw [Nat.sub_self,show seg (List.replicate (len a - len b'+1) 0) (len a - len b'+1) 0=0 from rfl,Nat.mul_zero,Nat.mul_zero,Nat.add_zero]
     exact HS4.out
   · show _<_
     rw [HS4.out,HA.out]
     exact Hq (Ao a) hs63 hb0' (by rw [HNL.out];exact hntop) (by omega)
 case round =>
   obtain ⟨k,hk,rfl,cr1,cq1,hbw,hr1,hq1,HLr,HLq,HE,HLT⟩:=hrel
   clear hmk hmk2 hms hms2 hmb hmb2 hb23 bd4 hr4 hr5 hvb5 bd5 HL4 HS4 hcp hw4 ha'len bd1 bd2
   match k,hk,HE,HLT with
   | 0,hk,HE,HLT =>
     simp only [downI]
     have hqs:=hq1.lt
     have hrs:=hr1.lt
     go_wp2_with fail
     refine (AV' (hq1.reads (o:=0) (n:=len a - len b'+1) (by rw [HLq.out];omega) (nL _) (by omega))).mono ?_
     rintro e wz ⟨vq,rfl,hvq,rfl⟩
     go_wp2_with fail
     refine (AV' (hr1.reads (o:=0) (n:=len a+1) (by rw [HLr.out];omega) (nL _) (by omega))).mono ?_
     rintro e wz ⟨vr,rfl,hvr,rfl⟩
     have hvr':Nt wr vr (seg cr1 0 (len a+1)):=hvr.more hrs
     have hlr:len (seg cr1 0 (len a+1))≤len a+1:=AA (Br' hr1.2 _ _)
     go_wp2_with fail
     refine (CL' (n:=s) hvr' (by omega) (by omega)).mono ?_
     rintro e w9 ⟨vs,rfl,hvs,bd9⟩
     have HF:=hid (Ip (s:=s) (R:=seg cr1 0 (len a+1)) (Q:=seg cq1 0 (len a - len b'+1)) hb0 HB.out HA.out (by have:=HE.out;rw [Nat.pow_zero,Nat.one_mul,Nat.sub_zero] at this;exact this) (by have:=HLT.out;rw [Nat.pow_zero,Nat.mul_one] at this;exact this))
     go_wp2_with fail
     go_ret2
     refine ⟨_,_,rfl,?_,?_,Ae' bd12 (Ae' hbw bd9)⟩
     · rw [←HF.out.1];exact As'.mono (hvq.more hqs) bd9 bd9.size
     · rw [←HF.out.2];exact hvs
   | p+1,hk,HE,HLT =>
     simp only [downI]
     have hbn:b'<W^len b':=Ao b'
     have hvb1:As' wr w2.heap.size (.slice Ab (len b') cb2) b':=As'.mono hvb hbw (nL _)
     have hA:=(DM (n:=len b') (p:=p) (by omega) HLT.out hbn).1
     have hpl:p+len b'≤len a:=by omega
     go_wp2_with fail
     rw [show p+len b'+1 - p=len b'+1 by omega]
     refine (Fq' (cs:=cr1) hr1 (by rw [HLr.out];omega) (by omega) (by omega) (by rw [HLr.out];omega) hvb1 (nL _) rfl (by omega) (by rw [HNL.out];exact hntop) hA).mono ?_
     rintro e wt ⟨cr2,q,rfl,hq,hwt,hr2,hl2,hs2,hz2,hk2⟩
     have hqs:=hq1.lt
     have hne:w4.heap.size≠w2.heap.size:=by omega
     have hq2:AK' wt w4.heap.size cq1:=hq1.keep (hwt.block _ hqs (by simp;omega))
     have c1:=hq2.cell (i:=p) (by rw [HLq.out];omega)
     have c2:=hq2.frozen p
     generalize cq1.getD p 0=d at c1
     have HL2:=hid hl2;have HS2:=hid hs2;have HZ2:=hid hz2;have HK2:=hid hk2
     have hgg:p<len a - len b'+1:=by omega
     clear hl2 hs2 hz2 hk2 hvb1 hA
     go_wp2_with fail
     go_roundw
     case rel =>
       have hfin:=F4' (cr:=cr1) (cr':=cr2) (cq:=cq1) (a:=a') (b:=b') (n:=len b') (p:=p) (N:=len a+1) (nq:=len a - len b'+1) (q:=q) hr1.2 (by omega) hb0' hbn HE.out HLT.out HS2.out HZ2.out HK2.out hgg HLq.out
       have hws:w2.heap.size≤wr.heap.size:=hbw.size
       refine ⟨p,by omega,congrArg (Value.int .i64) (AM' p).symm,cr2,cq1.set p q,hbw.trans ((hwt.below hws (nL _)).trans ((Az.set wt w4.heap.size p (.int .u64 (q:Nat))).below (by have:=hwt.size;omega) (by omega))),hr2.keep (heap_setCell_other _ _ _ _ (by simp;omega)),hq2.set hq,?_,?_,hfin.1,hfin.2⟩
       · show _=_
         rw [HL2.out,HLr.out]
       · show _=_
         rw [List.length_set,HLq.out]
     case measure=>simp [intOf]
theorem Ea' {w:World} {a b:Nat} {va vb:Value} (ha:Nt w va a) (hb:Nt w vb b) (hs:len a≤1099511627776) (hb0:0<b) :
   Calls Tryz.prog 99 #[va,vb] w (CM' w (a / b) (a%b)):=by
 have hcm:=Bs' ha hb
 rcases Nat.lt_or_ge a b with hlt | hge
 · have hc:Ar a b = -1:=by unfold Ar;rw [if_pos hlt]
   rw [hc] at hcm
   go_enter Tryz.func99,Tryz.ntmps99
   go_wp2_with fail
   refine hcm.mono ?_
   rintro e w1 ⟨rfl,m,rfl⟩
   go_wp2_with fail
   go_ret2
   refine ⟨_,_,rfl,?_,?_,Aw _ _⟩
   · rw [Nat.div_eq_of_lt hlt];exact Nt.zero _
   · rw [Nat.mod_eq_of_lt hlt];exact ha.drewN m
 · have hc:decide (Ar a b<0)=false:=by
     unfold Ar;rw [if_neg (by omega)];split <;> rfl
   have hlen:=Am hge
   have hlb:=Ak.2 hb0
   obtain ⟨A,ca,ea,hca,hca2,_⟩:=id ha
   obtain ⟨A',cb,eb,hcb,hcb2,_,hp⟩:=id hb
   obtain ⟨gb,ob,rfl,hgb,hcell⟩:=hp hb0
   subst ea
   subst eb
   by_cases h1:len b=1
   · have hx:word b 0=b:=by unfold word;rw [Nat.pow_zero,Nat.div_one,Nat.mod_eq_of_lt];have:=Ao b;rwa [h1,Nat.pow_one] at this
     have hbW:b<W:=by have:=Ao b;rwa [h1,Nat.pow_one] at this
     have hc0:=hcell 0 (by omega)
     rw [hx,Nat.add_zero] at hc0
     have HH:=hid h1
     have ht:(((len b:Nat):Int)==1)=true:=by rw [beq_iff_eq];omega
     have hlb1:((0:Nat):Int)<((len b:Nat):Int):=by omega
     clear h1 hx hcell hp
     go_enter Tryz.func99,Tryz.ntmps99
     go_wp2_with fail
     refine hcm.mono ?_
     rintro e w1 ⟨rfl,m,rfl⟩
     have hc1:(w.drewN m).cell? ⟨gb,ob,none⟩=some (.int .u64 (b:Nat)):=hc0
     have ha1:=ha.drewN m
     have hbd:=Aw w m
     generalize w.drewN m=w1 at hc1 ha1 hbd ⊢
     go_wp2_with fail
     refine (Cg ha1 (by omega) hb0 hbW).mono ?_
     rintro e w2 ⟨v,rfl,hv,b2⟩
     go_wp2_with fail
     refine (Eo' (a%b) (Nat.lt_trans (Nat.mod_lt _ hb0) hbW)).mono ?_
     rintro e w3 ⟨u,rfl,hu,b3⟩
     go_wp2_with fail
     go_ret2
     exact ⟨_,_,rfl,hv.keep b3,hu,Ae' (Ae' hbd b2) b3⟩
   · exact Hq' ha hb hs hb0 hge (by omega)
end Go.Proofs.YtflopjfnppolgaaGreatDoor
