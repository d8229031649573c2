/-
  Contracts of the functions that the law calls, for every input (Sub Mul).
-/
import Derived.Test.YtflopjfnppolgaaGreatDoorZ00
import Derived.Test.YtflopjfnppolgaaGreatDoorZ03
import Derived.Test.YtflopjfnppolgaaGreatDoorZ06
set_option linter.all false
set_option maxRecDepth 100000
set_option maxHeartbeats 40000000
namespace Go.Proofs.YtflopjfnppolgaaGreatDoor
open Lib (hid)
open Go.RowKit
open Vx
theorem EY {P z z' s bm bw d c k l h:Nat} (e1:z+bm=s+P*c) (e2:z'+P*d=z+P*l) (e3:l+bw+c=d+W*h) (hk:k=P*W) :
   z'+(bm+P*bw)=s+k*h:=by
 subst hk
 have:=congrArg (P * ·) e3
 simp only [Nat.mul_add,←Nat.mul_assoc] at this
 omega
theorem Dl' {w:World} {a b:Nat} {va vb:Value} (ha:Nt w va a) (hb:Nt w vb b) (hs:len a≤8796093022208) (hba:b≤a) :
   Calls Tryz.prog 97 #[va,vb] w (AI w (a - b)):=by
 have hlen:=Am hba
 have hsub:=@FW'
 have hsub0:=@IL
 rcases Nat.eq_zero_or_pos a with h0 | h0
 · subst h0
   obtain rfl:b=0:=by omega
   obtain rfl:=As'.zero' ha
   obtain rfl:=As'.zero' hb
   go_enter Tryz.func97,Tryz.ntmps97
   go_wp2_with fail
   refine (BM' (Nt.zero _) (by rw [AG'];omega)).mono ?_
   rintro e w1 (⟨-,rfl,rfl⟩ | ⟨h,-⟩)
   · go_wp2_with fail
     refine wp_loop_rounds 1 ?_
     rw [rounds_succ]
     go_wp2_with fail
     refine (AV' (Bk'.nil _ 0)).mono ?_
     rintro e w4 ⟨v,rfl,hv,rfl⟩
     go_wp2_with fail
     go_ret
     exact ⟨_,rfl,hv.more (Nat.zero_le _),Below.refl _ _⟩
   · omega
 · obtain ⟨A',c',rfl,hc1,hc2,hz,hp⟩:=id hb
   go_enter Tryz.func97,Tryz.ntmps97
   go_wp2_with fail
   refine (BM' ha (by omega)).mono ?_
   rintro e w1 (⟨h,-,-⟩ | ⟨-,cs,rfl,hr,hl,hseg,hb1⟩)
   · omega
   · have HL:=hid hl;have HS:=hid hseg;clear hl hseg
     go_wp2_with fail
     go_loopw [6,13] (fun cv i wr=>∃ k c:Nat,k≤len a∧i=.int .i64 k∧cv=.int .u64 c∧c≤1∧AJ w1 w.heap.size cs 0 (len a) (fun z=>z+b%W^k=a+W^k*c) wr) (fun _ i _=>len a - (intOf i).toNat)
     case atStart=>exact ⟨0,0,by omega,rfl,rfl,by omega,AJ.start hr (by rw [HS.out];simp [Nat.mod_one])⟩
     case round =>
       obtain ⟨k,cy,hk,rfl,rfl,hcy,cs1,hw1,hr1,hl1,hs1,hR1⟩:=hrel
       have h2:=fun (hh:k<len a)=>hr1.cell (i:=0+k) (by rw [hl1,HL.out];omega)
       have h3:=hr1.frozen (0+k)
       have hd:=hr1.getD_lt (0+k)
       generalize hdd:cs1.getD (0+k) 0=d at h2 hd
       rw [Nat.zero_add] at h2 h3
       have Hd:=hid hdd;clear hdd
       have HR:=hid hR1;clear hR1
       have Hl1:=hid hl1;clear hl1
       have hsz:=hr.lt
       by_cases hlt:k<len a
       · have h2':=h2 hlt
         clear h2
         by_cases hkb:k<len b
         · obtain ⟨gb,ob,rfl,hgb,hcell⟩:=hp (Ak.1 (by omega))
           have h1:wr.cell? ⟨gb,ob+k,none⟩=some (.int .u64 (word b k:Nat)):=(World.cell?_of_block (hw1.block gb (by omega) (by simp;omega))).trans ((hb1.cell (p:=⟨gb,ob+k,none⟩) hgb).trans (hcell k hkb))
           clear hcell
           go_wp2_with fail
           go_roundw
           case rel =>
             refine ⟨k+1,dhi d (word b k) cy,by omega,by go_num,rfl,EU _ _ _,?_⟩
             have:=AJ.step (d:=dlo d (word b k) cy) (R:=fun z=>z+b%W^(k+1)=a+W^(k+1)*dhi d (word b k) cy) hw1 hr1 Hl1.out hs1 hlt (by rw [HL.out];omega) (dlo_lt _ _ _) fun z hz=>by
               rw [Hd.out] at hz
               rw [AB]
               exact EY HR.out hz (EP hd (word_lt _ _) hcy) (Nat.pow_succ ..)
             rwa [Nat.zero_add] at this
           case measure=>simp [intOf];omega
         · have hw0:word b k=0:=Cv' (by omega)
           have Hw:=hid hw0;clear hw0
           go_wp2_with fail
           go_roundw
           case rel =>
             refine ⟨k+1,dhi d 0 cy,by omega,by go_num,rfl,EU _ _ _,?_⟩
             have:=AJ.step (d:=dlo d 0 cy) (R:=fun z=>z+b%W^(k+1)=a+W^(k+1)*dhi d 0 cy) hw1 hr1 Hl1.out hs1 hlt (by rw [HL.out];omega) (dlo_lt _ _ _) fun z hz=>by
               rw [Hd.out] at hz
               rw [AB,Hw.out]
               exact EY HR.out hz (EP hd W_pos hcy) (Nat.pow_succ ..)
             rwa [Nat.zero_add] at this
           case measure=>simp [intOf];omega
       · obtain rfl:k=len a:=by omega
         clear h2 h3
         go_wp2_with fail
         refine (AV' (hr1.reads (o:=0) (by rw [Hl1.out,HL.out];omega) (nL _) (by omega))).mono ?_
         rintro e w4 ⟨v,rfl,hv,rfl⟩
         go_wp2_with fail
         go_ret
         refine Be.made ⟨v,rfl,hv,rfl⟩ (hb1.trans (hw1.below (by omega) (nL _))) hr1.lt ?_
         have e1:=HR.out
         rw [AY' hlen] at e1
         have e2:=Br' hr1.2 0 (len a)
         rcases Nat.eq_zero_or_pos cy with h | h
         · subst h;omega
         · obtain rfl:cy=1:=by omega
           omega
theorem Er' {cs cs':List Nat} {N k n z c y:Nat} (hN:k+n+1≤N) (hl:cs'.length=N)
   (hsame:∀ i,i<k∨k+n≤i→cs'.getD i 0=cs.getD i 0) (h0:cs.getD (k+n) 0=0) (hz:seg cs' k n=z) (hzc:z+W^n*c=seg cs k n+y) :
   seg (cs'.set (k+n) c) 0 N=seg cs 0 N+W^k*y:=by
 have e1:seg (cs'.set (0+(k+n)) c) 0 N+W^(k+n)*cs'.getD (0+(k+n)) 0=seg cs' 0 N+W^(k+n)*c:=CK' (by omega) (by omega)
 rw [Nat.zero_add,hsame _ (.inr (nL _)),h0] at e1
 obtain ⟨r,rfl⟩:∃ r,N=k+(n+r):=⟨N - k - n,by omega⟩
 have e2:seg cs' 0 (k+(n+r))=seg cs 0 k+W^k*(z+W^n*seg cs (k+n) r):=by
   rw [AB',AB',Nat.zero_add,hz,BH' (cs:=cs') (ds:=cs) (o:=0) (p:=0) (n:=k) (fun j hj=>by rw [Nat.zero_add];exact hsame _ (.inl hj)),BH' (cs:=cs') (ds:=cs) (o:=k+n) (p:=k+n) (n:=r) (fun j hj=>hsame _ (.inr (by omega)))]
 have e3:seg cs 0 (k+(n+r))=seg cs 0 k+W^k*(seg cs k n+W^n*seg cs (k+n) r):=by rw [AB',AB',Nat.zero_add]
 have e4:=congrArg (W^k * ·) hzc
 simp only [Nat.mul_add,←Nat.mul_assoc,←Nat.pow_add] at e2 e3 e4
 omega
def CM (w:World) (g a b N k:Nat) (wr:World):Prop :=
  ∃ cs,Az g w wr∧AK' wr g cs∧cs.length=N∧seg cs 0 N=a*(b%W^k)∧∀ j,k+len a≤j→cs.getD j 0=0
theorem CM.start {w:World} {a b N:Nat}:CM (mk w N) w.heap.size a b N 0 (mk w N) :=
 ⟨_,Az.refl _ _,B7' w N,by simp,by rw [Cx (fun j _=>AW _ _)];simp [Nat.mod_one],fun j _=>AW _ _⟩
theorem Db {w:World} {a b:Nat} {va vb:Value} (ha:Nt w va a) (hb:Nt w vb b) (hs:len a≤4398046511104) (hl:len b≤len a) (h40:len b<40) :
   Calls Tryz.prog 64 #[va,vb] w (AI w (a*b)):=by
 obtain ⟨A,c,ea,hca,hca2,_⟩:=id ha
 obtain ⟨A',c',eb,hcb,hcb2,_,hp⟩:=id hb
 subst ea
 subst eb
 have hd1:decide (len a<len b)=false:=dF_ (by omega)
 have hd2:decide ((40:Int)≤((len b:Nat):Int))=false:=dF_ (by omega)
 have hmk:=BV (len a+len b) (len a+len b) (by omega) (by omega)
 have hms:=BD w (len a+len b)
 have hmb:=Ba' w (len a+len b)
 go_enter Tryz.func64,Tryz.ntmps64
 go_wp2_with fail
 go_loopw [29] (fun i wr=>∃ k:Nat,k≤len b∧i=.int .i64 k∧CM (mk w (len a+len b)) w.heap.size a b (len a+len b) k wr) (fun i _=>len b - (intOf i).toNat)
 case atStart=>exact ⟨0,by omega,rfl,CM.start⟩
 case round =>
   obtain ⟨k,hk,rfl,cs1,hw1,hr1,hl1,hR1,hz1⟩:=hrel
   have HR:=hid hR1;clear hR1
   have HL:=hid hl1;clear hl1
   have HZ:=hid hz1;clear hz1
   have hsz:=hr1.lt
   have hbw:=hw1.below (B:=w.heap.size) (by omega) (nL _)
   have ha1:=As'.mono ha (hmb.trans hbw) (nL _)
   by_cases hlt:k<len b
   · obtain ⟨gb,ob,rfl,hgb,hcell⟩:=hp (Ak.1 (by omega))
     have h1:wr.cell? ⟨gb,ob+k,none⟩=some (.int .u64 (word b k:Nat)):=((hmb.trans hbw).cell (p:=⟨gb,ob+k,none⟩) hgb).trans (hcell k hlt)
     clear hcell
     go_wp2_with fail
     refine (BV' hr1 (by rw [HL.out];omega) ha1 (nL _) rfl (word_lt _ _)).mono ?_
     rintro e w3 ⟨cs3,c3,rfl,hc3,hw3,hr3,hl3,hs3,hz3⟩
     have h4:=hr3.cell (i:=k+len a) (by rw [hl3,HL.out];omega)
     have h5:=hr3.frozen (k+len a)
     generalize hdd:cs3.getD (k+len a) 0=d at h4
     clear hdd
     have HL3:=hid hl3;have HS3:=hid hs3;have HZ3:=hid hz3
     clear hl3 hs3 hz3
     go_wp2_with fail
     go_roundw
     case rel =>
       refine ⟨k+1,by omega,by go_num,cs3.set (k+len a) c3,(hw1.trans hw3).trans (Az.set _ _ _ _),hr3.set hc3,by rw [List.length_set,HL3.out,HL.out],?_,fun j hj=>?_⟩
       · rw [Er' (cs:=cs1) (by omega) (by rw [HL3.out,HL.out]) HS3.out (HZ.out _ (by omega)) rfl HZ3.out,HR.out,AB,Nat.mul_add,←Nat.mul_assoc a,Nat.mul_comm a (W^k),Nat.mul_assoc]
       · rw [getD_set,if_neg (by omega),HS3.out _ (by omega),HZ.out _ (by omega)]
     case measure=>simp [intOf];omega
   · obtain rfl:k=len b:=by omega
     go_wp2_with fail
     refine (AV' (hr1.reads (o:=0) (by rw [HL.out];omega) (nL _) (by omega))).mono ?_
     rintro e w4 ⟨v,rfl,hv,rfl⟩
     go_wp2_with fail
     go_ret
     refine Be.made ⟨v,rfl,hv,rfl⟩ (hmb.trans hbw) hr1.lt ?_
     rw [HR.out,AY' (nL _)]
theorem D9' {w:World} {a b:Nat} {va vb:Value} (ha:Nt w va a) (hb:Nt w vb b) (hs:len a≤4398046511104) (hl:len b<len a) (h40:len b<40) :
   Calls Tryz.prog 64 #[vb,va] w (AI w (a*b)):=by
 obtain ⟨A,c,ea,hca,hca2,_⟩:=id ha
 obtain ⟨A',c',eb,hcb,hcb2,_,hp⟩:=id hb
 subst ea
 subst eb
 have hd1:decide (len b<len a)=true:=dT_ (by omega)
 have hd2:decide ((40:Int)≤((len b:Nat):Int))=false:=dF_ (by omega)
 have hmk:=BV (len a+len b) (len a+len b) (by omega) (by omega)
 have hms:=BD w (len a+len b)
 have hmb:=Ba' w (len a+len b)
 go_enter Tryz.func64,Tryz.ntmps64
 go_wp2_with fail
 go_loopw [29] (fun i wr=>∃ k:Nat,k≤len b∧i=.int .i64 k∧CM (mk w (len a+len b)) w.heap.size a b (len a+len b) k wr) (fun i _=>len b - (intOf i).toNat)
 case atStart=>exact ⟨0,by omega,rfl,CM.start⟩
 case round =>
   obtain ⟨k,hk,rfl,cs1,hw1,hr1,hl1,hR1,hz1⟩:=hrel
   have HR:=hid hR1;clear hR1
   have HL:=hid hl1;clear hl1
   have HZ:=hid hz1;clear hz1
   have hsz:=hr1.lt
   have hbw:=hw1.below (B:=w.heap.size) (by omega) (nL _)
   have ha1:=As'.mono ha (hmb.trans hbw) (nL _)
   by_cases hlt:k<len b
   · obtain ⟨gb,ob,rfl,hgb,hcell⟩:=hp (Ak.1 (by omega))
     have h1:wr.cell? ⟨gb,ob+k,none⟩=some (.int .u64 (word b k:Nat)):=((hmb.trans hbw).cell (p:=⟨gb,ob+k,none⟩) hgb).trans (hcell k hlt)
     clear hcell
     go_wp2_with fail
     refine (BV' hr1 (by rw [HL.out];omega) ha1 (nL _) rfl (word_lt _ _)).mono ?_
     rintro e w3 ⟨cs3,c3,rfl,hc3,hw3,hr3,hl3,hs3,hz3⟩
     have h4:=hr3.cell (i:=k+len a) (by rw [hl3,HL.out];omega)
     have h5:=hr3.frozen (k+len a)
     generalize hdd:cs3.getD (k+len a) 0=d at h4
     clear hdd
     have HL3:=hid hl3;have HS3:=hid hs3;have HZ3:=hid hz3
     clear hl3 hs3 hz3
     go_wp2_with fail
     go_roundw
     case rel =>
       refine ⟨k+1,by omega,by go_num,cs3.set (k+len a) c3,(hw1.trans hw3).trans (Az.set _ _ _ _),hr3.set hc3,by rw [List.length_set,HL3.out,HL.out],?_,fun j hj=>?_⟩
       · rw [Er' (cs:=cs1) (by omega) (by rw [HL3.out,HL.out]) HS3.out (HZ.out _ (by omega)) rfl HZ3.out,HR.out,AB,Nat.mul_add,←Nat.mul_assoc a,Nat.mul_comm a (W^k),Nat.mul_assoc]
       · rw [getD_set,if_neg (by omega),HS3.out _ (by omega),HZ.out _ (by omega)]
     case measure=>simp [intOf];omega
   · obtain rfl:k=len b:=by omega
     go_wp2_with fail
     refine (AV' (hr1.reads (o:=0) (by rw [HL.out];omega) (nL _) (by omega))).mono ?_
     rintro e w4 ⟨v,rfl,hv,rfl⟩
     go_wp2_with fail
     go_ret
     refine Be.made ⟨v,rfl,hv,rfl⟩ (hmb.trans hbw) hr1.lt ?_
     rw [HR.out,AY' (nL _)]
end Go.Proofs.YtflopjfnppolgaaGreatDoor
