/-
  Contracts of the functions that the law calls, for every input (Ea Qx QI Qy).
-/
import Derived.Test.YtcicfnlljdnagaaGreatDoorY00
import Derived.Test.YtcicfnlljdnagaaGreatDoorY30
import Derived.Test.YtcicfnlljdnagaaGreatDoorY38
import Derived.Test.YtcicfnlljdnagaaGreatDoorY29
import Derived.Test.YtcicfnlljdnagaaGreatDoorY34
set_option linter.all false
set_option maxRecDepth 100000
set_option maxHeartbeats 40000000
namespace Go.Proofs.YtcicfnlljdnagaaGreatDoor.Rf
open Lib (hid)
open Go.RowKit
open Rx
open Vx (Ab' Ah Ah')
open List renaming getElem?_toArray → lg, getElem?_cons_zero → lz, getElem?_cons_succ → ls, setIfInBounds_toArray → lt, set_cons_zero → ly, set_cons_succ → lu
def BM' (w:World) (b o:Nat) (l:List Rat):Prop:=∀ (i:Nat) (q:Rat),l[i]?=some q→∃ s A1 n1 c1 A2 n2 c2,w.cell? ⟨b,o+i*3,none⟩=some (.bool s)∧w.cell? ⟨b,o+i*3+1,none⟩=some (.slice A1 n1 c1)∧w.cell? ⟨b,o+i*3+2,none⟩=some (.slice A2 n2 c2)∧Av' w (.agg #[.bool s,.slice A1 n1 c1,.slice A2 n2 c2]) q
theorem BM'.keep {w w':World} {b o:Nat} {l:List Rat} (h:BM' w b o l) (hb:Below w.heap.size w w'):BM' w' b o l:=by
 intro i q hi
 obtain ⟨s,A1,n1,c1,A2,n2,c2,h0,h1,h2,h3⟩:=h i q hi
 have hl:=bL w _ h0
 exact ⟨s,A1,n1,c1,A2,n2,c2,(hb.cell (p:=⟨b,o+i*3,none⟩) hl).trans h0,(hb.cell (p:=⟨b,o+i*3+1,none⟩) hl).trans h1,(hb.cell (p:=⟨b,o+i*3+2,none⟩) hl).trans h2,h3.keep hb⟩
theorem BM'.stay {w w':World} {b o B:Nat} {l:List Rat} (h:BM' w b o l) (hne:b≠B) (hO:∀ (n:Nat) (x:Obj),n≠B→w.heap[n]?=some x→w'.heap[n]?=some x) (hL:A6' w w'):BM' w' b o l:=by
 intro i q hi
 obtain ⟨s,A1,n1,c1,A2,n2,c2,h0,h1,h2,h3⟩:=h i q hi
 have hl:=bL w _ h0
 have he:w'.heap[b]?=w.heap[b]?:=by
   have:w.heap[b]?=some w.heap[b]:=by simp [hl]
   rw [hO b _ hne this,this]
 exact ⟨s,A1,n1,c1,A2,n2,c2,(World.cell?_of_block he).trans h0,(World.cell?_of_block he).trans h1,(World.cell?_of_block he).trans h2,hL.rat h3⟩
def EW (w:World) (b o B:Nat) (x0:Rat) (l:List Rat) (k:Nat) (wr:World):Prop :=
  ∃ s1 A1 n1 c1 A2 n2 c2 s2 A3 n3 c3 A4 n4 c4,wr.heap[B]?=some (.cells #[.bool s1,.slice A1 n1 c1,.slice A2 n2 c2,.bool s2,.slice A3 n3 c3,.slice A4 n4 c4] 40 (0,0)) ∧
    Bo' wr (.agg #[.bool s1,.slice A1 n1 c1,.slice A2 n2 c2,.bool s2,.slice A3 n3 c3,.slice A4 n4 c4]) (leastOf x0 (l.take k)) (greatestOf x0 (l.take k)) ∧
    BM' wr b o (x0::l)∧wr.heap[w.heap.size]?=some (.cells #[.bool false,.slice none 0 0,.slice none 0 0,.bool false,.slice none 0 0,.slice none 0 0] 40 (0,0))∧Below w.heap.size w wr
theorem Gy' {x0 q:Rat} {l:List Rat} {k:Nat} (h:l[k]?=some q):∀ m,leastOf x0 (l.take k)=m→(if m≤q then m else q)=leastOf x0 (l.take (k+1)):=by
 intro m hm
 rw [Bx' h,hm]
 rcases Decidable.em (q<m) with k | k
 · rw [if_pos k,if_neg (Rat.not_le.2 k)]
 · rw [if_neg k,if_pos (Rat.not_lt.1 k)]
theorem Gz {x0 q:Rat} {l:List Rat} {k:Nat} (h:l[k]?=some q):∀ m,greatestOf x0 (l.take k)=m→(if q≤m then m else q)=greatestOf x0 (l.take (k+1)):=by
 intro m hm
 rw [Be h,hm]
 rcases Decidable.em (m<q) with k | k
 · rw [if_pos k,if_neg (Rat.not_le.2 k)]
 · rw [if_neg k,if_pos (Rat.not_lt.1 k)]
theorem FT' {x0:Rat} {l:List Rat} {N:Nat} (h:∀ y∈x0::l,Ab' y≤N):∀ k,Ab' (leastOf x0 (l.take k))≤N∧Ab' (greatestOf x0 (l.take k))≤N:=by
 intro k
 induction k with
 | zero=>exact ⟨h x0 (by simp),h x0 (by simp)⟩
 | succ k ih =>
   rcases hq:l[k]? with _ | q
   · have:l.take (k+1)=l.take k:=by rw [List.take_add_one,hq];simp
     rw [this];exact ih
   · rw [Bx' hq,Be hq]
     have hm:=h q (List.mem_cons_of_mem _ (List.mem_of_getElem? hq))
     constructor <;> split <;> first | exact hm | exact ih.1 | exact ih.2
theorem Gz' {w:World} {b o c:Nat} {x0 lo hi:Rat} {l:List Rat} (el:leastOf x0 l=lo) (eh:greatestOf x0 l=hi) (hl:BM' w b o (x0::l)) (hn:l.length≤1000) (hs:∀ y∈x0::l,Ab' y≤16777216) :
   Calls Tryz.prog 23 #[.slice (some ⟨b,o,none⟩) (l.length+1) c] w (D6 w lo hi):=by
 have HS:=hid (FT' hs)
 have HQ:=hid (fun q (hq:q∈x0::l)=>hs q hq)
 have e0l:leastOf x0 (l.take 0)=x0:=rfl
 have e0g:greatestOf x0 (l.take 0)=x0:=rfl
 replace e0l:=hid e0l
 replace e0g:=hid e0g
 clear hs
 replace el:=hid el
 replace eh:=hid eh
 replace hl:=hid hl
 obtain ⟨w1,hw1⟩:=eX ((w.alloc (.cells #[.bool false,.slice none 0 0,.slice none 0 0,.bool false,.slice none 0 0,.slice none 0 0] 40)))
 have b1:=An w (.cells #[.bool false,.slice none 0 0,.slice none 0 0,.bool false,.slice none 0 0,.slice none 0 0] 40)
 have g1:=hA_ w (.cells #[.bool false,.slice none 0 0,.slice none 0 0,.bool false,.slice none 0 0,.slice none 0 0] 40)
 rw [←hw1] at b1 g1
 replace g1:=hid g1
 replace b1:=hid b1
 go_enter Tryz.func23,Tryz.ntmps23
 go_upto_region 1 with fail
 rw [←hw1]
 clear hw1
 obtain ⟨s0,A1,n1,c1,A2,n2,c2,z0,z1,z2,hx0⟩:=(hl.out.keep b1.out) 0 x0 rfl
 rw [Nat.zero_mul,Nat.add_zero] at z0 z1 z2
 have hbl:b<w.heap.size:=by obtain ⟨_,_,_,_,_,_,_,y0,_⟩:=hl.out 0 x0 rfl;exact bL w _ y0
 have i1:decide (0<l.length+1)=true:=dT_ (by omega)
 have i2:(0:Int)<((l.length+1:Nat):Int):=by omega
 have HX:=hid (FN hx0)
 go_wp2_with fail
 refine (HX.out).mono ?_
 rintro e w2 ⟨v2,rfl,hv2,b2⟩
 obtain ⟨C1,j1,C2,j2,C3,j3,C4,j4,rfl,-,-,-,-⟩:=id hv2.opened
 replace hv2:=hid hv2
 replace b2:=hid b2
 clear HX
 clear z0 z1 z2 hx0 i1 i2
 go_upto_region 2 with fail
 obtain ⟨w3,hw3⟩:=eX (w2.alloc (.cells #[.bool (decide (x0.num<0)),.slice C1 (len x0.num.natAbs) j1,.slice C2 (len x0.den) j2,.bool (decide (x0.num<0)),.slice C3 (len x0.num.natAbs) j3,.slice C4 (len x0.den) j4] 40))
 have b3:=hid (Ar hw3)
 have L3:=hid (At' hw3)
 rw [←hw3]
 clear hw3
 have y0_3:=hid (bS (bS b1.out b2.out) b3.out)
 have y1_3:=hid (bS b2.out b3.out)
 obtain ⟨B,hB⟩:=eY w2.heap.size
 have hGB:w.heap.size<B:=by rw [←hB];exact Af' (Ac' g1.out b2.out)
 have HE:Hid (EW w b o B x0 l 0 w3):=hid ⟨_,_,_,_,_,_,_,_,_,_,_,_,_,_,by rw [←hB];exact L3.out,by rw [e0l.out,e0g.out];exact (hv2.out.keep b3.out),hl.out.keep y0_3.out,Ac' g1.out y1_3.out,y0_3.out⟩
 rw [hB]
 clear hB L3 g1 hl
 go_wp2_with fail
 go_loopw [4] (fun iv wr=>∃ k:Nat,k≤l.length∧iv=.int .i64 ((k+1:Nat):Int)∧Hid (EW w b o B x0 l k wr)) (fun iv _=>l.length+1 - (intOf iv).toNat)
 case atStart=>exact ⟨0,Nat.zero_le _,rfl,HE⟩
 case round =>
   obtain ⟨k,hk,rfl,hrel⟩:=hrel
   clear HE
   obtain ⟨s1,A1,n1,c1,A2,n2,c2,s2,A3,n3,c3,A4,n4,c4,g5,hv,hRs,gR,hbw⟩:=hrel.out
   clear hrel
   obtain ⟨m,hm⟩:=eY (leastOf x0 (l.take k))
   obtain ⟨M,hM⟩:=eY (greatestOf x0 (l.take k))
   obtain ⟨tm,tM⟩:=HS.out k
   rw [hm] at hv tm
   rw [hM] at hv tM
   rcases Nat.lt_or_ge k l.length with hkn | hkn
   · obtain ⟨q,hq⟩:∃ q,l[k]?=some q:=⟨l[k],by simp [hkn]⟩
     have tq:=HQ.out q (List.mem_cons_of_mem _ (List.mem_of_getElem? hq))
     have E1:=hid (Gy' hq m hm)
     have E2:=hid (Gz hq M hM)
     obtain ⟨s5,A5,n5,c5,A6,n6,c6,y0,y1,y2,hxq⟩:=hRs (k+1) q (by simpa using hq)
     obtain ⟨z0,z1,z2,z3,z4,z5⟩:=Af g5
     obtain ⟨u,hu⟩:=eY (o+(k+1)*3)
     have hu':o+(k*3+3)=u:=by omega
     rw [hu] at y0 y1 y2
     have hlo:Av' wr (.agg #[.bool s1,.slice A1 n1 c1,.slice A2 n2 c2]) m:=by
       obtain ⟨v1,v2,v3,v4,e,i1,i2,-,-⟩:=hv
       simp only [Value.agg.injEq,Array.mk.injEq,List.cons.injEq,Value.bool.injEq,and_true] at e
       obtain ⟨rfl,rfl,rfl,-,-,-⟩:=e
       exact ⟨_,_,rfl,i1,i2⟩
     have hhi:Av' wr (.agg #[.bool s2,.slice A3 n3 c3,.slice A4 n4 c4]) M:=by
       obtain ⟨v1,v2,v3,v4,e,-,-,i1,i2⟩:=hv
       simp only [Value.agg.injEq,Array.mk.injEq,List.cons.injEq,Value.bool.injEq,and_true] at e
       obtain ⟨-,-,-,rfl,rfl,rfl⟩:=e
       exact ⟨_,_,rfl,i1,i2⟩
     have hBl:B<wr.heap.size:=Af' g5
     have hbl2:b<wr.heap.size:=ltl hbl hbw.size
     have hin:decide (k+1<l.length+1)=true:=dT_ (by omega)
     have hin2:k+1<l.length+1:=by omega
     have hin3:decide (k<l.length)=true:=dT_ hkn
     have hin4:(0:Int)≤((k:Nat):Int)+1:=by omega
     obtain ⟨m2,em2⟩:=eY (leastOf x0 (l.take (k+1)))
     obtain ⟨M2,eM2⟩:=eY (greatestOf x0 (l.take (k+1)))
     rw [em2] at E1
     rw [eM2] at E2
     replace em2:=hid em2
     replace eM2:=hid eM2
     have hidx:((k+1:Nat):Int).toNat=k+1:=Int.toNat_natCast _
     clear hm hM hv
     replace hlo:=hid hlo
     replace hhi:=hid hhi
     replace hxq:=hid hxq
     replace g5:=hid g5
     replace hRs:=hid hRs
     replace gR:=hid gR
     replace hbw:=hid hbw
     replace hq:=hid hq
     replace tm:=hid tm
     replace tM:=hid tM
     replace tq:=hid tq
     go_upto_region 5 with fail
     go_wp2_with fail
     refine Dv (s:=15) (S:=(fun w'=>(w'.cell? ⟨B,0,none⟩=wr.cell? ⟨B,0,none⟩∧w'.cell? ⟨B,1,none⟩=wr.cell? ⟨B,1,none⟩∧w'.cell? ⟨B,2,none⟩=wr.cell? ⟨B,2,none⟩∧w'.cell? ⟨B,3,none⟩=wr.cell? ⟨B,3,none⟩∧w'.cell? ⟨B,4,none⟩=wr.cell? ⟨B,4,none⟩∧w'.cell? ⟨B,5,none⟩=wr.cell? ⟨B,5,none⟩∧w'.cell? ⟨b,u,none⟩=wr.cell? ⟨b,u,none⟩∧w'.cell? ⟨b,u+1,none⟩=wr.cell? ⟨b,u+1,none⟩∧w'.cell? ⟨b,u+2,none⟩=wr.cell? ⟨b,u+2,none⟩))) (by kernel_rfl) (by rfl) (by rfl) (by kernel_rfl) ?_
     simp only [De',lt,ly,lu]
     have hHeld:(fun w'=>(w'.cell? ⟨B,0,none⟩=wr.cell? ⟨B,0,none⟩∧w'.cell? ⟨B,1,none⟩=wr.cell? ⟨B,1,none⟩∧w'.cell? ⟨B,2,none⟩=wr.cell? ⟨B,2,none⟩∧w'.cell? ⟨B,3,none⟩=wr.cell? ⟨B,3,none⟩∧w'.cell? ⟨B,4,none⟩=wr.cell? ⟨B,4,none⟩∧w'.cell? ⟨B,5,none⟩=wr.cell? ⟨B,5,none⟩∧w'.cell? ⟨b,u,none⟩=wr.cell? ⟨b,u,none⟩∧w'.cell? ⟨b,u+1,none⟩=wr.cell? ⟨b,u+1,none⟩∧w'.cell? ⟨b,u+2,none⟩=wr.cell? ⟨b,u+2,none⟩)) wr:=⟨rfl,rfl,rfl,rfl,rfl,rfl,rfl,rfl,rfl⟩
     obtain ⟨w91,hw91⟩:=eX wr.drew
     have b91:Hid (Below wr.heap.size wr w91):=hid (by rw [hw91];exact ⟨rfl,rfl,rfl,nL _,fun _ _=>rfl⟩)
     replace hHeld:(fun w'=>(w'.cell? ⟨B,0,none⟩=wr.cell? ⟨B,0,none⟩∧w'.cell? ⟨B,1,none⟩=wr.cell? ⟨B,1,none⟩∧w'.cell? ⟨B,2,none⟩=wr.cell? ⟨B,2,none⟩∧w'.cell? ⟨B,3,none⟩=wr.cell? ⟨B,3,none⟩∧w'.cell? ⟨B,4,none⟩=wr.cell? ⟨B,4,none⟩∧w'.cell? ⟨B,5,none⟩=wr.cell? ⟨B,5,none⟩∧w'.cell? ⟨b,u,none⟩=wr.cell? ⟨b,u,none⟩∧w'.cell? ⟨b,u+1,none⟩=wr.cell? ⟨b,u+1,none⟩∧w'.cell? ⟨b,u+2,none⟩=wr.cell? ⟨b,u+2,none⟩)) w91:=by rw [hw91];exact hHeld
     rw [←hw91]
     clear hw91
     refine tk (i:=0) (h:=?_)
     try simp only [Act.put,lt,ly,lu]
     refine tk (i:=1) (h:=?_)
     try simp only [Act.put,lt,ly,lu]
     refine tk (i:=2) (h:=?_)
     try simp only [Act.put,lt,ly,lu]
     refine tk (i:=3) (h:=?_)
     try simp only [Act.put,lt,ly,lu]
     refine tk (i:=4) (h:=?_)
     try simp only [Act.put,lt,ly,lu]
     refine tk (i:=5) (h:=?_)
     try simp only [Act.put,lt,ly,lu]
     refine tk (i:=7) (h:=?_)
     try simp only [Act.put,lt,ly,lu]
     refine tk (i:=8) (h:=?_)
     try simp only [Act.put,lt,ly,lu]
     refine tk (i:=9) (h:=?_)
     try simp only [Act.put,lt,ly,lu]
     refine tk (i:=10) (h:=?_)
     try simp only [Act.put,lt,ly,lu]
     refine tk (i:=11) (h:=?_)
     try simp only [Act.put,lt,ly,lu]
     refine tk (i:=12) (h:=?_)
     try simp only [Act.put,lt,ly,lu]
     refine rd (i:=6) (h:=fun K hK=>?_);go_simp;go_at_call 54
     refine (G7 E1.out (hlo.out.keep b91.out) (hxq.out.keep b91.out) tm.out tq.out).mono ?_
     rintro e w92 ⟨v92,rfl,hv92,b92⟩
     obtain ⟨C31,j31,C32,j32,rfl,-,-⟩:=id hv92.opened
     replace hv92:=hid hv92
     replace b92:=hid b92
     have y90_92:=hid (bS b91.out b92.out)
     have hS:=y90_92.out
     clear hHeld
     refine hK.out _ _ ?_ (fun hHeld=>?_)
     · (try dsimp only)
       exact ⟨hS.cell (p:=⟨B,0,none⟩) hBl,hS.cell (p:=⟨B,1,none⟩) hBl,hS.cell (p:=⟨B,2,none⟩) hBl,hS.cell (p:=⟨B,3,none⟩) hBl,hS.cell (p:=⟨B,4,none⟩) hBl,hS.cell (p:=⟨B,5,none⟩) hBl,hS.cell (p:=⟨b,u,none⟩) hbl2,hS.cell (p:=⟨b,u+1,none⟩) hbl2,hS.cell (p:=⟨b,u+2,none⟩) hbl2⟩
     clear hK K hS;try simp only [Act.put,lt,ly,lu]
     refine rd (i:=13) (h:=fun K hK=>?_);go_simp;go_at_call 55
     refine (G7' E2.out (hhi.out.keep y90_92.out) (hxq.out.keep y90_92.out) tM.out tq.out).mono ?_
     rintro e w93 ⟨v93,rfl,hv93,b93⟩
     obtain ⟨C33,j33,C34,j34,rfl,-,-⟩:=id hv93.opened
     replace hv93:=hid hv93
     replace b93:=hid b93
     have y90_93:=hid (bS y90_92.out b93.out)
     have hS:=y90_93.out
     clear hHeld
     refine hK.out _ _ ?_ (fun hHeld=>?_)
     · (try dsimp only)
       exact ⟨hS.cell (p:=⟨B,0,none⟩) hBl,hS.cell (p:=⟨B,1,none⟩) hBl,hS.cell (p:=⟨B,2,none⟩) hBl,hS.cell (p:=⟨B,3,none⟩) hBl,hS.cell (p:=⟨B,4,none⟩) hBl,hS.cell (p:=⟨B,5,none⟩) hBl,hS.cell (p:=⟨b,u,none⟩) hbl2,hS.cell (p:=⟨b,u+1,none⟩) hbl2,hS.cell (p:=⟨b,u+2,none⟩) hbl2⟩
     clear hK K hS;try simp only [Act.put,lt,ly,lu]
     refine tk (i:=14) (h:=?_)
     try simp only [Act.put,lt,ly,lu]
     refine tk (i:=15) (h:=?_)
     try simp only [Act.put,lt,ly,lu]
     refine wpAnyH_done (by kernel_rfl) ?_ _
     clear hHeld y0 y1 y2 z0 z1 z2 z3 z4 z5 hu hu' hin hin2 hin3 hin4 hidx
     have DB:=Ac' g5.out y90_93.out
     have q0:=cR _ _ 0 _ _ _ DB
     have F0:=fR w93 B 0 _ _ DB
     have q1:=cR _ _ 1 _ _ _ DB
     have F1:=fR w93 B 1 _ _ DB
     have q2:=cR _ _ 2 _ _ _ DB
     have F2:=fR w93 B 2 _ _ DB
     have q3:=cR _ _ 3 _ _ _ DB
     have F3:=fR w93 B 3 _ _ DB
     have q4:=cR _ _ 4 _ _ _ DB
     have F4:=fR w93 B 4 _ _ DB
     have q5:=cR _ _ 5 _ _ _ DB
     have F5:=fR w93 B 5 _ _ DB
     simp only [lg,lz,ls] at q0 q1 q2 q3 q4 q5
     obtain ⟨ue,hw⟩:=eX (((((((w93.setCell ⟨B,0,none⟩ (.bool (decide (m2.num<0)))).setCell ⟨B,1,none⟩ (.slice C31 (len m2.num.natAbs) j31)).setCell ⟨B,2,none⟩ (.slice C32 (len m2.den) j32)).setCell ⟨B,3,none⟩ (.bool (decide (M2.num<0)))).setCell ⟨B,4,none⟩ (.slice C33 (len M2.num.natAbs) j33)).setCell ⟨B,5,none⟩ (.slice C34 (len M2.den) j34)))
     obtain ⟨E,OT,LV,BL⟩:=Av DB hw
     have FIN:Hid (EW w b o B x0 l (k+1) ue):=hid ⟨_,_,_,_,_,_,_,_,_,_,_,_,_,_,E,by rw [em2.out,eM2.out];exact LV.rbox (Av'.pair (hv92.out.keep b93.out) hv93.out),(hRs.out.keep y90_93.out).stay (by omega) OT LV,OT _ _ (by omega) (Ac' gR.out y90_93.out),BL _ _ (by omega) (Ae' hbw.out y90_93.out)⟩
     refine Fr (by rfl) (by rfl) ?_
     clear DB E OT LV BL
     go_simp
     rw [←hw]
     clear hw q0 q1 q2 q3 q4 q5 F0 F1 F2 F3 F4 F5
     go_wp2_with fail
     go_roundw
     case rel=>exact ⟨k+1,hkn,by go_num,FIN⟩
     case measure=>simp [intOf];omega
   · obtain rfl:k=l.length:=Nat.le_antisymm hk hkn
     rw [List.take_length] at hm hM
     have hm2:=hm.symm.trans el.out
     have hM2:=hM.symm.trans eh.out
     subst hm2 hM2
     obtain ⟨z0,z1,z2,z3,z4,z5⟩:=Af g5
     have q0:=cR _ _ 0 _ _ _ gR
     have q1:=cR _ _ 1 _ _ _ gR
     have q2:=cR _ _ 2 _ _ _ gR
     have q3:=cR _ _ 3 _ _ _ gR
     have q4:=cR _ _ 4 _ _ _ gR
     have q5:=cR _ _ 5 _ _ _ gR
     have F0:=fR wr w.heap.size 0 _ _ gR
     have F1:=fR wr w.heap.size 1 _ _ gR
     have F2:=fR wr w.heap.size 2 _ _ gR
     have F3:=fR wr w.heap.size 3 _ _ gR
     have F4:=fR wr w.heap.size 4 _ _ gR
     have F5:=fR wr w.heap.size 5 _ _ gR
     simp only [lg,lz,ls] at q0 q1 q2 q3 q4 q5
     obtain ⟨ue,hw⟩:=eX (((((((wr.setCell ⟨w.heap.size,0,none⟩ (.bool s1)).setCell ⟨w.heap.size,1,none⟩ (.slice A1 n1 c1)).setCell ⟨w.heap.size,2,none⟩ (.slice A2 n2 c2)).setCell ⟨w.heap.size,3,none⟩ (.bool s2)).setCell ⟨w.heap.size,4,none⟩ (.slice A3 n3 c3)).setCell ⟨w.heap.size,5,none⟩ (.slice A4 n4 c4)))
     obtain ⟨E,-,LV,BL⟩:=Av gR hw
     have FE:=hid (LV.rbox hv)
     have FB:=hid (BL _ _ (nL _) hbw)
     replace E:=hid E
     replace hw:=hid hw
     clear hm hM el eh HS HQ hv hRs gR hbw g5 BL LV tm tM
     go_wp2_with fail
     rw [←hw.out]
     obtain ⟨r0,r1,r2,r3,r4,r5⟩:=Af E.out
     refine bP (v:=.agg #[.bool s1,.slice A1 n1 c1,.slice A2 n2 c2,.bool s2,.slice A3 n3 c3,.slice A4 n4 c4]) ?_ rfl ⟨_,rfl,FE.out,FB.out⟩
     simp [results,Tryz.results23,go_sem,r0,r1,r2,r3,r4,r5]
def Ce (w:World) (lo hi:Rat) (e:Ending) (w':World):Prop:=∃ v v2,e=.returned (.tuple #[v,v2])∧Aj w' v lo hi∧Bo' w' v2 lo hi∧Below w.heap.size w w'
theorem Fh {w:World} {b:Nat} {p q:Rat} {T:TypeId} {s1 s2:Bool} {A1 A2 A3 A4:Option Addr} {n1 c1 n2 c2 n3 c3 n4 c4:Nat} (h:w.heap[b]?=some (.cells #[.bool s1,.slice A1 n1 c1,.slice A2 n2 c2,.bool s2,.slice A3 n3 c3,.slice A4 n4 c4] T (0,0)))
   (hp:Av' w (.agg #[.bool s1,.slice A1 n1 c1,.slice A2 n2 c2]) p) (hq:Av' w (.agg #[.bool s2,.slice A3 n3 c3,.slice A4 n4 c4]) q):BM' w b 0 [p,q]:=by
 obtain ⟨r0,r1,r2,r3,r4,r5⟩:=Af h
 intro i x hi
 match i with
 | 0=>obtain rfl:=Option.some.inj hi;exact ⟨_,_,_,_,_,_,_,r0,r1,r2,hp⟩
 | 1=>obtain rfl:=Option.some.inj hi;exact ⟨_,_,_,_,_,_,_,r3,r4,r5,hq⟩
 | i+2=>simp at hi
theorem B9' {n:Int} {q:Rat} (hq:(n:Rat)=q) (h1 : -9223372036854775808≤n) (h2:n≤9223372036854775807):Ab' q≤1:=by
 have hW:Vx.W^1=18446744073709551616:=by decide
 rw [←hq]
 unfold Vx.Ab'
 rw [Rat.num_intCast,Rat.den_intCast]
 exact Nat.max_le.2 ⟨Vx.Ax (n:=1) (by rw [hW];omega),Vx.Ax (n:=1) (by rw [hW];omega)⟩
theorem AK {N:Int} {D:Nat} {q:Rat} (hN1 : -2147483648≤N) (hN2:N≤2147483647) (hq:AE N D=q):Ab' q≤20:=by
 obtain ⟨x,hx⟩:=eY ((N:Rat):Rat)
 obtain ⟨y,hy⟩:=eY ((((D%16+1:Nat):Int):Rat):Rat)
 have e:q=x / y:=by rw [←hq];unfold AE;rw [hx,hy]
 have h1:=B9' hx (by omega) (by omega)
 have h2:=B9' hy (by omega) (by omega)
 rw [e]
 have:=Vx.AU x y
 omega
theorem Hc {w:World} {b o c n:Nat} {x0 lo hi:Rat} {l:List Rat} (el:leastOf x0 l=lo) (eh:greatestOf x0 l=hi) (hl:BM' w b o (x0::l)) (hn:n=l.length+1) (hn2:l.length≤1000) (hs:∀ y∈x0::l,Ab' y≤16777216) :
   Calls Tryz.prog 23 #[.slice (some ⟨b,o,none⟩) n c] w (D6 w lo hi):=by
 subst hn
 exact Gz' el eh hl hn2 hs
theorem H4' {wa w:World} {M0 M1:Int} {D0 D1 be R1 R2:Nat} {x y lo hi:Rat} {bx:Nat} {A1 B1 A2 B2:Option Addr} {c1 d1 c2 d2:Nat} {y0 y4 y5 y7 y8 y9 y10 y11 y12 y13 y14 y15 y16 y17 y18 y19 y20 y21 y22 y23 y24 y25 y26 y27 y28 y29 y30 y31 y32 y33 y34:Value} (HB:Below wa.heap.size wa w) (hbe:w.heap[be]?=some (.cells #[.int .i32 M0,.int .u8 ((D0:Nat):Int),.int .i32 M1,.int .u8 ((D1:Nat):Int)] 25 (0,0))) (hR1:w.heap[R1]?=some (.cells #[.bool false,.slice none 0 0,.slice none 0 0,.bool false,.slice none 0 0,.slice none 0 0] 34 (0,0))) (hR2:w.heap[R2]?=some (.cells #[.bool false,.slice none 0 0,.slice none 0 0,.bool false,.slice none 0 0,.slice none 0 0] 40 (0,0))) (l1:wa.heap.size≤R1) (l2:R1<R2) (l3:be<R1) (el:leastOf x [y]=lo) (eh:greatestOf x [y]=hi) (h1 : -2147483648≤M0) (h2:M0≤2147483647) (h3:D0≤255) (h4 : -2147483648≤M1) (h5:M1≤2147483647) (h6:D1≤255) (ex:AE M0 D0=x) (ey:AE M1 D1=y) (hbx:w.heap[bx]?=some (.cells #[.bool (decide (lo.num<0)),.slice A1 (Vx.len lo.num.natAbs) c1,.slice B1 (Vx.len (below lo.den)) d1,.bool (decide (hi.num<0)),.slice A2 (Vx.len hi.num.natAbs) c2,.slice B2 (Vx.len (below hi.den)) d2] 34 (0,0))) (hD:Aj w (.agg #[.bool (decide (lo.num<0)),.slice A1 (Vx.len lo.num.natAbs) c1,.slice B1 (Vx.len (below lo.den)) d1,.bool (decide (hi.num<0)),.slice A2 (Vx.len hi.num.natAbs) c2,.slice B2 (Vx.len (below hi.den)) d2]) lo hi) (l4:R2<bx) :
   (codeAt 4 Tryz.f4).wp Tryz.prog (bodyPost Tryz.prog Tryz.f4 (Ce wa lo hi)) { tmps:=#[y0,.pointer (some ⟨be,0,none⟩),.pointer (some ⟨R1,0,none⟩),.pointer (some ⟨R2,0,none⟩),y4,y5,.pointer (some ⟨bx,0,none⟩),y7,y8,y9,y10,y11,y12,y13,y14,y15,y16,y17,y18,y19,y20,y21,y22,y23,y24,y25,y26,y27,y28,y29,y30,y31,y32,y33,y34],defers:=[] } w:=by
 have kx:Ab' x≤20:=AK h1 h2 ex
 have ky:Ab' y≤20:=AK h4 h5 ey
 have sE:∀ q∈x::[y],Ab' q≤16777216:=by
   intro q hq
   simp only [List.mem_cons,List.not_mem_nil,or_false] at hq
   rcases hq with rfl | rfl <;> omega
 have hbel:=Af' hbe
 have hbxl:=Af' hbx
 have hbeR:be<R2:=by omega
 obtain ⟨z0,z1,z2,z3⟩:w.cell? ⟨be,0,none⟩=some (.int .i32 M0)∧w.cell? ⟨be,1,none⟩=some (.int .u8 ((D0:Nat):Int))∧w.cell? ⟨be,2,none⟩=some (.int .i32 M1)∧w.cell? ⟨be,3,none⟩=some (.int .u8 ((D1:Nat):Int)):=⟨cR _ _ 0 _ _ _ hbe,cR _ _ 1 _ _ _ hbe,cR _ _ 2 _ _ _ hbe,cR _ _ 3 _ _ _ hbe⟩
 obtain ⟨x0,x1,x2,x3,x4,x5⟩:=Af hbx
 clear kx ky
 replace HB:=hid HB
 replace hbe:=hid hbe
 replace hR1:=hid hR1
 replace hR2:=hid hR2
 replace hbx:=hid hbx
 replace hD:=hid hD
 replace el:=hid el
 replace eh:=hid eh
 replace ex:=hid ex
 replace ey:=hid ey
 replace sE:=hid sE
 replace h1:=hid h1
 replace h2:=hid h2
 replace h3:=hid h3
 replace h4:=hid h4
 replace h5:=hid h5
 replace h6:=hid h6
 show Code.wp _ (Code.seq _ _) _ _ _
 go_wp2_with fail
 refine wp_region_held_drew (S:=(fun w'=>(w'.cell? ⟨be,0,none⟩=w.cell? ⟨be,0,none⟩∧w'.cell? ⟨be,1,none⟩=w.cell? ⟨be,1,none⟩∧w'.cell? ⟨be,2,none⟩=w.cell? ⟨be,2,none⟩∧w'.cell? ⟨be,3,none⟩=w.cell? ⟨be,3,none⟩∧w'.cell? ⟨bx,0,none⟩=w.cell? ⟨bx,0,none⟩∧w'.cell? ⟨bx,1,none⟩=w.cell? ⟨bx,1,none⟩∧w'.cell? ⟨bx,2,none⟩=w.cell? ⟨bx,2,none⟩∧w'.cell? ⟨bx,3,none⟩=w.cell? ⟨bx,3,none⟩∧w'.cell? ⟨bx,4,none⟩=w.cell? ⟨bx,4,none⟩∧w'.cell? ⟨bx,5,none⟩=w.cell? ⟨bx,5,none⟩))) (by kernel_rfl) ?_ (fun hHeld=>?_)
 · (try dsimp only)
   exact ⟨rfl,rfl,rfl,rfl,rfl,rfl,rfl,rfl,rfl,rfl⟩
 obtain ⟨w1,hw1⟩:=eX w.drew
 have b1:Hid (Below w.heap.size w w1):=hid (by rw [hw1];exact ⟨rfl,rfl,rfl,nL _,fun _ _=>rfl⟩)
 rw [←hw1] at hHeld ⊢
 clear hw1
 have lbW:wa.heap.size≤w1.heap.size:=(bS HB.out b1.out).size
 have lbS:w.heap.size≤w1.heap.size:=b1.out.size
 have lc_R1:R1<w1.heap.size:=Af' (Ac' hR1.out b1.out)
 have lc_R2:R2<w1.heap.size:=Af' (Ac' hR2.out b1.out)
 refine tk (i:=0) (h:=?_)
 try simp only [Act.put,lt,ly,lu]
 refine tk (i:=1) (h:=?_)
 try simp only [Act.put,lt,ly,lu]
 refine tk (i:=2) (h:=?_)
 try simp only [Act.put,lt,ly,lu]
 refine tk (i:=4) (h:=?_)
 try simp only [Act.put,lt,ly,lu]
 refine tk (i:=5) (h:=?_)
 try simp only [Act.put,lt,ly,lu]
 refine rd (i:=3) (h:=fun K hK=>?_)
 go_simp;go_at_call 24
 refine (Df h1.out h2.out h3.out ex.out).mono ?_
 rintro e w2 ⟨v2,rfl,hv2,b2⟩
 obtain ⟨C1,j1,C2,j2,rfl,-,-⟩:=id hv2.opened
 replace hv2:=hid hv2
 replace b2:=hid b2
 have y0_2:=hid (bS b1.out b2.out)
 have hS:=y0_2.out
 clear hHeld
 refine hK.out _ _ ?_ (fun hHeld=>?_)
 · (try dsimp only)
   exact ⟨hS.cell (p:=⟨be,0,none⟩) hbel,hS.cell (p:=⟨be,1,none⟩) hbel,hS.cell (p:=⟨be,2,none⟩) hbel,hS.cell (p:=⟨be,3,none⟩) hbel,hS.cell (p:=⟨bx,0,none⟩) hbxl,hS.cell (p:=⟨bx,1,none⟩) hbxl,hS.cell (p:=⟨bx,2,none⟩) hbxl,hS.cell (p:=⟨bx,3,none⟩) hbxl,hS.cell (p:=⟨bx,4,none⟩) hbxl,hS.cell (p:=⟨bx,5,none⟩) hbxl⟩
 clear hK K hS;try simp only [Act.put,lt,ly,lu]
 refine rd (i:=6) (h:=fun K hK=>?_)
 go_simp;go_at_call 24
 refine (Df h4.out h5.out h6.out ey.out).mono ?_
 rintro e w3 ⟨v3,rfl,hv3,b3⟩
 obtain ⟨C3,j3,C4,j4,rfl,-,-⟩:=id hv3.opened
 replace hv3:=hid hv3
 replace b3:=hid b3
 have y0_3:=hid (bS y0_2.out b3.out)
 have hS:=y0_3.out
 clear hHeld
 refine hK.out _ _ ?_ (fun hHeld=>?_)
 · (try dsimp only)
   exact ⟨hS.cell (p:=⟨be,0,none⟩) hbel,hS.cell (p:=⟨be,1,none⟩) hbel,hS.cell (p:=⟨be,2,none⟩) hbel,hS.cell (p:=⟨be,3,none⟩) hbel,hS.cell (p:=⟨bx,0,none⟩) hbxl,hS.cell (p:=⟨bx,1,none⟩) hbxl,hS.cell (p:=⟨bx,2,none⟩) hbxl,hS.cell (p:=⟨bx,3,none⟩) hbxl,hS.cell (p:=⟨bx,4,none⟩) hbxl,hS.cell (p:=⟨bx,5,none⟩) hbxl⟩
 clear hK K hS;try simp only [Act.put,lt,ly,lu]
 refine rd (i:=7) (h:=fun K hK=>?_)
 have y1_3:=hid (bS b2.out b3.out)
 have lb_sl:w1.heap.size≤w3.heap.size:=y1_3.out.size
 go_simp
 obtain ⟨w4,hw4⟩:=eX (w3.alloc (.cells #[.bool (decide (x.num<0)),.slice C1 (len x.num.natAbs) j1,.slice C2 (len x.den) j2,.bool (decide (y.num<0)),.slice C3 (len y.num.natAbs) j3,.slice C4 (len y.den) j4] 38))
 have b4:=hid (Ar hw4)
 have L4:=hid (At' hw4)
 rw [←hw4]
 clear hw4
 have y0_4:=hid (bS y0_3.out b4.out)
 have hS:=y0_4.out
 clear hHeld
 refine hK.out _ _ ?_ (fun hHeld=>?_)
 · (try dsimp only)
   exact ⟨hS.cell (p:=⟨be,0,none⟩) hbel,hS.cell (p:=⟨be,1,none⟩) hbel,hS.cell (p:=⟨be,2,none⟩) hbel,hS.cell (p:=⟨be,3,none⟩) hbel,hS.cell (p:=⟨bx,0,none⟩) hbxl,hS.cell (p:=⟨bx,1,none⟩) hbxl,hS.cell (p:=⟨bx,2,none⟩) hbxl,hS.cell (p:=⟨bx,3,none⟩) hbxl,hS.cell (p:=⟨bx,4,none⟩) hbxl,hS.cell (p:=⟨bx,5,none⟩) hbxl⟩
 clear hK K hS;try simp only [Act.put,lt,ly,lu]
 refine rd (i:=8) (h:=fun K hK=>?_)
 have y2_4:=hid (bS b3.out b4.out)
 go_simp;go_at_call 23
 refine (Hc (n:=2) el.out eh.out (Fh L4.out (hv2.out.keep y2_4.out) (hv3.out.keep b4.out)) rfl (by simp) sE.out).mono ?_
 rintro e w5 ⟨v5,rfl,hv5,b5⟩
 obtain ⟨C5,j5,C6,j6,C7,j7,C8,j8,rfl,-,-,-,-⟩:=id hv5.opened
 replace hv5:=hid hv5
 replace b5:=hid b5
 have y0_5:=hid (bS y0_4.out b5.out)
 have hS:=y0_5.out
 clear hHeld
 refine hK.out _ _ ?_ (fun hHeld=>?_)
 · (try dsimp only)
   exact ⟨hS.cell (p:=⟨be,0,none⟩) hbel,hS.cell (p:=⟨be,1,none⟩) hbel,hS.cell (p:=⟨be,2,none⟩) hbel,hS.cell (p:=⟨be,3,none⟩) hbel,hS.cell (p:=⟨bx,0,none⟩) hbxl,hS.cell (p:=⟨bx,1,none⟩) hbxl,hS.cell (p:=⟨bx,2,none⟩) hbxl,hS.cell (p:=⟨bx,3,none⟩) hbxl,hS.cell (p:=⟨bx,4,none⟩) hbxl,hS.cell (p:=⟨bx,5,none⟩) hbxl⟩
 clear hK K hS;try simp only [Act.put,lt,ly,lu]
 refine rd (i:=9) (h:=fun K hK=>?_)
 have DBq6:=Ac' hR1.out y0_5.out
 have q0:w5.cell? ⟨R1,0,none⟩=some (.bool false):=cR _ _ _ _ _ _ DBq6
 have F0:w5.frozen? ⟨R1,0,none⟩=false:=fR w5 (R1) 0 _ _ DBq6
 have q1:w5.cell? ⟨R1,1,none⟩=some (.slice none 0 0):=cR _ _ _ _ _ _ DBq6
 have F1:w5.frozen? ⟨R1,1,none⟩=false:=fR w5 (R1) 1 _ _ DBq6
 have q2:w5.cell? ⟨R1,2,none⟩=some (.slice none 0 0):=cR _ _ _ _ _ _ DBq6
 have F2:w5.frozen? ⟨R1,2,none⟩=false:=fR w5 (R1) 2 _ _ DBq6
 have q3:w5.cell? ⟨R1,3,none⟩=some (.bool false):=cR _ _ _ _ _ _ DBq6
 have F3:w5.frozen? ⟨R1,3,none⟩=false:=fR w5 (R1) 3 _ _ DBq6
 have q4:w5.cell? ⟨R1,4,none⟩=some (.slice none 0 0):=cR _ _ _ _ _ _ DBq6
 have F4:w5.frozen? ⟨R1,4,none⟩=false:=fR w5 (R1) 4 _ _ DBq6
 have q5:w5.cell? ⟨R1,5,none⟩=some (.slice none 0 0):=cR _ _ _ _ _ _ DBq6
 have F5:w5.frozen? ⟨R1,5,none⟩=false:=fR w5 (R1) 5 _ _ DBq6
 have hS:=y0_5.out
 have hz6:w.heap.size≤w5.heap.size:=hS.size
 go_simp
 clear q0 F0 q1 F1 q2 F2 q3 F3 q4 F4 q5 F5
 have FV:=hid (hD.out.keep y0_5.out)
 have FB:=hid (bS HB.out y0_5.out)
 obtain ⟨w6,hw⟩:=eX (((((((w5.setCell ⟨R1,0,none⟩ (.bool (decide (lo.num<0)))).setCell ⟨R1,1,none⟩ (.slice A1 (Vx.len lo.num.natAbs) c1)).setCell ⟨R1,2,none⟩ (.slice B1 (Vx.len (below lo.den)) d1)).setCell ⟨R1,3,none⟩ (.bool (decide (hi.num<0)))).setCell ⟨R1,4,none⟩ (.slice A2 (Vx.len hi.num.natAbs) c2)).setCell ⟨R1,5,none⟩ (.slice B2 (Vx.len (below hi.den)) d2)))
 have hse6:w6.heap.size=w5.heap.size:=by rw [hw];simp
 obtain ⟨E,OT,LV,BL⟩:=Av DBq6 hw
 rw [←hw]
 clear hw
 have L6:=hid E
 have FB6:=hid (BL _ _ (by omega) FB.out)
 have LKR26:=hid (OT _ _ (by omega) (Ac' hR2.out y0_5.out))
 have KVbx6:=hid (LV.box (hD.out.keep y0_5.out))
 have KVE6:=hid (LV.rbox hv5.out)
 have s0_6:w6.cell? ⟨be,0,none⟩=w.cell? ⟨be,0,none⟩:=(Aa' OT (by omega) (ltl hbel hz6)).trans (hS.cell (p:=⟨be,0,none⟩) hbel)
 have s1_6:w6.cell? ⟨be,1,none⟩=w.cell? ⟨be,1,none⟩:=(Aa' OT (by omega) (ltl hbel hz6)).trans (hS.cell (p:=⟨be,1,none⟩) hbel)
 have s2_6:w6.cell? ⟨be,2,none⟩=w.cell? ⟨be,2,none⟩:=(Aa' OT (by omega) (ltl hbel hz6)).trans (hS.cell (p:=⟨be,2,none⟩) hbel)
 have s3_6:w6.cell? ⟨be,3,none⟩=w.cell? ⟨be,3,none⟩:=(Aa' OT (by omega) (ltl hbel hz6)).trans (hS.cell (p:=⟨be,3,none⟩) hbel)
 have s4_6:w6.cell? ⟨bx,0,none⟩=w.cell? ⟨bx,0,none⟩:=(Aa' OT (by omega) (ltl hbxl hz6)).trans (hS.cell (p:=⟨bx,0,none⟩) hbxl)
 have s5_6:w6.cell? ⟨bx,1,none⟩=w.cell? ⟨bx,1,none⟩:=(Aa' OT (by omega) (ltl hbxl hz6)).trans (hS.cell (p:=⟨bx,1,none⟩) hbxl)
 have s6_6:w6.cell? ⟨bx,2,none⟩=w.cell? ⟨bx,2,none⟩:=(Aa' OT (by omega) (ltl hbxl hz6)).trans (hS.cell (p:=⟨bx,2,none⟩) hbxl)
 have s7_6:w6.cell? ⟨bx,3,none⟩=w.cell? ⟨bx,3,none⟩:=(Aa' OT (by omega) (ltl hbxl hz6)).trans (hS.cell (p:=⟨bx,3,none⟩) hbxl)
 have s8_6:w6.cell? ⟨bx,4,none⟩=w.cell? ⟨bx,4,none⟩:=(Aa' OT (by omega) (ltl hbxl hz6)).trans (hS.cell (p:=⟨bx,4,none⟩) hbxl)
 have s9_6:w6.cell? ⟨bx,5,none⟩=w.cell? ⟨bx,5,none⟩:=(Aa' OT (by omega) (ltl hbxl hz6)).trans (hS.cell (p:=⟨bx,5,none⟩) hbxl)
 refine hK.out _ _ ?_ (fun hHeld2=>?_)
 · (try dsimp only)
   exact ⟨s0_6,s1_6,s2_6,s3_6,s4_6,s5_6,s6_6,s7_6,s8_6,s9_6⟩
 clear hK K hHeld hS OT LV BL FV FB E DBq6
 try simp only [Act.put,lt,ly,lu]
 have hHeld:=hHeld2
 clear hHeld2
 refine rd (i:=10) (h:=fun K hK=>?_)
 have DBq8:=Ac' LKR26.out (Below.refl _ w6)
 have q0:w6.cell? ⟨R2,0,none⟩=some (.bool false):=cR _ _ _ _ _ _ DBq8
 have F0:w6.frozen? ⟨R2,0,none⟩=false:=fR w6 (R2) 0 _ _ DBq8
 have q1:w6.cell? ⟨R2,1,none⟩=some (.slice none 0 0):=cR _ _ _ _ _ _ DBq8
 have F1:w6.frozen? ⟨R2,1,none⟩=false:=fR w6 (R2) 1 _ _ DBq8
 have q2:w6.cell? ⟨R2,2,none⟩=some (.slice none 0 0):=cR _ _ _ _ _ _ DBq8
 have F2:w6.frozen? ⟨R2,2,none⟩=false:=fR w6 (R2) 2 _ _ DBq8
 have q3:w6.cell? ⟨R2,3,none⟩=some (.bool false):=cR _ _ _ _ _ _ DBq8
 have F3:w6.frozen? ⟨R2,3,none⟩=false:=fR w6 (R2) 3 _ _ DBq8
 have q4:w6.cell? ⟨R2,4,none⟩=some (.slice none 0 0):=cR _ _ _ _ _ _ DBq8
 have F4:w6.frozen? ⟨R2,4,none⟩=false:=fR w6 (R2) 4 _ _ DBq8
 have q5:w6.cell? ⟨R2,5,none⟩=some (.slice none 0 0):=cR _ _ _ _ _ _ DBq8
 have F5:w6.frozen? ⟨R2,5,none⟩=false:=fR w6 (R2) 5 _ _ DBq8
 have hz7:w.heap.size≤w6.heap.size:=nT hz6 (Nat.le_of_eq hse6.symm)
 go_simp
 clear q0 F0 q1 F1 q2 F2 q3 F3 q4 F4 q5 F5
 have FV:=hid KVE6.out
 have FB:=hid FB6.out
 obtain ⟨w7,hw⟩:=eX (((((((w6.setCell ⟨R2,0,none⟩ (.bool (decide (lo.num<0)))).setCell ⟨R2,1,none⟩ (.slice C5 (len lo.num.natAbs) j5)).setCell ⟨R2,2,none⟩ (.slice C6 (len lo.den) j6)).setCell ⟨R2,3,none⟩ (.bool (decide (hi.num<0)))).setCell ⟨R2,4,none⟩ (.slice C7 (len hi.num.natAbs) j7)).setCell ⟨R2,5,none⟩ (.slice C8 (len hi.den) j8)))
 have hse7:w7.heap.size=w6.heap.size:=by rw [hw];simp
 obtain ⟨E,OT,LV,BL⟩:=Av DBq8 hw
 rw [←hw]
 clear hw
 have L7:=hid E
 have FB7:=hid (BL _ _ (by omega) FB.out)
 have LKR17:=hid (OT _ _ (by omega) (Ac' L6.out (Below.refl _ w6)))
 have KVbx7:=hid (LV.box KVbx6.out)
 have KVE7:=hid (LV.rbox KVE6.out)
 have s0_7:w7.cell? ⟨be,0,none⟩=w.cell? ⟨be,0,none⟩:=(Aa' OT (by omega) (ltl hbel hz7)).trans s0_6
 have s1_7:w7.cell? ⟨be,1,none⟩=w.cell? ⟨be,1,none⟩:=(Aa' OT (by omega) (ltl hbel hz7)).trans s1_6
 have s2_7:w7.cell? ⟨be,2,none⟩=w.cell? ⟨be,2,none⟩:=(Aa' OT (by omega) (ltl hbel hz7)).trans s2_6
 have s3_7:w7.cell? ⟨be,3,none⟩=w.cell? ⟨be,3,none⟩:=(Aa' OT (by omega) (ltl hbel hz7)).trans s3_6
 have s4_7:w7.cell? ⟨bx,0,none⟩=w.cell? ⟨bx,0,none⟩:=(Aa' OT (by omega) (ltl hbxl hz7)).trans s4_6
 have s5_7:w7.cell? ⟨bx,1,none⟩=w.cell? ⟨bx,1,none⟩:=(Aa' OT (by omega) (ltl hbxl hz7)).trans s5_6
 have s6_7:w7.cell? ⟨bx,2,none⟩=w.cell? ⟨bx,2,none⟩:=(Aa' OT (by omega) (ltl hbxl hz7)).trans s6_6
 have s7_7:w7.cell? ⟨bx,3,none⟩=w.cell? ⟨bx,3,none⟩:=(Aa' OT (by omega) (ltl hbxl hz7)).trans s7_6
 have s8_7:w7.cell? ⟨bx,4,none⟩=w.cell? ⟨bx,4,none⟩:=(Aa' OT (by omega) (ltl hbxl hz7)).trans s8_6
 have s9_7:w7.cell? ⟨bx,5,none⟩=w.cell? ⟨bx,5,none⟩:=(Aa' OT (by omega) (ltl hbxl hz7)).trans s9_6
 refine hK.out _ _ ?_ (fun hHeld2=>?_)
 · (try dsimp only)
   exact ⟨s0_7,s1_7,s2_7,s3_7,s4_7,s5_7,s6_7,s7_7,s8_7,s9_7⟩
 clear hK K hHeld  OT LV BL FV FB E DBq8
 try simp only [Act.put,lt,ly,lu]
 have hHeld:=hHeld2
 clear hHeld2
 refine wpAnyH_done (by kernel_rfl) ?_ _
 clear hHeld
 have HBX:=hid KVbx7.out
 have HRB:=hid KVE7.out
 have FB:=hid FB7.out
 obtain ⟨r0,r1,r2,r3,r4,r5⟩:=Af LKR17.out
 obtain ⟨q0,q1,q2,q3,q4,q5⟩:=Af L7.out
 go_wp2_with fail
 refine bP (v:=.tuple #[.agg #[.bool (decide (lo.num<0)),.slice A1 (Vx.len lo.num.natAbs) c1,.slice B1 (Vx.len (below lo.den)) d1,.bool (decide (hi.num<0)),.slice A2 (Vx.len hi.num.natAbs) c2,.slice B2 (Vx.len (below hi.den)) d2],.agg #[.bool (decide (lo.num<0)),.slice C5 (len lo.num.natAbs) j5,.slice C6 (len lo.den) j6,.bool (decide (hi.num<0)),.slice C7 (len hi.num.natAbs) j7,.slice C8 (len hi.den) j8]]) ?_ rfl ⟨_,_,rfl,HBX.out,HRB.out,FB.out⟩
 simp [results,Tryz.results4,go_sem,r0,r1,r2,r3,r4,r5,q0,q1,q2,q3,q4,q5]
theorem EW' {wa w:World} {M0 M1:Int} {D0 D1 be R1 R2:Nat} {x y lo hi:Rat} {bl bh:Nat} {A1 B1 A2 B2:Option Addr} {c1 d1 c2 d2:Nat} {y0 y6 y7 y8 y9 y10 y11 y12 y13 y14 y15 y16 y17 y18 y19 y20 y21 y22 y23 y24 y25 y26 y27 y28 y29 y30 y31 y32 y33 y34:Value} (HB:Below wa.heap.size wa w) (hbe:w.heap[be]?=some (.cells #[.int .i32 M0,.int .u8 ((D0:Nat):Int),.int .i32 M1,.int .u8 ((D1:Nat):Int)] 25 (0,0))) (hR1:w.heap[R1]?=some (.cells #[.bool false,.slice none 0 0,.slice none 0 0,.bool false,.slice none 0 0,.slice none 0 0] 34 (0,0))) (hR2:w.heap[R2]?=some (.cells #[.bool false,.slice none 0 0,.slice none 0 0,.bool false,.slice none 0 0,.slice none 0 0] 40 (0,0))) (l1:wa.heap.size≤R1) (l2:R1<R2) (l3:be<R1) (el:leastOf x [y]=lo) (eh:greatestOf x [y]=hi) (h1 : -2147483648≤M0) (h2:M0≤2147483647) (h3:D0≤255) (h4 : -2147483648≤M1) (h5:M1≤2147483647) (h6:D1≤255) (ex:AE M0 D0=x) (ey:AE M1 D1=y) (hbl:w.heap[bl]?=some (.cells #[.bool (decide (lo.num<0)),.slice A1 (Vx.len lo.num.natAbs) c1,.slice B1 (Vx.len (below lo.den)) d1] 32 (0,0))) (hL:Ad' w (.agg #[.bool (decide (lo.num<0)),.slice A1 (Vx.len lo.num.natAbs) c1,.slice B1 (Vx.len (below lo.den)) d1]) lo) (hbh:w.heap[bh]?=some (.cells #[.bool (decide (hi.num<0)),.slice A2 (Vx.len hi.num.natAbs) c2,.slice B2 (Vx.len (below hi.den)) d2] 32 (0,0))) (hH:Ad' w (.agg #[.bool (decide (hi.num<0)),.slice A2 (Vx.len hi.num.natAbs) c2,.slice B2 (Vx.len (below hi.den)) d2]) hi) :
   (codeAt 3 Tryz.f4).wp Tryz.prog (bodyPost Tryz.prog Tryz.f4 (Ce wa lo hi)) { tmps:=#[y0,.pointer (some ⟨be,0,none⟩),.pointer (some ⟨R1,0,none⟩),.pointer (some ⟨R2,0,none⟩),.pointer (some ⟨bl,0,none⟩),.pointer (some ⟨bh,0,none⟩),y6,y7,y8,y9,y10,y11,y12,y13,y14,y15,y16,y17,y18,y19,y20,y21,y22,y23,y24,y25,y26,y27,y28,y29,y30,y31,y32,y33,y34],defers:=[] } w:=by
 have kx:Ab' x≤20:=AK h1 h2 ex
 have ky:Ab' y≤20:=AK h4 h5 ey
 have hlh:lo≤hi:=by rw [←el,←eh];exact BI' _ _
 have sl:Ab' lo≤34359738368:=by
   have:=(Bs x [y] (N:=20) (by intro q hq;simp only [List.mem_cons,List.not_mem_nil,or_false] at hq;rcases hq with rfl | rfl <;> omega) 1).1
   rw [List.take_of_length_le (by simp),el] at this
   omega
 have sh:Ab' hi≤34359738368:=by
   have:=(Bs x [y] (N:=20) (by intro q hq;simp only [List.mem_cons,List.not_mem_nil,or_false] at hq;rcases hq with rfl | rfl <;> omega) 1).2
   rw [List.take_of_length_le (by simp),eh] at this
   omega
 obtain ⟨z0,z1,z2⟩:=Ae hbl
 obtain ⟨x0,x1,x2⟩:=Ae hbh
 clear kx ky
 replace HB:=hid HB
 replace hbe:=hid hbe
 replace hR1:=hid hR1
 replace hR2:=hid hR2
 replace hbl:=hid hbl
 replace hbh:=hid hbh
 replace hL:=hid hL
 replace hH:=hid hH
 replace el:=hid el
 replace eh:=hid eh
 replace ex:=hid ex
 replace ey:=hid ey
 replace sl:=hid sl
 replace sh:=hid sh
 replace hlh:=hid hlh
 replace h1:=hid h1
 replace h2:=hid h2
 replace h3:=hid h3
 replace h4:=hid h4
 replace h5:=hid h5
 replace h6:=hid h6
 show Code.wp _ (Code.seq _ _) _ _ _
 refine wp_seq_k ?_
 intro G hG
 replace hG:=hid hG
 have HX:=hid (EM' hL.out hH.out sl.out sh.out hlh.out)
 go_wp2_with fail
 refine (HX.out).mono ?_
 rintro e w1 ⟨v1,rfl,hv1,b1⟩
 obtain ⟨C1,j1,C2,j2,C3,j3,C4,j4,rfl,-,-,-,-⟩:=id hv1.opened
 replace hv1:=hid hv1
 replace b1:=hid b1
 clear HX
 go_wp2_with fail
 obtain ⟨w2,hw2⟩:=eX (w1.alloc (.cells #[.bool (decide (lo.num<0)),.slice C1 (Vx.len lo.num.natAbs) j1,.slice C2 (Vx.len (below lo.den)) j2,.bool (decide (hi.num<0)),.slice C3 (Vx.len hi.num.natAbs) j3,.slice C4 (Vx.len (below hi.den)) j4] 34))
 have b2:=hid (Ar hw2)
 have L2:=hid (At' hw2)
 rw [←hw2]
 clear hw2
 refine hG.out _ _ ?_
 have y0_2:=hid (bS b1.out b2.out)
 have l4:=Af' (Ac' hR2.out b1.out)
 exact H4' (bS HB.out y0_2.out) (Ac' hbe.out y0_2.out) (Ac' hR1.out y0_2.out) (Ac' hR2.out y0_2.out) l1 l2 l3 el.out eh.out h1.out h2.out h3.out h4.out h5.out h6.out ex.out ey.out L2.out (hv1.out.keep b2.out) l4
theorem Hc' {wa w:World} {M0 M1:Int} {D0 D1 be R1 R2:Nat} {x y lo hi:Rat} {bl bh:Nat} {A1 B1 A2 B2:Option Addr} {c1 d1 c2 d2:Nat} {y0 y6 y7 y8 y9 y10 y11 y12 y13 y14 y15 y16 y17 y18 y19 y20 y21 y22 y23 y24 y25 y26 y27 y28 y29 y30 y31 y32 y33 y34:Value} (HB:Below wa.heap.size wa w) (hbe:w.heap[be]?=some (.cells #[.int .i32 M0,.int .u8 ((D0:Nat):Int),.int .i32 M1,.int .u8 ((D1:Nat):Int)] 25 (0,0))) (hR1:w.heap[R1]?=some (.cells #[.bool false,.slice none 0 0,.slice none 0 0,.bool false,.slice none 0 0,.slice none 0 0] 34 (0,0))) (hR2:w.heap[R2]?=some (.cells #[.bool false,.slice none 0 0,.slice none 0 0,.bool false,.slice none 0 0,.slice none 0 0] 40 (0,0))) (l1:wa.heap.size≤R1) (l2:R1<R2) (l3:be<R1) (el:leastOf x [y]=lo) (eh:greatestOf x [y]=hi) (h1 : -2147483648≤M0) (h2:M0≤2147483647) (h3:D0≤255) (h4 : -2147483648≤M1) (h5:M1≤2147483647) (h6:D1≤255) (ex:AE M0 D0=x) (ey:AE M1 D1=y) (hbl:w.heap[bl]?=some (.cells #[.bool (decide (x.num<0)),.slice A1 (Vx.len x.num.natAbs) c1,.slice B1 (Vx.len (below x.den)) d1] 32 (0,0))) (hL:Ad' w (.agg #[.bool (decide (x.num<0)),.slice A1 (Vx.len x.num.natAbs) c1,.slice B1 (Vx.len (below x.den)) d1]) x) (hbh:w.heap[bh]?=some (.cells #[.bool (decide (y.num<0)),.slice A2 (Vx.len y.num.natAbs) c2,.slice B2 (Vx.len (below y.den)) d2] 32 (0,0))) (hH:Ad' w (.agg #[.bool (decide (y.num<0)),.slice A2 (Vx.len y.num.natAbs) c2,.slice B2 (Vx.len (below y.den)) d2]) y) (lhl:bh≠bl) (lA:R2<bl) (lB:R2<bh) (hxy:¬ y<x) :
   (codeAt 2 Tryz.f4).wp Tryz.prog (bodyPost Tryz.prog Tryz.f4 (Ce wa lo hi)) { tmps:=#[y0,.pointer (some ⟨be,0,none⟩),.pointer (some ⟨R1,0,none⟩),.pointer (some ⟨R2,0,none⟩),.pointer (some ⟨bl,0,none⟩),.pointer (some ⟨bh,0,none⟩),y6,y7,y8,y9,y10,y11,y12,y13,y14,y15,y16,y17,y18,y19,y20,y21,y22,y23,y24,y25,y26,y27,y28,y29,y30,y31,y32,y33,y34],defers:=[] } w:=by
 have kx:Ab' x≤536870912:=by have:=AK h1 h2 ex;omega
 have ky:Ab' y≤536870912:=by have:=AK h4 h5 ey;omega
 obtain ⟨cc,hcc⟩:=eY (cmpQ x y:Int)
 have hd:decide (cc>0)=false:=dF_ (by rw [←hcc,AV'];exact hxy)
 have hd2:¬ cc>0:=of_decide_eq_false hd
 obtain rfl:x=lo:=by rw [←el];unfold leastOf;simp only [List.foldl_cons,List.foldl_nil];rw [if_neg hxy]
 obtain rfl:y=hi:=by rw [←eh];unfold greatestOf;simp only [List.foldl_cons,List.foldl_nil];split <;> grind
 obtain ⟨z0,z1,z2⟩:=Ae hbl
 obtain ⟨x0,x1,x2⟩:=Ae hbh
 replace HB:=hid HB
 replace hbe:=hid hbe
 replace hR1:=hid hR1
 replace hR2:=hid hR2
 replace hbl:=hid hbl
 replace hbh:=hid hbh
 replace hL:=hid hL
 replace hH:=hid hH
 replace el:=hid el
 replace eh:=hid eh
 replace ex:=hid ex
 replace ey:=hid ey
 replace kx:=hid kx
 replace ky:=hid ky
 replace hcc:=hid hcc
 replace hxy:=hid hxy
 replace h1:=hid h1
 replace h2:=hid h2
 replace h3:=hid h3
 replace h4:=hid h4
 replace h5:=hid h5
 replace h6:=hid h6
 show Code.wp _ (Code.seq _ _) _ _ _
 refine wp_seq_k ?_
 intro G hG
 replace hG:=hid hG
 have HX:=hid (Ba' hcc.out hL.out hH.out kx.out ky.out)
 go_wp2_with fail
 refine (HX.out).mono ?_
 rintro e w1 ⟨rfl,b1⟩
 replace b1:=hid b1
 clear HX
 clear z0 z1 z2 x0 x1 x2
 go_wp2_with fail
 refine hG.out _ _ ?_
 exact EW' (bS HB.out b1.out) (Ac' hbe.out b1.out) (Ac' hR1.out b1.out) (Ac' hR2.out b1.out) l1 l2 l3 el.out eh.out h1.out h2.out h3.out h4.out h5.out h6.out ex.out ey.out (Ac' hbl.out b1.out) (hL.out.keep b1.out) (Ac' hbh.out b1.out) (hH.out.keep b1.out)
theorem Hd' {wa w:World} {M0 M1:Int} {D0 D1 be R1 R2:Nat} {x y lo hi:Rat} {bl bh:Nat} {A1 B1 A2 B2:Option Addr} {c1 d1 c2 d2:Nat} {y0 y6 y7 y8 y9 y10 y11 y12 y13 y14 y15 y16 y17 y18 y19 y20 y21 y22 y23 y24 y25 y26 y27 y28 y29 y30 y31 y32 y33 y34:Value} (HB:Below wa.heap.size wa w) (hbe:w.heap[be]?=some (.cells #[.int .i32 M0,.int .u8 ((D0:Nat):Int),.int .i32 M1,.int .u8 ((D1:Nat):Int)] 25 (0,0))) (hR1:w.heap[R1]?=some (.cells #[.bool false,.slice none 0 0,.slice none 0 0,.bool false,.slice none 0 0,.slice none 0 0] 34 (0,0))) (hR2:w.heap[R2]?=some (.cells #[.bool false,.slice none 0 0,.slice none 0 0,.bool false,.slice none 0 0,.slice none 0 0] 40 (0,0))) (l1:wa.heap.size≤R1) (l2:R1<R2) (l3:be<R1) (el:leastOf x [y]=lo) (eh:greatestOf x [y]=hi) (h1 : -2147483648≤M0) (h2:M0≤2147483647) (h3:D0≤255) (h4 : -2147483648≤M1) (h5:M1≤2147483647) (h6:D1≤255) (ex:AE M0 D0=x) (ey:AE M1 D1=y) (hbl:w.heap[bl]?=some (.cells #[.bool (decide (x.num<0)),.slice A1 (Vx.len x.num.natAbs) c1,.slice B1 (Vx.len (below x.den)) d1] 32 (0,0))) (hL:Ad' w (.agg #[.bool (decide (x.num<0)),.slice A1 (Vx.len x.num.natAbs) c1,.slice B1 (Vx.len (below x.den)) d1]) x) (hbh:w.heap[bh]?=some (.cells #[.bool (decide (y.num<0)),.slice A2 (Vx.len y.num.natAbs) c2,.slice B2 (Vx.len (below y.den)) d2] 32 (0,0))) (hH:Ad' w (.agg #[.bool (decide (y.num<0)),.slice A2 (Vx.len y.num.natAbs) c2,.slice B2 (Vx.len (below y.den)) d2]) y) (lhl:bh≠bl) (lA:R2<bl) (lB:R2<bh) (hxy:y<x) :
   (codeAt 2 Tryz.f4).wp Tryz.prog (bodyPost Tryz.prog Tryz.f4 (Ce wa lo hi)) { tmps:=#[y0,.pointer (some ⟨be,0,none⟩),.pointer (some ⟨R1,0,none⟩),.pointer (some ⟨R2,0,none⟩),.pointer (some ⟨bl,0,none⟩),.pointer (some ⟨bh,0,none⟩),y6,y7,y8,y9,y10,y11,y12,y13,y14,y15,y16,y17,y18,y19,y20,y21,y22,y23,y24,y25,y26,y27,y28,y29,y30,y31,y32,y33,y34],defers:=[] } w:=by
 have l5:wa.heap.size≤bh:=by omega
 have l6:wa.heap.size≤bl:=by omega
 have l7:be≠bh:=by omega
 have l8:be≠bl:=by omega
 have l9:R1≠bh:=by omega
 have l10:R1≠bl:=by omega
 have l11:R2≠bh:=by omega
 have l12:R2≠bl:=by omega
 have kx:Ab' x≤536870912:=by have:=AK h1 h2 ex;omega
 have ky:Ab' y≤536870912:=by have:=AK h4 h5 ey;omega
 obtain ⟨cc,hcc⟩:=eY (cmpQ x y:Int)
 have hd:decide (cc>0)=true:=dT_ (by rw [←hcc,AV'];exact hxy)
 have hd2:cc>0:=of_decide_eq_true hd
 obtain rfl:y=lo:=by rw [←el];unfold leastOf;simp only [List.foldl_cons,List.foldl_nil];rw [if_pos hxy]
 obtain rfl:x=hi:=by rw [←eh];unfold greatestOf;simp only [List.foldl_cons,List.foldl_nil];split <;> grind
 obtain ⟨z0,z1,z2⟩:=Ae hbl
 obtain ⟨x0,x1,x2⟩:=Ae hbh
 replace HB:=hid HB
 replace hbe:=hid hbe
 replace hR1:=hid hR1
 replace hR2:=hid hR2
 replace hbl:=hid hbl
 replace hbh:=hid hbh
 replace hL:=hid hL
 replace hH:=hid hH
 replace el:=hid el
 replace eh:=hid eh
 replace ex:=hid ex
 replace ey:=hid ey
 replace kx:=hid kx
 replace ky:=hid ky
 replace hcc:=hid hcc
 replace hxy:=hid hxy
 replace h1:=hid h1
 replace h2:=hid h2
 replace h3:=hid h3
 replace h4:=hid h4
 replace h5:=hid h5
 replace h6:=hid h6
 show Code.wp _ (Code.seq _ _) _ _ _
 refine wp_seq_k ?_
 intro G hG
 replace hG:=hid hG
 have HX:=hid (Ba' hcc.out hL.out hH.out kx.out ky.out)
 go_wp2_with fail
 refine (HX.out).mono ?_
 rintro e w1 ⟨rfl,b1⟩
 replace b1:=hid b1
 clear HX
 clear z0 z1 z2 x0 x1 x2
 have D1:=Ac' hbl.out b1.out
 have D2:=Ac' hbh.out b1.out
 obtain ⟨z0,z1,z2⟩:=Ae D1
 obtain ⟨x0,x1,x2⟩:=Ae D2
 have F0:=fR w1 bl 0 _ _ D1
 have F1:=fR w1 bl 1 _ _ D1
 have F2:=fR w1 bl 2 _ _ D1
 obtain ⟨u1,hu1⟩:=eX ((((w1.setCell ⟨bl,0,none⟩ (.bool (decide (y.num<0)))).setCell ⟨bl,1,none⟩ (.slice A2 (Vx.len y.num.natAbs) c2)).setCell ⟨bl,2,none⟩ (.slice B2 (Vx.len (below y.den)) d2)))
 obtain ⟨E1,OT1,LV1,BL1⟩:=As' D1 hu1
 have D2':=OT1 _ _ lhl D2
 have F3:=fR u1 bh 0 _ _ D2'
 have F4:=fR u1 bh 1 _ _ D2'
 have F5:=fR u1 bh 2 _ _ D2'
 obtain ⟨u2,hu2⟩:=eX ((((u1.setCell ⟨bh,0,none⟩ (.bool (decide (x.num<0)))).setCell ⟨bh,1,none⟩ (.slice A1 (Vx.len x.num.natAbs) c1)).setCell ⟨bh,2,none⟩ (.slice B1 (Vx.len (below x.den)) d1)))
 obtain ⟨E2,OT2,LV2,BL2⟩:=As' D2' hu2
 obtain ⟨x3,x4,x5⟩:=Ae D2'
 have P1:=hid (BL2 _ _ l5 (BL1 _ _ l6 (bS HB.out b1.out)))
 have P2:=hid (OT2 _ _ l7 (OT1 _ _ l8 (Ac' hbe.out b1.out)))
 have P3:=hid (OT2 _ _ l9 (OT1 _ _ l10 (Ac' hR1.out b1.out)))
 have P4:=hid (OT2 _ _ l11 (OT1 _ _ l12 (Ac' hR2.out b1.out)))
 have P5:=hid (OT2 _ _ (Ne.symm lhl) E1)
 have P6:=hid (LV2.num (LV1.num (hH.out.keep b1.out)))
 have P7:=hid E2
 have P8:=hid (LV2.num (LV1.num (hL.out.keep b1.out)))
 rw [hu1] at x3 x4 x5 F3 F4 F5
 replace hu1:=hid hu1
 replace hu2:=hid hu2
 clear OT1 OT2 LV1 LV2 BL1 BL2 E1 E2 D1 D2 D2'
 go_wp2_with fail
 rw [←hu1.out,←hu2.out]
 refine hG.out _ _ ?_
 exact EW' P1.out P2.out P3.out P4.out l1 l2 l3 el.out eh.out h1.out h2.out h3.out h4.out h5.out h6.out ex.out ey.out P5.out P6.out P7.out P8.out
theorem Ce' {P:Program} {md:Region.Mode} {ops:Array Oper} {Q:Exit→Act→World→Prop} {S:World→Prop} {INV:Act→Nat→Array Bool→Act→World→Prop} {base n:Nat} {l:Array Bool} {a:Act} {w:World} (hi:INV a n l a w) (h0:∀ l' a' w',INV a 0 l' a' w'→wpAnyH P md ops Q S base l' a' w')
   (hs:∀ n l' a' w',INV a (n+1) l' a' w'→(∀ m,m≤n→∀ l'' a'' w'',INV a m l'' a'' w''→wpAnyH P md ops Q S (m+base) l'' a'' w'')→wpAnyH P md ops Q S (n+1+base) l' a' w'):wpAnyH P md ops Q S (n+base) l a w:=by
 have h:∀ k n,n≤k→∀ l' a' w',INV a n l' a' w'→wpAnyH P md ops Q S (n+base) l' a' w':=by
   intro k
   induction k with
   | zero =>
     intro n hn l' a' w' h
     obtain rfl:n=0:=by omega
     rw [Nat.zero_add]
     exact h0 l' a' w' h
   | succ k ih =>
     intro n hn l' a' w' h
     cases n with
     | zero=>rw [Nat.zero_add];exact h0 l' a' w' h
     | succ n=>exact hs n l' a' w' h (fun m hm=>ih m (by omega))
 exact h n n (nL _) l a w hi
theorem BN' {P:Program} {md:Region.Mode} {ops:Array Oper} {Q:Exit→Act→World→Prop} {S:World→Prop} {f:Nat} {l:Array Bool} {a:Act} {w:World} (p:Nat→Bool) (hr:(!(Region.ready md ops l).isEmpty && (Region.ready md ops l).all p)=true) (h:∀ i,p i=true→AllReadyH P md ops Q S f l a w [i]):wpAnyH P md ops Q S (f+1) l a w:=by
 rw [Bool.and_eq_true] at hr
 refine wpAnyH_all rfl ?_ (fun i hi=>h i (List.all_eq_true.1 hr.2 i hi) i (List.mem_singleton.2 rfl))
 intro e
 have h1:=hr.1
 rw [e] at h1
 cases h1
def BN (N:Nat) (w:World) (o:Obj) (b:Nat):Prop:=N≤b∧w.heap[b]?=some o
theorem BN.keep {N:Nat} {w w':World} {o:Obj} {b:Nat} (h:BN N w o b) (hb:Below w.heap.size w w'):BN N w' o b:=⟨h.1,Ac' h.2 hb⟩
theorem BN.ne {N:Nat} {w:World} {o:Obj} {b:Nat} (h:BN N w o b):w.heap.size≠b:=Ne.symm (Nat.ne_of_lt (Af' h.2))
theorem BN.new {N:Nat} {w:World} (o:Obj) (h:N≤w.heap.size):BN N (w.alloc o) o w.heap.size:=⟨h,hA_ w o⟩
def BP (d:Bool) (N:Nat) (w:World) (o:Obj) (p:Value) (b:Nat):Prop:=d=true→p=.pointer (some ⟨b,0,none⟩)∧BN N w o b
theorem BP.keep {d:Bool} {N:Nat} {w w':World} {o:Obj} {p:Value} {b:Nat} (h:BP d N w o p b) (hb:Below w.heap.size w w'):BP d N w' o p b:=fun hd=>⟨(h hd).1,(h hd).2.keep hb⟩
theorem BP.ne {d:Bool} {N:Nat} {w:World} {o:Obj} {p:Value} {b:Nat} (h:BP d N w o p b):d=true→w.heap.size≠b:=fun hd=>(h hd).2.ne
theorem BP.new {d:Bool} {N:Nat} {w:World} (o:Obj) (h:N≤w.heap.size):BP d N (w.alloc o) o (.pointer (some ⟨w.heap.size,0,none⟩)) w.heap.size:=fun _=>⟨rfl,.new o h⟩
theorem CX' {w:World} {M0 M1:Int} {D0 D1:Nat} {x y lo hi:Rat} (h1 : -2147483648≤M0) (h2:M0≤2147483647) (h3:D0≤255) (h4 : -2147483648≤M1) (h5:M1≤2147483647) (h6:D1≤255) (ex:AE M0 D0=x) (ey:AE M1 D1=y) (el:leastOf x [y]=lo) (eh:greatestOf x [y]=hi) :
   Calls Tryz.prog 4 #[.agg #[.int .i32 M0,.int .u8 ((D0:Nat):Int),.int .i32 M1,.int .u8 ((D1:Nat):Int)]] w (Ce w lo hi):=by
 have kx:Ab' x≤20:=AK h1 h2 ex
 obtain ⟨w1,hw⟩:=eX (((w.alloc (.cells #[.int .i32 M0,.int .u8 ((D0:Nat):Int),.int .i32 M1,.int .u8 ((D1:Nat):Int)] 25)).alloc (.cells #[.bool false,.slice none 0 0,.slice none 0 0,.bool false,.slice none 0 0,.slice none 0 0] 34)).alloc (.cells #[.bool false,.slice none 0 0,.slice none 0 0,.bool false,.slice none 0 0,.slice none 0 0] 40))
 obtain ⟨b1,g1,g2,g3⟩:=AD hw
 obtain ⟨z0,z1,z2,z3⟩:w1.cell? ⟨w.heap.size,0,none⟩=some (.int .i32 M0)∧w1.cell? ⟨w.heap.size,1,none⟩=some (.int .u8 ((D0:Nat):Int))∧w1.cell? ⟨w.heap.size,2,none⟩=some (.int .i32 M1)∧w1.cell? ⟨w.heap.size,3,none⟩=some (.int .u8 ((D1:Nat):Int)):=⟨cR _ _ 0 _ _ _ g1,cR _ _ 1 _ _ _ g1,cR _ _ 2 _ _ _ g1,cR _ _ 3 _ _ _ g1⟩
 have hbel:=Af' g1
 have lR:=Af' g3
 replace b1:=hid b1
 replace g1:=hid g1
 replace g2:=hid g2
 replace g3:=hid g3
 replace ex:=hid ex
 replace ey:=hid ey
 replace el:=hid el
 replace eh:=hid eh
 replace h1:=hid h1
 replace h2:=hid h2
 replace h3:=hid h3
 replace h4:=hid h4
 replace h5:=hid h5
 replace h6:=hid h6
 clear kx
 go_enter Tryz.func4,Tryz.ntmps4
 go_upto_region 1 with fail
 rename_i G hG
 replace hG:=hid hG
 rw [←hw]
 clear hw
 go_wp2_with fail
 refine wp_region_held_drew (S:=(fun w'=>(w'.cell? ⟨w.heap.size,0,none⟩=w1.cell? ⟨w.heap.size,0,none⟩∧w'.cell? ⟨w.heap.size,1,none⟩=w1.cell? ⟨w.heap.size,1,none⟩∧w'.cell? ⟨w.heap.size,2,none⟩=w1.cell? ⟨w.heap.size,2,none⟩∧w'.cell? ⟨w.heap.size,3,none⟩=w1.cell? ⟨w.heap.size,3,none⟩))) (by kernel_rfl) ?_ (fun hHeld=>?_)
 · (try dsimp only)
   exact ⟨rfl,rfl,rfl,rfl⟩
 obtain ⟨w2,hw2⟩:=eX w1.drew
 have bd:Hid (Below w1.heap.size w1 w2):=hid (by rw [hw2];exact ⟨rfl,rfl,rfl,nL _,fun _ _=>rfl⟩)
 rw [←hw2] at hHeld ⊢
 clear hw2
 have hSof:Hid (∀ u:World,Below w2.heap.size w2 u→(u.cell? ⟨w.heap.size,0,none⟩=w1.cell? ⟨w.heap.size,0,none⟩∧u.cell? ⟨w.heap.size,1,none⟩=w1.cell? ⟨w.heap.size,1,none⟩∧u.cell? ⟨w.heap.size,2,none⟩=w1.cell? ⟨w.heap.size,2,none⟩∧u.cell? ⟨w.heap.size,3,none⟩=w1.cell? ⟨w.heap.size,3,none⟩)):=hid (fun u hu=>by
   have k:=bS bd.out hu
   exact ⟨k.cell (p:=⟨w.heap.size,0,none⟩) hbel,k.cell (p:=⟨w.heap.size,1,none⟩) hbel,k.cell (p:=⟨w.heap.size,2,none⟩) hbel,k.cell (p:=⟨w.heap.size,3,none⟩) hbel⟩)
 have lD:w1.heap.size≤w2.heap.size:=bd.out.size
 refine tk (i:=0) (h:=?_)
 try simp only [Act.put,lt,ly,lu]
 refine tk (i:=1) (h:=?_)
 try simp only [Act.put,lt,ly,lu]
 refine tk (i:=3) (h:=?_)
 try simp only [Act.put,lt,ly,lu]
 refine tk (i:=4) (h:=?_)
 try simp only [Act.put,lt,ly,lu]
 clear hHeld z0 z1 z2 z3
 refine Ce' (base:=2) (n:=4) (INV:=fun a0 nK lK aK u=>∃ (c2 c5 d6 d7:Bool) (vx vy p6 p7:Value) (b6 b7:Nat),nK=(!c2).toNat+(!c5).toNat+(!d6).toNat+(!d7).toNat∧lK=#[true,true,c2,true,true,c5,d6,d7,false,false]∧aK={ a0 with tmps:=((((a0.tmps.setIfInBounds 10 vx).setIfInBounds 13 vy).setIfInBounds 4 p6).setIfInBounds 5 p7) }∧((c2 || !c5))=true∧Below w2.heap.size w2 u∧(c2=true→Ad' u vx x)∧(c5=true→Ad' u vy y)∧BP d6 w2.heap.size u (.cells #[.bool false,.slice none 0 0,.slice none 0 0] 32) p6 b6∧BP d7 w2.heap.size u (.cells #[.bool false,.slice none 0 0,.slice none 0 0] 32) p7 b7∧(d6=true→d7=true→b6≠b7)) ?_ ?_ ?_
 · exact ⟨false,false,false,false,undef,undef,undef,undef,0,0,rfl,rfl,(by kernel_rfl),rfl,Below.refl _ _,nofun,nofun,nofun,nofun,nofun⟩
 rotate_left
 · rintro nK lK aK u ⟨c2,c5,d6,d7,vx,vy,p6,p7,b6,b7,hn,rfl,rfl,hc,HB,k2,k5,r6,r7,n6_7⟩ ih
   refine BN' (fun i=>(i==2 && !c2) || (i==5 && (c2 && !c5)) || (i==6 && !d6) || (i==7 && !d7)) ?_ ?_
   · clear ih HB n6_7 r7 r6 k5 k2
     cases c2 <;> cases c5 <;> cases d6 <;> cases d7 <;> first | exact absurd hn (Nat.succ_ne_zero nK) | exact absurd hc Bool.false_ne_true | (clear hn hc;kernel_rfl)
   · intro iK hp
     simp only [Bool.or_eq_true,Bool.and_eq_true,beq_iff_eq,Bool.not_eq_true'] at hp
     rcases hp with (((⟨rfl,rfl⟩ | ⟨rfl,rfl,rfl⟩) | ⟨rfl,rfl⟩) | ⟨rfl,rfl⟩)
     · refine AllReadyH.cons (o:=?oq9) ?eq9 ?kq9 AllReadyH.nil
       case eq9=>simp only [lg,lz,ls] <;> rfl
       intro K hK
       go_simp
       go_at_call 16
       refine (Cd' h1.out h2.out h3.out ex.out).mono ?_
       rintro eK u9 ⟨vx,rfl,kk,b9⟩
       refine hK.out _ _ (hSof.out u9 (bS HB b9)) (fun hHeld=>?_)
       clear hK
       try simp only [Act.put,lt,ly,lu]
       exact ih _ (by omega) _ _ _ ⟨true,c5,d6,d7,vx,vy,p6,p7,b6,b7,(by simp only [Bool.not_true,Bool.not_false,Bool.toNat_true,Bool.toNat_false] at hn ⊢;omega),rfl,(by kernel_rfl),(by cases c5 <;> first | rfl | exact hc | cases hc),bS HB b9,fun _=>kk,fun h=>(k5 h).keep b9,r6.keep b9,r7.keep b9,n6_7⟩
     · refine AllReadyH.cons (o:=?oq10) ?eq10 ?kq10 AllReadyH.nil
       case eq10=>simp only [lg,lz,ls] <;> rfl
       intro K hK
       go_simp
       go_at_call 16
       refine (Cd' h4.out h5.out h6.out ey.out).mono ?_
       rintro eK u9 ⟨vy,rfl,kk,b9⟩
       refine hK.out _ _ (hSof.out u9 (bS HB b9)) (fun hHeld=>?_)
       clear hK
       try simp only [Act.put,lt,ly,lu]
       exact ih _ (by omega) _ _ _ ⟨true,true,d6,d7,vx,vy,p6,p7,b6,b7,(by simp only [Bool.not_true,Bool.not_false,Bool.toNat_true,Bool.toNat_false] at hn ⊢;omega),rfl,(by kernel_rfl),(by first | rfl | exact hc | cases hc),bS HB b9,fun h=>(k2 h).keep b9,fun _=>kk,r6.keep b9,r7.keep b9,n6_7⟩
     · refine AllReadyH.cons (o:=?oq11) ?eq11 ?kq11 AllReadyH.nil
       case eq11=>simp only [lg,lz,ls] <;> rfl
       intro K hK
       go_simp
       have b9:=An u (.cells #[.bool false,.slice none 0 0,.slice none 0 0] 32)
       refine hK.out _ _ (hSof.out _ (bS HB b9)) (fun _=>?_)
       try simp only [Act.put,lt,ly,lu]
       exact ih _ (by omega) _ _ _ ⟨c2,c5,true,d7,vx,vy,.pointer (some ⟨u.heap.size,0,none⟩),p7,u.heap.size,b7,(by simp only [Bool.not_true,Bool.not_false,Bool.toNat_true,Bool.toNat_false] at hn ⊢;omega),rfl,(by kernel_rfl),hc,bS HB b9,fun h=>(k2 h).keep b9,fun h=>(k5 h).keep b9,.new _ HB.size,r7.keep b9,fun _=>r7.ne⟩
     · refine AllReadyH.cons (o:=?oq12) ?eq12 ?kq12 AllReadyH.nil
       case eq12=>simp only [lg,lz,ls] <;> rfl
       intro K hK
       go_simp
       have b9:=An u (.cells #[.bool false,.slice none 0 0,.slice none 0 0] 32)
       refine hK.out _ _ (hSof.out _ (bS HB b9)) (fun _=>?_)
       try simp only [Act.put,lt,ly,lu]
       exact ih _ (by omega) _ _ _ ⟨c2,c5,d6,true,vx,vy,p6,.pointer (some ⟨u.heap.size,0,none⟩),b6,u.heap.size,(by simp only [Bool.not_true,Bool.not_false,Bool.toNat_true,Bool.toNat_false] at hn ⊢;omega),rfl,(by kernel_rfl),hc,bS HB b9,fun h=>(k2 h).keep b9,fun h=>(k5 h).keep b9,r6.keep b9,.new _ HB.size,fun h _=>(r6.ne h).symm⟩
 rintro lK aK u ⟨c2,c5,d6,d7,vx,vy,p6,p7,b6,b7,hn,rfl,rfl,hc,HB,k2,k5,r6,r7,n6_7⟩
 obtain ⟨rfl,rfl,rfl,rfl⟩:c2=true∧c5=true∧d6=true∧d7=true:=by
   revert hn
   clear HB hc n6_7 r7 r6 k5 k2
   cases c2 <;> cases c5 <;> cases d6 <;> cases d7 <;> simp
 clear hn hc
 replace k2:=k2 rfl
 replace k5:=k5 rfl
 obtain ⟨rfl,rr6⟩:=r6 rfl
 clear r6
 obtain ⟨rfl,rr7⟩:=r7 rfl
 clear r7
 replace n6_7:=n6_7 rfl rfl
 try simp only [Act.put,lt,ly,lu]
 obtain ⟨A1,c1,B1,e1,rfl,-,-⟩:=id k2.opened
 obtain ⟨A2,c2,B2,e2,rfl,-,-⟩:=id k5.opened
 have lb6:=rr6.1
 have lb7:=rr7.1
 replace rr6:=hid rr6
 replace rr7:=hid rr7
 have G1:=hid (Ac' g1.out (bS bd.out HB))
 have G2:=hid (Ac' g2.out (bS bd.out HB))
 have G3:=hid (Ac' g3.out (bS bd.out HB))
 refine BN' (fun i=>i==8) (by kernel_rfl) (fun i hp=>?_)
 obtain rfl:=beq_iff_eq.1 hp
 clear hp
 refine AllReadyH.cons (o:=?o8) ?e8 ?k8 AllReadyH.nil
 case e8=>simp only [lg,lz,ls] <;> rfl
 intro K hK
 have D8:=rr6.out.2
 obtain ⟨q0,q1,q2⟩:=Ae D8
 have F0:=fR u b6 0 _ _ D8
 have F1:=fR u b6 1 _ _ D8
 have F2:=fR u b6 2 _ _ D8
 go_simp
 clear q0 q1 q2 F0 F1 F2
 obtain ⟨u8,hw⟩:=eX ((((u.setCell ⟨b6,0,none⟩ (.bool (decide (x.num<0)))).setCell ⟨b6,1,none⟩ (.slice A1 (Vx.len x.num.natAbs) c1)).setCell ⟨b6,2,none⟩ (.slice B1 (Vx.len (below x.den)) e1)))
 obtain ⟨E8,OT,LV,BL⟩:=As' D8 hw
 rw [←hw]
 clear hw
 have HB8:=BL _ _ lb6 HB
 have R7_8:=hid (OT _ _ (by exact n6_7.symm) (rr7.out.2))
 have R1_8:=hid (OT _ _ (by omega) (G1.out))
 have R2_8:=hid (OT _ _ (by omega) (G2.out))
 have R3_8:=hid (OT _ _ (by omega) (G3.out))
 have V2_8:=LV.num k2
 have V5_8:=LV.num k5
 refine hK.out _ _ (hSof.out _ HB8) (fun _=>?_)
 clear hK K OT LV BL
 replace E8:=hid E8
 clear D8
 try simp only [Act.put,lt,ly,lu]
 refine BN' (fun i=>i==9) (by kernel_rfl) (fun i hp=>?_)
 obtain rfl:=beq_iff_eq.1 hp
 clear hp
 refine AllReadyH.cons (o:=?o9) ?e9 ?k9 AllReadyH.nil
 case e9=>simp only [lg,lz,ls] <;> rfl
 intro K hK
 have D9:=R7_8.out
 obtain ⟨q0,q1,q2⟩:=Ae D9
 have F0:=fR u8 b7 0 _ _ D9
 have F1:=fR u8 b7 1 _ _ D9
 have F2:=fR u8 b7 2 _ _ D9
 go_simp
 clear q0 q1 q2 F0 F1 F2
 obtain ⟨u9,hw⟩:=eX ((((u8.setCell ⟨b7,0,none⟩ (.bool (decide (y.num<0)))).setCell ⟨b7,1,none⟩ (.slice A2 (Vx.len y.num.natAbs) c2)).setCell ⟨b7,2,none⟩ (.slice B2 (Vx.len (below y.den)) e2)))
 obtain ⟨E9,OT,LV,BL⟩:=As' D9 hw
 rw [←hw]
 clear hw
 have HB9:=BL _ _ lb7 HB8
 have R6_9:=hid (OT _ _ (by exact n6_7) (E8.out))
 have R1_9:=hid (OT _ _ (by omega) (R1_8.out))
 have R2_9:=hid (OT _ _ (by omega) (R2_8.out))
 have R3_9:=hid (OT _ _ (by omega) (R3_8.out))
 have V2_9:=LV.num V2_8
 have V5_9:=LV.num V5_8
 refine hK.out _ _ (hSof.out _ HB9) (fun _=>?_)
 clear hK K OT LV BL
 replace E9:=hid E9
 clear D9
 try simp only [Act.put,lt,ly,lu]
 refine wpAnyH_done (by kernel_rfl) ?_ _
 go_wp2_with fail
 refine hG.out _ _ ?_
 rcases Decidable.em (y<x) with hxy | hxy
 · exact Hd' (bS b1.out (bS bd.out HB9)) R1_9.out R2_9.out R3_9.out (by omega) (by omega) (by omega) el.out eh.out h1.out h2.out h3.out h4.out h5.out h6.out ex.out ey.out R6_9.out V2_9 E9.out V5_9 n6_7.symm (by omega) (by omega) hxy
 · exact Hc' (bS b1.out (bS bd.out HB9)) R1_9.out R2_9.out R3_9.out (by omega) (by omega) (by omega) el.out eh.out h1.out h2.out h3.out h4.out h5.out h6.out ex.out ey.out R6_9.out V2_9 E9.out V5_9 n6_7.symm (by omega) (by omega) hxy
end Go.Proofs.YtcicfnlljdnagaaGreatDoor.Rf
