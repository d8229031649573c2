/-
  Contracts of the functions that the law calls, for every input (Uc We Wi).
-/
import Derived.Test.YtbigkkjnhcpgiaaGreatDoorQ00
import Derived.Test.YtbigkkjnhcpgiaaGreatDoorQ39
import Derived.Test.YtbigkkjnhcpgiaaGreatDoorQ46
import Derived.Test.YtbigkkjnhcpgiaaGreatDoorQ47
set_option linter.all false
set_option maxRecDepth 100000
set_option maxHeartbeats 40000000
namespace Go.Proofs.YtbigkkjnhcpgiaaGreatDoor.Rf
open Lib (hid)
open Go.RowKit
open Rx
open Vx (Aa' Al' Am)
open List renaming getElem?_toArray → lg, getElem?_cons_zero → lz, getElem?_cons_succ → ls, setIfInBounds_toArray → lt, set_cons_zero → ly, set_cons_succ → lu
theorem Dq' {w:World} {ad:Option Addr} {c:Nat} {ss:List ByteArray} {mx:Int} {y1 y5 y6 y7 y8 y9 y10 y11 y12 y13 y14 y15 y16 y17 y18 y19 y20 y21 y22 y23 y24 y25 y26 y27 y28 y29 y30 y31 y32 y33 y34 y35 y36 y37 y38 y39 y40 y41 y42 y43 y44 y45 y46 y47 y48 y49 y50 y51 y52 y53 y54:Value} (hS:AM' w ad ss) (hc:¬ (20<ss.length∧ss.length≤200∨210<ss.length)) (hn:ss.length≤1000) (hM:w.cell? ⟨1,0,none⟩=some (.int .i64 mx)) :
   (codeAt 2 Tryz.f5).wp Tryz.prog (bodyPost Tryz.prog Tryz.f5 (A9 w ss)) { tmps:=#[.slice ad ss.length c,y1,.slice none 0 0,.slice none 0 0,.bool false,y5,y6,y7,y8,y9,y10,y11,y12,y13,y14,y15,y16,y17,y18,y19,y20,y21,y22,y23,y24,y25,y26,y27,y28,y29,y30,y31,y32,y33,y34,y35,y36,y37,y38,y39,y40,y41,y42,y43,y44,y45,y46,y47,y48,y49,y50,y51,y52,y53,y54],defers:=[] } w:=by
 replace hM:=hid hM
 replace hc:=hid hc
 replace hS:=hid hS
 have b0:((ss.length:Nat):Int)≤9223372036854775807:=by omega
 show Code.wp _ (Code.seq _ _) _ _ _
 go_wp2_with fail
 obtain ⟨w1,hw1⟩:=eX ((w.alloc (.cells #[] 33)).alloc (.cells #[] 39))
 have HR:Hid (Dn' w ss 0 (.slice (some ⟨w.heap.size,0,none⟩) 0 0) (.slice (some ⟨w.heap.size+1,0,none⟩) 0 0) w1):=by
   have h1:=Fm' (I:=Ac') (T:=33) (w:=w) (nL w.heap.size)
   have h2:=Fm' (I:=Ah') (T:=39) (B:=w.heap.size) (w:=w.alloc (.cells #[] 33)) (by rw [World.size_alloc];omega)
   rw [World.size_alloc] at h2
   have hb:Below (w.alloc (.cells #[] 33)).heap.size (w.alloc (.cells #[] 33)) w1:=AC hw1
   have hb0:=Ag' w (.cells #[] 33)
   refine hid ⟨h1.keep hb (fun _ _ k=>k.keep hb),?_,?_,chain hb0 hb,by simp⟩
   · rw [hw1];exact h2
   · intro g hg he
     obtain rfl:=Option.some.inj hg
     have:=Option.some.inj he
     simp at this
 rw [←hw1]
 clear hw1
 go_loopw [5,6,7] (fun av bv iv wr=>∃ k:Nat,k≤ss.length∧iv=.int .i64 ((k:Nat):Int)∧Hid (Dn' w ss k av bv wr)) (fun _ _ iv _=>ss.length - (intOf iv).toNat)
 case atStart=>exact ⟨0,Nat.zero_le _,rfl,HR⟩
 case round =>
   obtain ⟨k,hk,rfl,hrel⟩:=hrel
   clear HR
   rcases Nat.lt_or_ge k ss.length with hkn | hkn
   · obtain ⟨s,hs⟩:∃ s,ss[k]?=some s:=⟨ss[k],by simp [hkn]⟩
     obtain ⟨q,hq⟩:=eY ((Ap' s).1)
     have hbw:=hrel.out.2.2.2.1
     obtain ⟨b,o,rfl,hcell⟩:=(hS.out.keep hbw) k s hs
     have HMr:=hid (Av' hM.out hbw)
     clear hbw
     have hss:=hid hs
     replace hq:=hid hq
     clear hs
     have hk1:k+1≤ss.length:=hkn
     have hin:decide (k<ss.length)=true:=dT_ hkn
     rcases Decidable.em (40<s.size) with h40 | h40
     · have d40:decide (((s.size:Nat):Int)>40)=true:=dT_ (by omega)
       have hin2:((s.size:Nat):Int)>40:=by omega
       have HF:=hid (show A9 w ss (.returned (.tuple #[.slice none 0 0,.slice none 0 0,.bool false])) wr from Or.inr ⟨fun h=>absurd (h.2 s (List.mem_of_getElem? hss.out)) (by omega),rfl,hrel.out.2.2.2.1⟩)
       clear hrel hS hc
       go_wp2_with fail
       go_ret3
       exact HF.out
     · have d40:decide (((s.size:Nat):Int)>40)=false:=dF_ (by omega)
       have hin2:¬ ((s.size:Nat):Int)>40:=by omega
       have hs40:s.size≤1048576:=by omega
       replace h40:=hid (show s.size≤40 by omega)
       replace hs40:=hid hs40
       have HX:=hid (DO' hq.out hs40.out HMr.out)
       go_wp2_with fail
       refine (HX.out).mono ?_
       rintro e w91 ⟨va91,vb91,rfl,ha91,hb91,b91⟩
       obtain ⟨C101,j101,C102,j102,rfl,-,-⟩:=id ha91.opened
       replace ha91:=hid ha91
       obtain ⟨C103,j103,C104,j104,rfl,-,-⟩:=id hb91.opened
       replace hb91:=hid hb91
       replace b91:=hid b91
       clear HX
       go_upto_region 10 with fail
       obtain ⟨w92,hw92⟩:=eX ((w91.alloc (.cells #[.bool (decide (q.num<0)),.slice C101 (Vx.len q.num.natAbs) j101,.slice C102 (Vx.len (below q.den)) j102] 33)).alloc (.cells #[.bool (decide (q.num<0)),.slice C103 (len q.num.natAbs) j103,.slice C104 (len q.den) j104] 39))
       obtain ⟨b92,L92,M92⟩:=D4' hw92
       rw [←hw92]
       clear hw92
       replace b92:=hid b92
       replace L92:=hid L92
       replace M92:=hid M92
       have y90_92:=hid (bS b91.out b92.out)
       obtain ⟨X,hX⟩:=eY w91.heap.size
       have hst:=hrel.out
       obtain ⟨gA,gB,dis,hbw,hold⟩:=hst
       have lX:wr.heap.size≤X:=by rw [←hX];exact b91.out.size
       have kX:=y90_92.out
       have T0:Hid (St w w92 X _ _ u5 u6 (vals (ss.take k)) (vals (ss.take k)) _ _ q):=hid ⟨gA.keep kX (fun _ _ h=>h.keep kX),gB.keep kX (fun _ _ h=>h.keep kX),dis,(ha91.out.keep b92.out),(hb91.out.keep b92.out),by rw [←hX];exact L92.out,by rw [←hX];exact M92.out,⟨fun e=>by have:=(gA.own _ e).2;omega,fun e=>by have:=(gA.own _ e).2;omega⟩,⟨fun e=>by have:=(gB.own _ e).2;omega,fun e=>by have:=(gB.own _ e).2;omega⟩,chain hbw kX⟩
       have hl56:Hid (((vals (ss.take k)).length+1)*56≤140737488355328):=hid (by rw [Fm _ _ hk];omega)
       have hlM:Hid ((vals (ss.take k)).length+1≤maxLen):=hid (by rw [Fm _ _ hk];unfold maxLen;omega)
       replace hold:=hid hold
       rw [hX]
       clear hX lX kX gA gB dis hbw hrel hS hc HMr b91 b92 L92 M92 ha91 hb91 hcell
       go_wp2_with fail
       refine wp_region_held_drew (S:=(fun w'=>(w'.cell? ⟨X,0,none⟩=some (.bool (decide (q.num<0)))∧w'.cell? ⟨X,1,none⟩=some (.slice C101 (Vx.len q.num.natAbs) j101)∧w'.cell? ⟨X,2,none⟩=some (.slice C102 (Vx.len (below q.den)) j102)∧w'.cell? ⟨X+1,0,none⟩=some (.bool (decide (q.num<0)))∧w'.cell? ⟨X+1,1,none⟩=some (.slice C103 (len q.num.natAbs) j103)∧w'.cell? ⟨X+1,2,none⟩=some (.slice C104 (len q.den) j104)))) (by kernel_rfl) ?_ (fun hHeld=>?_)
       · (try dsimp only);have k1:=Ab' T0.out.rx;have k2:=Ab' T0.out.ry;exact ⟨k1.1,k1.2.1,k1.2.2,k2.1,k2.2.1,k2.2.2⟩
       obtain ⟨wz0,hu⟩:=eX w92.drew
       have T1:=hid (T0.out.keep (u':=wz0) (by rw [hu];exact ⟨rfl,rfl,rfl,nL _,fun _ _=>rfl⟩))
       rw [←hu] at hHeld ⊢
       clear hu T0
       refine tk (i:=0) (h:=?_)
       try simp only [Act.put,lt,ly,lu]
       refine tk (i:=1) (h:=?_)
       try simp only [Act.put,lt,ly,lu]
       refine tk (i:=4) (h:=?_)
       try simp only [Act.put,lt,ly,lu]
       refine tk (i:=5) (h:=?_)
       try simp only [Act.put,lt,ly,lu]
       refine wpAnyH_ready (rs:=[2,6]) (by kernel_rfl) (by simp) (AllReadyH.cons (o:=?o2q1) ?e2q1 ?k2q1 (AllReadyH.cons (o:=?o6q1) ?e6q1 ?k6q1 AllReadyH.nil))
       case e2q1=>simp only [lg,lz,ls] <;> rfl
       case e6q1=>simp only [lg,lz,ls] <;> rfl
       case k2q1 =>
         intro K hK
         go_simp
         obtain ⟨wz1,hv⟩:=eX (wz0.alloc (.cells #[.bool (decide (q.num<0)),.slice C101 (Vx.len q.num.natAbs) j101,.slice C102 (Vx.len (below q.den)) j102] 33))
         have bb:=AC hv
         have Ra1:=hid (AI' hv)
         have l1:Hid (wz0.heap.size<wz1.heap.size):=hid (at_lt Ra1.out)
         rw [←hv]
         clear hv
         have T1:=hid (T1.out.keep bb)
         refine hK.out _ _ ?_ (fun hHeld=>?_)
         · (try dsimp only);have k1:=Ab' T1.out.rx;have k2:=Ab' T1.out.ry;exact ⟨k1.1,k1.2.1,k1.2.2,k2.1,k2.2.1,k2.2.2⟩
         clear hK K bb
         try simp only [Act.put,lt,ly,lu]
         refine wpAnyH_ready (rs:=[3,6]) (by kernel_rfl) (by simp) (AllReadyH.cons (o:=?o3q2) ?e3q2 ?k3q2 (AllReadyH.cons (o:=?o6q2) ?e6q2 ?k6q2 AllReadyH.nil))
         case e3q2=>simp only [lg,lz,ls] <;> rfl
         case e6q2=>simp only [lg,lz,ls] <;> rfl
         case k3q2 =>
           intro K hK
           refine Cw rfl (e:=33) Tryz.underlying26 El Ek rfl T1.out.ga rfl Ra1.out T1.out.nx hl56.out hlM.out T1.out.hb.size ?_
           intro p2 wz2 hG LV GR hO
           have T2:=hid (T1.out.pushA hG LV GR hO)
           refine hK.out _ _ ?_ (fun hHeld=>?_)
           · (try dsimp only);have k1:=Ab' T2.out.rx;have k2:=Ab' T2.out.ry;exact ⟨k1.1,k1.2.1,k1.2.2,k2.1,k2.2.1,k2.2.2⟩
           clear hK K hG LV GR hO
           try simp only [Act.put,lt,ly,lu]
           refine wpAnyH_ready (rs:=[6]) (by kernel_rfl) (by simp) (AllReadyH.cons (o:=?o6q3) ?e6q3 ?k6q3 AllReadyH.nil)
           case e6q3=>simp only [lg,lz,ls] <;> rfl
           case k6q3 =>
             intro K hK
             go_simp
             obtain ⟨wz3,hv⟩:=eX (wz2.alloc (.cells #[.bool (decide (q.num<0)),.slice C103 (len q.num.natAbs) j103,.slice C104 (len q.den) j104] 39))
             have bb:=AC hv
             have Rb3:=hid (AI' hv)
             have l3:Hid (wz2.heap.size<wz3.heap.size):=hid (at_lt Rb3.out)
             rw [←hv]
             clear hv
             have T3:=hid (T2.out.keep bb)
             refine hK.out _ _ ?_ (fun hHeld=>?_)
             · (try dsimp only);have k1:=Ab' T3.out.rx;have k2:=Ab' T3.out.ry;exact ⟨k1.1,k1.2.1,k1.2.2,k2.1,k2.2.1,k2.2.2⟩
             clear hK K bb
             try simp only [Act.put,lt,ly,lu]
             refine wpAnyH_ready (rs:=[7]) (by kernel_rfl) (by simp) (AllReadyH.cons (o:=?o7q4) ?e7q4 ?k7q4 AllReadyH.nil)
             case e7q4=>simp only [lg,lz,ls] <;> rfl
             case k7q4 =>
               intro K hK
               refine Cw rfl (e:=39) Tryz.underlying27 El' Ek' rfl T3.out.gb rfl Rb3.out T3.out.ny hl56.out hlM.out T3.out.hb.size ?_
               intro p4 wz4 hG LV GR hO
               have T4:=hid (T3.out.pushB hG LV GR hO)
               refine hK.out _ _ ?_ (fun hHeld=>?_)
               · (try dsimp only);have k1:=Ab' T4.out.rx;have k2:=Ab' T4.out.ry;exact ⟨k1.1,k1.2.1,k1.2.2,k2.1,k2.2.1,k2.2.2⟩
               clear hK K hG LV GR hO
               try simp only [Act.put,lt,ly,lu]
               refine tk (i:=8) (h:=?_)
               try simp only [Act.put,lt,ly,lu]
               refine tk (i:=9) (h:=?_)
               try simp only [Act.put,lt,ly,lu]
               refine wpAnyH_done (by kernel_rfl) ?_ _
               clear hHeld
               have HR:=hid (T4.out.to hss.out h40.out hold.out (by rw [hq.out]) (by rw [hq.out]))
               clear T4
               go_wp2_with fail
               go_roundw
               case rel=>exact ⟨k+1,hk1,by go_num,HR⟩
               case measure=>simp [intOf];omega
         case k6q2 =>
           intro K hK
           go_simp
           obtain ⟨wz5,hv⟩:=eX (wz1.alloc (.cells #[.bool (decide (q.num<0)),.slice C103 (len q.num.natAbs) j103,.slice C104 (len q.den) j104] 39))
           have bb:=AC hv
           have Rb5:=hid (AI' hv)
           have l5:Hid (wz1.heap.size<wz5.heap.size):=hid (at_lt Rb5.out)
           rw [←hv]
           clear hv
           have T5:=hid (T1.out.keep bb)
           have Ra15:=hid (Ad' Ra1.out bb)
           have ne5:Hid (∀ g,u5.ownBlock=some g→g=wz1.heap.size→False):=hid (fun g hg e=>absurd (T1.out.ga.own g hg).2 (by omega))
           refine hK.out _ _ ?_ (fun hHeld=>?_)
           · (try dsimp only);have k1:=Ab' T5.out.rx;have k2:=Ab' T5.out.ry;exact ⟨k1.1,k1.2.1,k1.2.2,k2.1,k2.2.1,k2.2.2⟩
           clear hK K bb
           try simp only [Act.put,lt,ly,lu]
           refine wpAnyH_ready (rs:=[3]) (by kernel_rfl) (by simp) (AllReadyH.cons (o:=?o3q5) ?e3q5 ?k3q5 AllReadyH.nil)
           case e3q5=>simp only [lg,lz,ls] <;> rfl
           case k3q5 =>
             intro K hK
             refine Cw rfl (e:=33) Tryz.underlying26 El Ek rfl T5.out.ga rfl Ra15.out T5.out.nx hl56.out hlM.out T5.out.hb.size ?_
             intro p6 wz6 hG LV GR hO
             have T6:=hid (T5.out.pushA hG LV GR hO)
             have Rb56:=hid ((GR.block _ (at_lt Rb5.out) (fun e=>ne5.out _ e.symm rfl)).trans Rb5.out)
             refine hK.out _ _ ?_ (fun hHeld=>?_)
             · (try dsimp only);have k1:=Ab' T6.out.rx;have k2:=Ab' T6.out.ry;exact ⟨k1.1,k1.2.1,k1.2.2,k2.1,k2.2.1,k2.2.2⟩
             clear hK K hG LV GR hO
             try simp only [Act.put,lt,ly,lu]
             refine wpAnyH_ready (rs:=[7]) (by kernel_rfl) (by simp) (AllReadyH.cons (o:=?o7q6) ?e7q6 ?k7q6 AllReadyH.nil)
             case e7q6=>simp only [lg,lz,ls] <;> rfl
             case k7q6 =>
               intro K hK
               refine Cw rfl (e:=39) Tryz.underlying27 El' Ek' rfl T6.out.gb rfl Rb56.out T6.out.ny hl56.out hlM.out T6.out.hb.size ?_
               intro p7 wz7 hG LV GR hO
               have T7:=hid (T6.out.pushB hG LV GR hO)
               refine hK.out _ _ ?_ (fun hHeld=>?_)
               · (try dsimp only);have k1:=Ab' T7.out.rx;have k2:=Ab' T7.out.ry;exact ⟨k1.1,k1.2.1,k1.2.2,k2.1,k2.2.1,k2.2.2⟩
               clear hK K hG LV GR hO
               try simp only [Act.put,lt,ly,lu]
               refine tk (i:=8) (h:=?_)
               try simp only [Act.put,lt,ly,lu]
               refine tk (i:=9) (h:=?_)
               try simp only [Act.put,lt,ly,lu]
               refine wpAnyH_done (by kernel_rfl) ?_ _
               clear hHeld
               have HR:=hid (T7.out.to hss.out h40.out hold.out (by rw [hq.out]) (by rw [hq.out]))
               clear T7
               go_wp2_with fail
               go_roundw
               case rel=>exact ⟨k+1,hk1,by go_num,HR⟩
               case measure=>simp [intOf];omega
       case k6q1 =>
         intro K hK
         go_simp
         obtain ⟨wz8,hv⟩:=eX (wz0.alloc (.cells #[.bool (decide (q.num<0)),.slice C103 (len q.num.natAbs) j103,.slice C104 (len q.den) j104] 39))
         have bb:=AC hv
         have Rb8:=hid (AI' hv)
         have l8:Hid (wz0.heap.size<wz8.heap.size):=hid (at_lt Rb8.out)
         rw [←hv]
         clear hv
         have T8:=hid (T1.out.keep bb)
         have ne8:Hid (∀ g,u5.ownBlock=some g→g=wz0.heap.size→False):=hid (fun g hg e=>absurd (T1.out.ga.own g hg).2 (by omega))
         refine hK.out _ _ ?_ (fun hHeld=>?_)
         · (try dsimp only);have k1:=Ab' T8.out.rx;have k2:=Ab' T8.out.ry;exact ⟨k1.1,k1.2.1,k1.2.2,k2.1,k2.2.1,k2.2.2⟩
         clear hK K bb
         try simp only [Act.put,lt,ly,lu]
         refine wpAnyH_ready (rs:=[2]) (by kernel_rfl) (by simp) (AllReadyH.cons (o:=?o2q7) ?e2q7 ?k2q7 AllReadyH.nil)
         case e2q7=>simp only [lg,lz,ls] <;> rfl
         case k2q7 =>
           intro K hK
           go_simp
           obtain ⟨wz9,hv⟩:=eX (wz8.alloc (.cells #[.bool (decide (q.num<0)),.slice C101 (Vx.len q.num.natAbs) j101,.slice C102 (Vx.len (below q.den)) j102] 33))
           have bb:=AC hv
           have Ra9:=hid (AI' hv)
           have l9:Hid (wz8.heap.size<wz9.heap.size):=hid (at_lt Ra9.out)
           rw [←hv]
           clear hv
           have T9:=hid (T8.out.keep bb)
           have Rb89:=hid (Ad' Rb8.out bb)
           refine hK.out _ _ ?_ (fun hHeld=>?_)
           · (try dsimp only);have k1:=Ab' T9.out.rx;have k2:=Ab' T9.out.ry;exact ⟨k1.1,k1.2.1,k1.2.2,k2.1,k2.2.1,k2.2.2⟩
           clear hK K bb
           try simp only [Act.put,lt,ly,lu]
           refine wpAnyH_ready (rs:=[3]) (by kernel_rfl) (by simp) (AllReadyH.cons (o:=?o3q8) ?e3q8 ?k3q8 AllReadyH.nil)
           case e3q8=>simp only [lg,lz,ls] <;> rfl
           case k3q8 =>
             intro K hK
             refine Cw rfl (e:=33) Tryz.underlying26 El Ek rfl T9.out.ga rfl Ra9.out T9.out.nx hl56.out hlM.out T9.out.hb.size ?_
             intro p10 wz10 hG LV GR hO
             have T10:=hid (T9.out.pushA hG LV GR hO)
             have Rb8910:=hid ((GR.block _ (at_lt Rb89.out) (fun e=>ne8.out _ e.symm rfl)).trans Rb89.out)
             refine hK.out _ _ ?_ (fun hHeld=>?_)
             · (try dsimp only);have k1:=Ab' T10.out.rx;have k2:=Ab' T10.out.ry;exact ⟨k1.1,k1.2.1,k1.2.2,k2.1,k2.2.1,k2.2.2⟩
             clear hK K hG LV GR hO
             try simp only [Act.put,lt,ly,lu]
             refine wpAnyH_ready (rs:=[7]) (by kernel_rfl) (by simp) (AllReadyH.cons (o:=?o7q9) ?e7q9 ?k7q9 AllReadyH.nil)
             case e7q9=>simp only [lg,lz,ls] <;> rfl
             case k7q9 =>
               intro K hK
               refine Cw rfl (e:=39) Tryz.underlying27 El' Ek' rfl T10.out.gb rfl Rb8910.out T10.out.ny hl56.out hlM.out T10.out.hb.size ?_
               intro p11 wz11 hG LV GR hO
               have T11:=hid (T10.out.pushB hG LV GR hO)
               refine hK.out _ _ ?_ (fun hHeld=>?_)
               · (try dsimp only);have k1:=Ab' T11.out.rx;have k2:=Ab' T11.out.ry;exact ⟨k1.1,k1.2.1,k1.2.2,k2.1,k2.2.1,k2.2.2⟩
               clear hK K hG LV GR hO
               try simp only [Act.put,lt,ly,lu]
               refine tk (i:=8) (h:=?_)
               try simp only [Act.put,lt,ly,lu]
               refine tk (i:=9) (h:=?_)
               try simp only [Act.put,lt,ly,lu]
               refine wpAnyH_done (by kernel_rfl) ?_ _
               clear hHeld
               have HR:=hid (T11.out.to hss.out h40.out hold.out (by rw [hq.out]) (by rw [hq.out]))
               clear T11
               go_wp2_with fail
               go_roundw
               case rel=>exact ⟨k+1,hk1,by go_num,HR⟩
               case measure=>simp [intOf];omega
   · obtain rfl:k=ss.length:=Nat.le_antisymm hk hkn
     have hin:decide (ss.length<ss.length)=false:=dF_ (Nat.lt_irrefl _)
     have HF:=hid (hrel.out.ret hc.out)
     clear hrel hS hc
     go_wp2_with fail
     go_ret3
     exact HF.out
theorem HD' {w:World} {ad:Option Addr} {c:Nat} {ss:List ByteArray} {mx:Int} (hS:AM' w ad ss) (h1:20<ss.length) (h2:ss.length≤200) (hn:ss.length≤9223372036854775807) (hM:w.cell? ⟨1,0,none⟩=some (.int .i64 mx)) :
   Calls Tryz.prog 5 #[.slice ad ss.length c] w (A9 w ss):=by
 have d1:decide (((ss.length:Nat):Int)>20)=true:=dT_ (by omega)
 have d1':(((ss.length:Nat):Int)>20):=by omega
 have d2:decide (((ss.length:Nat):Int)≤200)=true:=dT_ (by omega)
 have d2':(((ss.length:Nat):Int)≤200):=by omega
 have b0:((ss.length:Nat):Int)≤9223372036854775807:=by omega
 have HF:=hid (show A9 w ss (.returned (.tuple #[.slice none 0 0,.slice none 0 0,.bool false])) w from Or.inr ⟨fun h=>h.1 (by omega),rfl,Below.refl _ _⟩)
 clear hS hM h1 h2
 go_enter Tryz.func5,Tryz.ntmps5
 go_wp2_with fail
 go_ret3
 exact HF.out
theorem HF' {w:World} {ad:Option Addr} {c:Nat} {ss:List ByteArray} {mx:Int} (hS:AM' w ad ss) (h1:210<ss.length) (h2:0≤ss.length) (hn:ss.length≤9223372036854775807) (hM:w.cell? ⟨1,0,none⟩=some (.int .i64 mx)) :
   Calls Tryz.prog 5 #[.slice ad ss.length c] w (A9 w ss):=by
 have d1:decide (((ss.length:Nat):Int)>20)=true:=dT_ (by omega)
 have d1':(((ss.length:Nat):Int)>20):=by omega
 have d2:decide (((ss.length:Nat):Int)≤200)=false:=dF_ (by omega)
 have d2':¬ (((ss.length:Nat):Int)≤200):=by omega
 have d3:decide (((ss.length:Nat):Int)>210)=true:=dT_ (by omega)
 have d3':(((ss.length:Nat):Int)>210):=by omega
 have b0:((ss.length:Nat):Int)≤9223372036854775807:=by omega
 have HF:=hid (show A9 w ss (.returned (.tuple #[.slice none 0 0,.slice none 0 0,.bool false])) w from Or.inr ⟨fun h=>h.1 (by omega),rfl,Below.refl _ _⟩)
 clear hS hM h1 h2
 go_enter Tryz.func5,Tryz.ntmps5
 go_wp2_with fail
 go_ret3
 exact HF.out
theorem HG' {w:World} {ad:Option Addr} {c:Nat} {ss:List ByteArray} {mx:Int} (hS:AM' w ad ss) (h1:ss.length≤20) (h2:0≤ss.length) (hn:ss.length≤9223372036854775807) (hM:w.cell? ⟨1,0,none⟩=some (.int .i64 mx)) :
   Calls Tryz.prog 5 #[.slice ad ss.length c] w (A9 w ss):=by
 have d1:decide (((ss.length:Nat):Int)>20)=false:=dF_ (by omega)
 have d1':¬ (((ss.length:Nat):Int)>20):=by omega
 have d3:decide (((ss.length:Nat):Int)>210)=false:=dF_ (by omega)
 have d3':¬ (((ss.length:Nat):Int)>210):=by omega
 have b0:((ss.length:Nat):Int)≤9223372036854775807:=by omega
 have hc:=hid (show ¬ (20<ss.length∧ss.length≤200∨210<ss.length) by omega)
 have hl:=hid (show ss.length≤1000 by omega)
 replace hS:=hid hS
 replace hM:=hid hM
 clear h1 h2
 go_enter Tryz.func5,Tryz.ntmps5
 go_upto_region 1 with fail
 rename_i G hG Gb hGb
 replace hG:=hid hG
 go_wp2_with fail
 refine hG.out _ _ ?_
 exact Dq' hS.out hc.out hl.out hM.out
theorem HH' {w:World} {ad:Option Addr} {c:Nat} {ss:List ByteArray} {mx:Int} (hS:AM' w ad ss) (h1:200<ss.length) (h2:ss.length≤210) (hn:ss.length≤9223372036854775807) (hM:w.cell? ⟨1,0,none⟩=some (.int .i64 mx)) :
   Calls Tryz.prog 5 #[.slice ad ss.length c] w (A9 w ss):=by
 have d1:decide (((ss.length:Nat):Int)>20)=true:=dT_ (by omega)
 have d1':(((ss.length:Nat):Int)>20):=by omega
 have d2:decide (((ss.length:Nat):Int)≤200)=false:=dF_ (by omega)
 have d2':¬ (((ss.length:Nat):Int)≤200):=by omega
 have d3:decide (((ss.length:Nat):Int)>210)=false:=dF_ (by omega)
 have d3':¬ (((ss.length:Nat):Int)>210):=by omega
 have b0:((ss.length:Nat):Int)≤9223372036854775807:=by omega
 have hc:=hid (show ¬ (20<ss.length∧ss.length≤200∨210<ss.length) by omega)
 have hl:=hid (show ss.length≤1000 by omega)
 replace hS:=hid hS
 replace hM:=hid hM
 clear h1 h2
 go_enter Tryz.func5,Tryz.ntmps5
 go_upto_region 1 with fail
 rename_i G hG Gb hGb
 replace hG:=hid hG
 go_wp2_with fail
 refine hG.out _ _ ?_
 exact Dq' hS.out hc.out hl.out hM.out
theorem FO' {w:World} {ad:Option Addr} {c:Nat} {ss:List ByteArray} {mx:Int} (hS:AM' w ad ss) (hn:ss.length≤9223372036854775807) (hM:w.cell? ⟨1,0,none⟩=some (.int .i64 mx)) :
   Calls Tryz.prog 5 #[.slice ad ss.length c] w (A9 w ss):=by
 rcases Decidable.em (ss.length≤20) with h | h
 · exact HG' hS h (Nat.zero_le _) hn hM
 · rcases Decidable.em (ss.length≤200) with k | k
   · exact HD' hS (by omega) k hn hM
   · rcases Decidable.em (ss.length≤210) with j | j
     · exact HH' hS (by omega) j hn hM
     · exact HF' hS (by omega) (Nat.zero_le _) hn hM
theorem By {w:World} {b:Nat} {T:TypeId} {s1 s2:ByteArray} (L:w.heap[b]?=some (.cells #[.string s1,.string s2] T (0,0))):w.cell? ⟨b,0,none⟩=some (.string s1)∧w.cell? ⟨b,1,none⟩=some (.string s2):=⟨cR _ _ 0 _ _ _ L,cR _ _ 1 _ _ _ L⟩
theorem GE {ss:List ByteArray} (h:∀ s∈ss,s.size≤20):∀ y∈vals ss,Aa' y≤250:=by
 intro y hy
 obtain ⟨s,hs,rfl⟩:=List.mem_map.1 hy
 have h1:=AZ s
 have h2:=h s hs
 omega
theorem GE' {w wa:World} {mx:Int} {ad:Option Addr} {ss:List ByteArray} {be c:Nat} {s1 s2:ByteArray} {q:Int} {g1 g2 k1 k2:Nat} {y1 y3 y5 y6 y9 y10 y11 y12 y13 y14 y15 y16 y17 y18 y19 y20 y21 y22 y23 y24 y25 y26 y27 y28 y29 y30 y31 y32 y33 y34 y35 y36 y37 y38 y39 y40 y41 y42 y43 y44 y45 y46 y47 y48 y49 y50 y51 y52 y53 y54 y55 y56 y57 y58 y59 y60 y61 y62 y63 y64 y65 y66 y67 y68 y69 y70 y71 y72 y73 y74 y75 y76 y77 y78 y79 y80 y81 y82 y83 y84 y85 y86 y87 y88 y89 y90 y91 y92 y93 y94 y95 y96 y97 y98 y99 y100 y101 y102 y103 y104 y105 y106 y107 y108 y109 y110 y111 y112 y113 y114 y115 y116 y117 y118 y119 y120 y121 y122 y123 y124 y125 y126 y127 y128 y129 y130 y131 y132 y133 y134 y135 y136 y137 y138 y139 y140 y141 y142 y143 y144 y145 y146 y147 y148 y149 y150 y151 y152 y153 y154 y155 y156 y157 y158 y159 y160 y161 y162 y163 y164 y165 y166 y167:Value} (hS:AM' wa ad ss) (hl:Ba' wa g1 0 (vals ss)) (hr:Bx' wa g2 0 (vals ss)) (re:wa.heap[be]?=some (.cells #[.string s1,.string s2] 24 (0,0))) (hM0:w.cell? ⟨1,0,none⟩=some (.int .i64 mx)) (hT0:TabAt 0 Lib.deBruijn64tab w) (hB:Below w.heap.size w wa) (h1:s1.size≤20) (h2:s2.size≤20) (hn:ss.length≤8∨200<ss.length) (hn2:ss.length≤9223372036854775807) (h:q≤12∨256<q) :
   (codeAt 4 Tryz.f3).wp Tryz.prog (bodyPost Tryz.prog Tryz.f3 (At' w true)) { tmps:=#[.slice ad ss.length c,y1,.int .i64 q,y3,.pointer (some ⟨be,0,none⟩),y5,y6,.slice (some ⟨g1,0,none⟩) ss.length k1,.slice (some ⟨g2,0,none⟩) ss.length k2,y9,y10,y11,y12,y13,y14,y15,y16,y17,y18,y19,y20,y21,y22,y23,y24,y25,y26,y27,y28,y29,y30,y31,y32,y33,y34,y35,y36,y37,y38,y39,y40,y41,y42,y43,y44,y45,y46,y47,y48,y49,y50,y51,y52,y53,y54,y55,y56,y57,y58,y59,y60,y61,y62,y63,y64,y65,y66,y67,y68,y69,y70,y71,y72,y73,y74,y75,y76,y77,y78,y79,y80,y81,y82,y83,y84,y85,y86,y87,y88,y89,y90,y91,y92,y93,y94,y95,y96,y97,y98,y99,y100,y101,y102,y103,y104,y105,y106,y107,y108,y109,y110,y111,y112,y113,y114,y115,y116,y117,y118,y119,y120,y121,y122,y123,y124,y125,y126,y127,y128,y129,y130,y131,y132,y133,y134,y135,y136,y137,y138,y139,y140,y141,y142,y143,y144,y145,y146,y147,y148,y149,y150,y151,y152,y153,y154,y155,y156,y157,y158,y159,y160,y161,y162,y163,y164,y165,y166,y167],defers:=[] } wa:=by
 have hn9:((ss.length:Nat):Int)≤9223372036854775807:=by omega
 replace hS:=hid hS
 replace hl:=hid hl
 replace hr:=hid hr
 replace re:=hid re
 replace hM0:=hid hM0
 replace hT0:=hid hT0
 replace hB:=hid hB
 replace h1:=hid h1
 replace h2:=hid h2
 replace hn:=hid hn
 replace hn2:=hid hn2
 replace h:=hid h
 have HE:Hid (Below wa.heap.size wa wa∧∀ s∈ss.take 0,s.size≤20):=hid ⟨Below.refl _ _,by simp⟩
 show Code.wp _ (Code.seq _ _) _ _ _
 go_wp2_with fail
 rename_i G hG
 replace hG:=hid hG
 go_loopw [10] (fun iv wr=>∃ k:Nat,k≤ss.length∧iv=.int .i64 ((k:Nat):Int)∧Hid (Below wa.heap.size wa wr∧∀ s∈ss.take k,s.size≤20)) (fun iv _=>ss.length - (intOf iv).toNat)
 case atStart=>exact ⟨0,Nat.zero_le _,rfl,HE⟩
 case round =>
   obtain ⟨k,hk,rfl,hrel⟩:=hrel
   clear HE
   have HB:=hid (chain hB.out hrel.out.1)
   rcases Nat.lt_or_ge k ss.length with hkn | hkn
   · have hin:decide (k<ss.length)=true:=dT_ hkn
     obtain ⟨s,hs⟩:∃ q,ss[k]?=some q:=⟨ss[k],by simp [hkn]⟩
     obtain ⟨b,o,eA,z0⟩:=hS.out.keep hrel.out.1 k s hs
     clear hS
     subst eA
     replace hs:=hid hs
     rcases Decidable.em (20<s.size) with hl0 | hl0
     · have d1:decide (((s.size:Nat):Int)>20)=true:=dT_ (by omega)
       have d1':((s.size:Nat):Int)>20:=by omega
       clear hl0
       have HX:=hid (AQ' (Av' hM0.out HB.out) (Aq hT0.out HB.out))
       go_wp2_with fail
       refine (HX.out).mono ?_
       rintro e w3 ⟨rfl,b3⟩
       have HE:=hid (chain HB.out b3)
       clear HX b3
       go_wp2_with fail
       go_ret
       exact ⟨rfl,HE.out⟩
     · have d1:decide (((s.size:Nat):Int)>20)=false:=dF_ (by omega)
       have d1':¬ ((s.size:Nat):Int)>20:=by omega
       have HR2:Hid (Below wa.heap.size wa wr∧∀ s∈ss.take (k+1),s.size≤20):=hid ⟨hrel.out.1,by
         rw [List.take_add_one,hs.out,Option.toList_some]
         intro x hx
         rcases List.mem_append.1 hx with hx | hx
         · exact hrel.out.2 x hx
         · obtain rfl:=List.mem_singleton.1 hx
           exact Nat.not_lt.1 hl0⟩
       clear hl0 hrel
       go_wp2_with fail
       go_roundw
       case rel=>exact ⟨k+1,hkn,by go_num,HR2⟩
       case measure=>simp [intOf];omega
   · obtain rfl:k=ss.length:=Nat.le_antisymm hk hkn
     have hin:decide (ss.length<ss.length)=false:=dF_ (Nat.lt_irrefl _)
     obtain ⟨hb,h20⟩:=hrel.out
     rw [List.take_length] at h20
     have hb2:=hid hb
     have h21:=hid (GE h20)
     clear hrel h20 hb
     go_wp2_with fail
     refine hG.out _ _ ?_
     exact HC' (hl.out.keep hb2.out) (hr.out.keep hb2.out) (Ad' re.out hb2.out) hM0.out hT0.out HB.out h1.out h2.out (by simp [vals]) h21.out hn.out hn2.out h.out
theorem BU {w wa:World} {mx:Int} {ad:Option Addr} {ss:List ByteArray} {be c:Nat} {s1 s2:ByteArray} {q:Int}  {y1 y3 y5 y6 y7 y8 y9 y10 y11 y12 y13 y14 y15 y16 y17 y18 y19 y20 y21 y22 y23 y24 y25 y26 y27 y28 y29 y30 y31 y32 y33 y34 y35 y36 y37 y38 y39 y40 y41 y42 y43 y44 y45 y46 y47 y48 y49 y50 y51 y52 y53 y54 y55 y56 y57 y58 y59 y60 y61 y62 y63 y64 y65 y66 y67 y68 y69 y70 y71 y72 y73 y74 y75 y76 y77 y78 y79 y80 y81 y82 y83 y84 y85 y86 y87 y88 y89 y90 y91 y92 y93 y94 y95 y96 y97 y98 y99 y100 y101 y102 y103 y104 y105 y106 y107 y108 y109 y110 y111 y112 y113 y114 y115 y116 y117 y118 y119 y120 y121 y122 y123 y124 y125 y126 y127 y128 y129 y130 y131 y132 y133 y134 y135 y136 y137 y138 y139 y140 y141 y142 y143 y144 y145 y146 y147 y148 y149 y150 y151 y152 y153 y154 y155 y156 y157 y158 y159 y160 y161 y162 y163 y164 y165 y166 y167:Value} (hS:AM' wa ad ss) (re:wa.heap[be]?=some (.cells #[.string s1,.string s2] 24 (0,0))) (hM0:w.cell? ⟨1,0,none⟩=some (.int .i64 mx)) (hT0:TabAt 0 Lib.deBruijn64tab w) (hB:Below w.heap.size w wa) (h1:s1.size≤20) (h2:s2.size≤20) (hn:ss.length≤8∨200<ss.length) (hn2:ss.length≤9223372036854775807) (h:q≤12∨256<q) :
   (codeAt 2 Tryz.f3).wp Tryz.prog (bodyPost Tryz.prog Tryz.f3 (At' w true)) { tmps:=#[.slice ad ss.length c,y1,.int .i64 q,y3,.pointer (some ⟨be,0,none⟩),y5,y6,y7,y8,y9,y10,y11,y12,y13,y14,y15,y16,y17,y18,y19,y20,y21,y22,y23,y24,y25,y26,y27,y28,y29,y30,y31,y32,y33,y34,y35,y36,y37,y38,y39,y40,y41,y42,y43,y44,y45,y46,y47,y48,y49,y50,y51,y52,y53,y54,y55,y56,y57,y58,y59,y60,y61,y62,y63,y64,y65,y66,y67,y68,y69,y70,y71,y72,y73,y74,y75,y76,y77,y78,y79,y80,y81,y82,y83,y84,y85,y86,y87,y88,y89,y90,y91,y92,y93,y94,y95,y96,y97,y98,y99,y100,y101,y102,y103,y104,y105,y106,y107,y108,y109,y110,y111,y112,y113,y114,y115,y116,y117,y118,y119,y120,y121,y122,y123,y124,y125,y126,y127,y128,y129,y130,y131,y132,y133,y134,y135,y136,y137,y138,y139,y140,y141,y142,y143,y144,y145,y146,y147,y148,y149,y150,y151,y152,y153,y154,y155,y156,y157,y158,y159,y160,y161,y162,y163,y164,y165,y166,y167],defers:=[] } wa:=by
 replace hS:=hid hS
 replace re:=hid re
 replace hM0:=hid hM0
 replace hT0:=hid hT0
 replace hB:=hid hB
 replace h1:=hid h1
 replace h2:=hid h2
 replace hn:=hid hn
 replace hn2:=hid hn2
 replace h:=hid h
 have HX:=hid (FO' (c:=c) hS.out hn2.out (Av' hM0.out hB.out))
 show Code.wp _ (Code.seq _ _) _ _ _
 go_wp2_with fail
 refine (HX.out).mono ?_
 clear HX
 rintro e w1 hh
 rcases hh with ⟨-,g1,k1,g2,k2,rfl,np,rp,b1⟩ | ⟨-,rfl,b1⟩
 · replace np:=hid np
   replace rp:=hid rp
   replace b1:=hid b1
   go_upto_region 4 with fail
   rename_i G hG Gb hGb
   replace hG:=hid hG
   go_wp2_with fail
   refine hG.out _ _ ?_
   exact GE' (hS.out.keep b1.out) np.out rp.out (Ad' re.out b1.out) hM0.out hT0.out (chain hB.out b1.out) h1.out h2.out hn.out hn2.out h.out
 · have HB:=hid (chain hB.out b1)
   clear b1
   have HX:=hid (AQ' (Av' hM0.out HB.out) (Aq hT0.out HB.out))
   go_wp2_with fail
   refine (HX.out).mono ?_
   rintro e w3 ⟨rfl,b3⟩
   have HE:=hid (chain HB.out b3)
   clear HX b3
   go_wp2_with fail
   go_ret
   exact ⟨rfl,HE.out⟩
theorem Jb {w:World} {mx:Int} {ad:Option Addr} {ss:List ByteArray} {c:Nat} {s1 s2:ByteArray} {q:Int} (hS:AM' w ad ss) (hn2:ss.length≤9223372036854775807) (hM0:w.cell? ⟨1,0,none⟩=some (.int .i64 mx)) (hT0:TabAt 0 Lib.deBruijn64tab w) (hn:8<ss.length∧ss.length≤200) :
   Calls Tryz.prog 3 #[.slice ad ss.length c,.agg #[.string s1,.string s2],.int .i64 q] w (At' w true):=by
 have a1:decide (((ss.length:Nat):Int)>8)=true:=dT_ (by omega)
 have a1':(((ss.length:Nat):Int)>8):=by omega
 have a2:decide (((ss.length:Nat):Int)≤200)=true:=dT_ (by omega)
 have a2':(((ss.length:Nat):Int)≤200):=by omega
 have hn9:((ss.length:Nat):Int)≤9223372036854775807:=by omega
 replace hS:=hid hS
 replace hn2:=hid hn2
 replace hM0:=hid hM0
 replace hT0:=hid hT0
 replace hn:=hid hn
 obtain ⟨w1,hw1⟩:=eX (w.alloc (.cells #[.string s1,.string s2] 24))
 have b1:=hid (AC hw1)
 have g1:=hid (AI' hw1)
 obtain ⟨z0,z1⟩:=By g1.out
 go_enter Tryz.func3,Tryz.ntmps3
 go_upto_region 1 with fail
 rw [←hw1]
 clear hw1
 have HX:=hid (AQ' (Av' hM0.out b1.out) (Aq hT0.out b1.out))
 go_wp2_with fail
 refine (HX.out).mono ?_
 rintro e w3 ⟨rfl,b3⟩
 have HE:=hid (chain b1.out b3)
 clear HX b3
 go_wp2_with fail
 go_ret
 exact ⟨rfl,HE.out⟩
theorem ID' {w:World} {mx:Int} {ad:Option Addr} {ss:List ByteArray} {c:Nat} {s1 s2:ByteArray} {q:Int} (hS:AM' w ad ss) (hn2:ss.length≤9223372036854775807) (hM0:w.cell? ⟨1,0,none⟩=some (.int .i64 mx)) (hT0:TabAt 0 Lib.deBruijn64tab w) (hn:ss.length≤8) (h1:20<s1.size) :
   Calls Tryz.prog 3 #[.slice ad ss.length c,.agg #[.string s1,.string s2],.int .i64 q] w (At' w true):=by
 have a1:decide (((ss.length:Nat):Int)>8)=false:=dF_ (by omega)
 have a1':¬ (((ss.length:Nat):Int)>8):=by omega
 have e1:decide (((s1.size:Nat):Int)>20)=true:=dT_ (by omega)
 have e1':(((s1.size:Nat):Int)>20):=by omega
 have hn9:((ss.length:Nat):Int)≤9223372036854775807:=by omega
 replace hS:=hid hS
 replace hn2:=hid hn2
 replace hM0:=hid hM0
 replace hT0:=hid hT0
 replace hn:=hid hn
 replace h1:=hid h1
 obtain ⟨w1,hw1⟩:=eX (w.alloc (.cells #[.string s1,.string s2] 24))
 have b1:=hid (AC hw1)
 have g1:=hid (AI' hw1)
 obtain ⟨z0,z1⟩:=By g1.out
 go_enter Tryz.func3,Tryz.ntmps3
 go_upto_region 1 with fail
 rw [←hw1]
 clear hw1
 have HX:=hid (AQ' (Av' hM0.out b1.out) (Aq hT0.out b1.out))
 go_wp2_with fail
 refine (HX.out).mono ?_
 rintro e w3 ⟨rfl,b3⟩
 have HE:=hid (chain b1.out b3)
 clear HX b3
 go_wp2_with fail
 go_ret
 exact ⟨rfl,HE.out⟩
theorem IE {w:World} {mx:Int} {ad:Option Addr} {ss:List ByteArray} {c:Nat} {s1 s2:ByteArray} {q:Int} (hS:AM' w ad ss) (hn2:ss.length≤9223372036854775807) (hM0:w.cell? ⟨1,0,none⟩=some (.int .i64 mx)) (hT0:TabAt 0 Lib.deBruijn64tab w) (hn:ss.length≤8) (h1:s1.size≤20) (h2:20<s2.size) :
   Calls Tryz.prog 3 #[.slice ad ss.length c,.agg #[.string s1,.string s2],.int .i64 q] w (At' w true):=by
 have a1:decide (((ss.length:Nat):Int)>8)=false:=dF_ (by omega)
 have a1':¬ (((ss.length:Nat):Int)>8):=by omega
 have e1:decide (((s1.size:Nat):Int)>20)=false:=dF_ (by omega)
 have e1':¬ (((s1.size:Nat):Int)>20):=by omega
 have e2:decide (((s2.size:Nat):Int)>20)=true:=dT_ (by omega)
 have e2':(((s2.size:Nat):Int)>20):=by omega
 have hn9:((ss.length:Nat):Int)≤9223372036854775807:=by omega
 replace hS:=hid hS
 replace hn2:=hid hn2
 replace hM0:=hid hM0
 replace hT0:=hid hT0
 replace hn:=hid hn
 replace h1:=hid h1
 replace h2:=hid h2
 obtain ⟨w1,hw1⟩:=eX (w.alloc (.cells #[.string s1,.string s2] 24))
 have b1:=hid (AC hw1)
 have g1:=hid (AI' hw1)
 obtain ⟨z0,z1⟩:=By g1.out
 go_enter Tryz.func3,Tryz.ntmps3
 go_upto_region 1 with fail
 rw [←hw1]
 clear hw1
 have HX:=hid (AQ' (Av' hM0.out b1.out) (Aq hT0.out b1.out))
 go_wp2_with fail
 refine (HX.out).mono ?_
 rintro e w3 ⟨rfl,b3⟩
 have HE:=hid (chain b1.out b3)
 clear HX b3
 go_wp2_with fail
 go_ret
 exact ⟨rfl,HE.out⟩
theorem HI' {w:World} {mx:Int} {ad:Option Addr} {ss:List ByteArray} {c:Nat} {s1 s2:ByteArray} {q:Int} (hS:AM' w ad ss) (hn2:ss.length≤9223372036854775807) (hM0:w.cell? ⟨1,0,none⟩=some (.int .i64 mx)) (hT0:TabAt 0 Lib.deBruijn64tab w) (hn:ss.length≤8) (h1:s1.size≤20) (h2:s2.size≤20) (h:12<q∧q≤256) :
   Calls Tryz.prog 3 #[.slice ad ss.length c,.agg #[.string s1,.string s2],.int .i64 q] w (At' w true):=by
 have a1:decide (((ss.length:Nat):Int)>8)=false:=dF_ (by omega)
 have a1':¬ (((ss.length:Nat):Int)>8):=by omega
 have e1:decide (((s1.size:Nat):Int)>20)=false:=dF_ (by omega)
 have e1':¬ (((s1.size:Nat):Int)>20):=by omega
 have e2:decide (((s2.size:Nat):Int)>20)=false:=dF_ (by omega)
 have e2':¬ (((s2.size:Nat):Int)>20):=by omega
 have q1:decide (q>12)=true:=dT_ (by omega)
 have q1':(q>12):=by omega
 have q2:decide (q≤256)=true:=dT_ (by omega)
 have q2':(q≤256):=by omega
 have hn9:((ss.length:Nat):Int)≤9223372036854775807:=by omega
 replace hS:=hid hS
 replace hn2:=hid hn2
 replace hM0:=hid hM0
 replace hT0:=hid hT0
 replace hn:=hid hn
 replace h1:=hid h1
 replace h2:=hid h2
 replace h:=hid h
 obtain ⟨w1,hw1⟩:=eX (w.alloc (.cells #[.string s1,.string s2] 24))
 have b1:=hid (AC hw1)
 have g1:=hid (AI' hw1)
 obtain ⟨z0,z1⟩:=By g1.out
 go_enter Tryz.func3,Tryz.ntmps3
 go_upto_region 1 with fail
 rw [←hw1]
 clear hw1
 have HX:=hid (AQ' (Av' hM0.out b1.out) (Aq hT0.out b1.out))
 go_wp2_with fail
 refine (HX.out).mono ?_
 rintro e w3 ⟨rfl,b3⟩
 have HE:=hid (chain b1.out b3)
 clear HX b3
 go_wp2_with fail
 go_ret
 exact ⟨rfl,HE.out⟩
theorem HJ' {w:World} {mx:Int} {ad:Option Addr} {ss:List ByteArray} {c:Nat} {s1 s2:ByteArray} {q:Int} (hS:AM' w ad ss) (hn2:ss.length≤9223372036854775807) (hM0:w.cell? ⟨1,0,none⟩=some (.int .i64 mx)) (hT0:TabAt 0 Lib.deBruijn64tab w) (hn:ss.length≤8) (h1:s1.size≤20) (h2:s2.size≤20) (h:q≤12) :
   Calls Tryz.prog 3 #[.slice ad ss.length c,.agg #[.string s1,.string s2],.int .i64 q] w (At' w true):=by
 have a1:decide (((ss.length:Nat):Int)>8)=false:=dF_ (by omega)
 have a1':¬ (((ss.length:Nat):Int)>8):=by omega
 have e1:decide (((s1.size:Nat):Int)>20)=false:=dF_ (by omega)
 have e1':¬ (((s1.size:Nat):Int)>20):=by omega
 have e2:decide (((s2.size:Nat):Int)>20)=false:=dF_ (by omega)
 have e2':¬ (((s2.size:Nat):Int)>20):=by omega
 have q1:decide (q>12)=false:=dF_ (by omega)
 have q1':¬ (q>12):=by omega
 have hn9:((ss.length:Nat):Int)≤9223372036854775807:=by omega
 replace hS:=hid hS
 replace hn2:=hid hn2
 replace hM0:=hid hM0
 replace hT0:=hid hT0
 replace hn:=hid hn
 replace h1:=hid h1
 replace h2:=hid h2
 replace h:=hid h
 obtain ⟨w1,hw1⟩:=eX (w.alloc (.cells #[.string s1,.string s2] 24))
 have b1:=hid (AC hw1)
 have g1:=hid (AI' hw1)
 obtain ⟨z0,z1⟩:=By g1.out
 go_enter Tryz.func3,Tryz.ntmps3
 go_upto_region 1 with fail
 rw [←hw1]
 clear hw1
 rename_i G hG Gb hGb
 replace hG:=hid hG
 go_wp2_with fail
 refine hG.out _ _ ?_
 exact BU (hS.out.keep b1.out) g1.out hM0.out hT0.out b1.out h1.out h2.out (Or.inl hn.out) hn2.out (Or.inl h.out)
theorem HK' {w:World} {mx:Int} {ad:Option Addr} {ss:List ByteArray} {c:Nat} {s1 s2:ByteArray} {q:Int} (hS:AM' w ad ss) (hn2:ss.length≤9223372036854775807) (hM0:w.cell? ⟨1,0,none⟩=some (.int .i64 mx)) (hT0:TabAt 0 Lib.deBruijn64tab w) (hn:ss.length≤8) (h1:s1.size≤20) (h2:s2.size≤20) (h:256<q) :
   Calls Tryz.prog 3 #[.slice ad ss.length c,.agg #[.string s1,.string s2],.int .i64 q] w (At' w true):=by
 have a1:decide (((ss.length:Nat):Int)>8)=false:=dF_ (by omega)
 have a1':¬ (((ss.length:Nat):Int)>8):=by omega
 have e1:decide (((s1.size:Nat):Int)>20)=false:=dF_ (by omega)
 have e1':¬ (((s1.size:Nat):Int)>20):=by omega
 have e2:decide (((s2.size:Nat):Int)>20)=false:=dF_ (by omega)
 have e2':¬ (((s2.size:Nat):Int)>20):=by omega
 have q1:decide (q>12)=true:=dT_ (by omega)
 have q1':(q>12):=by omega
 have q2:decide (q≤256)=false:=dF_ (by omega)
 have q2':¬ (q≤256):=by omega
 have hn9:((ss.length:Nat):Int)≤9223372036854775807:=by omega
 replace hS:=hid hS
 replace hn2:=hid hn2
 replace hM0:=hid hM0
 replace hT0:=hid hT0
 replace hn:=hid hn
 replace h1:=hid h1
 replace h2:=hid h2
 replace h:=hid h
 obtain ⟨w1,hw1⟩:=eX (w.alloc (.cells #[.string s1,.string s2] 24))
 have b1:=hid (AC hw1)
 have g1:=hid (AI' hw1)
 obtain ⟨z0,z1⟩:=By g1.out
 go_enter Tryz.func3,Tryz.ntmps3
 go_upto_region 1 with fail
 rw [←hw1]
 clear hw1
 rename_i G hG Gb hGb
 replace hG:=hid hG
 go_wp2_with fail
 refine hG.out _ _ ?_
 exact BU (hS.out.keep b1.out) g1.out hM0.out hT0.out b1.out h1.out h2.out (Or.inl hn.out) hn2.out (Or.inr h.out)
theorem IE' {w:World} {mx:Int} {ad:Option Addr} {ss:List ByteArray} {c:Nat} {s1 s2:ByteArray} {q:Int} (hS:AM' w ad ss) (hn2:ss.length≤9223372036854775807) (hM0:w.cell? ⟨1,0,none⟩=some (.int .i64 mx)) (hT0:TabAt 0 Lib.deBruijn64tab w) (hn:200<ss.length) (h1:20<s1.size) :
   Calls Tryz.prog 3 #[.slice ad ss.length c,.agg #[.string s1,.string s2],.int .i64 q] w (At' w true):=by
 have a1:decide (((ss.length:Nat):Int)>8)=true:=dT_ (by omega)
 have a1':(((ss.length:Nat):Int)>8):=by omega
 have a2:decide (((ss.length:Nat):Int)≤200)=false:=dF_ (by omega)
 have a2':¬ (((ss.length:Nat):Int)≤200):=by omega
 have e1:decide (((s1.size:Nat):Int)>20)=true:=dT_ (by omega)
 have e1':(((s1.size:Nat):Int)>20):=by omega
 have hn9:((ss.length:Nat):Int)≤9223372036854775807:=by omega
 replace hS:=hid hS
 replace hn2:=hid hn2
 replace hM0:=hid hM0
 replace hT0:=hid hT0
 replace hn:=hid hn
 replace h1:=hid h1
 obtain ⟨w1,hw1⟩:=eX (w.alloc (.cells #[.string s1,.string s2] 24))
 have b1:=hid (AC hw1)
 have g1:=hid (AI' hw1)
 obtain ⟨z0,z1⟩:=By g1.out
 go_enter Tryz.func3,Tryz.ntmps3
 go_upto_region 1 with fail
 rw [←hw1]
 clear hw1
 have HX:=hid (AQ' (Av' hM0.out b1.out) (Aq hT0.out b1.out))
 go_wp2_with fail
 refine (HX.out).mono ?_
 rintro e w3 ⟨rfl,b3⟩
 have HE:=hid (chain b1.out b3)
 clear HX b3
 go_wp2_with fail
 go_ret
 exact ⟨rfl,HE.out⟩
theorem IF {w:World} {mx:Int} {ad:Option Addr} {ss:List ByteArray} {c:Nat} {s1 s2:ByteArray} {q:Int} (hS:AM' w ad ss) (hn2:ss.length≤9223372036854775807) (hM0:w.cell? ⟨1,0,none⟩=some (.int .i64 mx)) (hT0:TabAt 0 Lib.deBruijn64tab w) (hn:200<ss.length) (h1:s1.size≤20) (h2:20<s2.size) :
   Calls Tryz.prog 3 #[.slice ad ss.length c,.agg #[.string s1,.string s2],.int .i64 q] w (At' w true):=by
 have a1:decide (((ss.length:Nat):Int)>8)=true:=dT_ (by omega)
 have a1':(((ss.length:Nat):Int)>8):=by omega
 have a2:decide (((ss.length:Nat):Int)≤200)=false:=dF_ (by omega)
 have a2':¬ (((ss.length:Nat):Int)≤200):=by omega
 have e1:decide (((s1.size:Nat):Int)>20)=false:=dF_ (by omega)
 have e1':¬ (((s1.size:Nat):Int)>20):=by omega
 have e2:decide (((s2.size:Nat):Int)>20)=true:=dT_ (by omega)
 have e2':(((s2.size:Nat):Int)>20):=by omega
 have hn9:((ss.length:Nat):Int)≤9223372036854775807:=by omega
 replace hS:=hid hS
 replace hn2:=hid hn2
 replace hM0:=hid hM0
 replace hT0:=hid hT0
 replace hn:=hid hn
 replace h1:=hid h1
 replace h2:=hid h2
 obtain ⟨w1,hw1⟩:=eX (w.alloc (.cells #[.string s1,.string s2] 24))
 have b1:=hid (AC hw1)
 have g1:=hid (AI' hw1)
 obtain ⟨z0,z1⟩:=By g1.out
 go_enter Tryz.func3,Tryz.ntmps3
 go_upto_region 1 with fail
 rw [←hw1]
 clear hw1
 have HX:=hid (AQ' (Av' hM0.out b1.out) (Aq hT0.out b1.out))
 go_wp2_with fail
 refine (HX.out).mono ?_
 rintro e w3 ⟨rfl,b3⟩
 have HE:=hid (chain b1.out b3)
 clear HX b3
 go_wp2_with fail
 go_ret
 exact ⟨rfl,HE.out⟩
theorem HL' {w:World} {mx:Int} {ad:Option Addr} {ss:List ByteArray} {c:Nat} {s1 s2:ByteArray} {q:Int} (hS:AM' w ad ss) (hn2:ss.length≤9223372036854775807) (hM0:w.cell? ⟨1,0,none⟩=some (.int .i64 mx)) (hT0:TabAt 0 Lib.deBruijn64tab w) (hn:200<ss.length) (h1:s1.size≤20) (h2:s2.size≤20) (h:12<q∧q≤256) :
   Calls Tryz.prog 3 #[.slice ad ss.length c,.agg #[.string s1,.string s2],.int .i64 q] w (At' w true):=by
 have a1:decide (((ss.length:Nat):Int)>8)=true:=dT_ (by omega)
 have a1':(((ss.length:Nat):Int)>8):=by omega
 have a2:decide (((ss.length:Nat):Int)≤200)=false:=dF_ (by omega)
 have a2':¬ (((ss.length:Nat):Int)≤200):=by omega
 have e1:decide (((s1.size:Nat):Int)>20)=false:=dF_ (by omega)
 have e1':¬ (((s1.size:Nat):Int)>20):=by omega
 have e2:decide (((s2.size:Nat):Int)>20)=false:=dF_ (by omega)
 have e2':¬ (((s2.size:Nat):Int)>20):=by omega
 have q1:decide (q>12)=true:=dT_ (by omega)
 have q1':(q>12):=by omega
 have q2:decide (q≤256)=true:=dT_ (by omega)
 have q2':(q≤256):=by omega
 have hn9:((ss.length:Nat):Int)≤9223372036854775807:=by omega
 replace hS:=hid hS
 replace hn2:=hid hn2
 replace hM0:=hid hM0
 replace hT0:=hid hT0
 replace hn:=hid hn
 replace h1:=hid h1
 replace h2:=hid h2
 replace h:=hid h
 obtain ⟨w1,hw1⟩:=eX (w.alloc (.cells #[.string s1,.string s2] 24))
 have b1:=hid (AC hw1)
 have g1:=hid (AI' hw1)
 obtain ⟨z0,z1⟩:=By g1.out
 go_enter Tryz.func3,Tryz.ntmps3
 go_upto_region 1 with fail
 rw [←hw1]
 clear hw1
 have HX:=hid (AQ' (Av' hM0.out b1.out) (Aq hT0.out b1.out))
 go_wp2_with fail
 refine (HX.out).mono ?_
 rintro e w3 ⟨rfl,b3⟩
 have HE:=hid (chain b1.out b3)
 clear HX b3
 go_wp2_with fail
 go_ret
 exact ⟨rfl,HE.out⟩
theorem HM' {w:World} {mx:Int} {ad:Option Addr} {ss:List ByteArray} {c:Nat} {s1 s2:ByteArray} {q:Int} (hS:AM' w ad ss) (hn2:ss.length≤9223372036854775807) (hM0:w.cell? ⟨1,0,none⟩=some (.int .i64 mx)) (hT0:TabAt 0 Lib.deBruijn64tab w) (hn:200<ss.length) (h1:s1.size≤20) (h2:s2.size≤20) (h:q≤12) :
   Calls Tryz.prog 3 #[.slice ad ss.length c,.agg #[.string s1,.string s2],.int .i64 q] w (At' w true):=by
 have a1:decide (((ss.length:Nat):Int)>8)=true:=dT_ (by omega)
 have a1':(((ss.length:Nat):Int)>8):=by omega
 have a2:decide (((ss.length:Nat):Int)≤200)=false:=dF_ (by omega)
 have a2':¬ (((ss.length:Nat):Int)≤200):=by omega
 have e1:decide (((s1.size:Nat):Int)>20)=false:=dF_ (by omega)
 have e1':¬ (((s1.size:Nat):Int)>20):=by omega
 have e2:decide (((s2.size:Nat):Int)>20)=false:=dF_ (by omega)
 have e2':¬ (((s2.size:Nat):Int)>20):=by omega
 have q1:decide (q>12)=false:=dF_ (by omega)
 have q1':¬ (q>12):=by omega
 have hn9:((ss.length:Nat):Int)≤9223372036854775807:=by omega
 replace hS:=hid hS
 replace hn2:=hid hn2
 replace hM0:=hid hM0
 replace hT0:=hid hT0
 replace hn:=hid hn
 replace h1:=hid h1
 replace h2:=hid h2
 replace h:=hid h
 obtain ⟨w1,hw1⟩:=eX (w.alloc (.cells #[.string s1,.string s2] 24))
 have b1:=hid (AC hw1)
 have g1:=hid (AI' hw1)
 obtain ⟨z0,z1⟩:=By g1.out
 go_enter Tryz.func3,Tryz.ntmps3
 go_upto_region 1 with fail
 rw [←hw1]
 clear hw1
 rename_i G hG Gb hGb
 replace hG:=hid hG
 go_wp2_with fail
 refine hG.out _ _ ?_
 exact BU (hS.out.keep b1.out) g1.out hM0.out hT0.out b1.out h1.out h2.out (Or.inr hn.out) hn2.out (Or.inl h.out)
theorem HN' {w:World} {mx:Int} {ad:Option Addr} {ss:List ByteArray} {c:Nat} {s1 s2:ByteArray} {q:Int} (hS:AM' w ad ss) (hn2:ss.length≤9223372036854775807) (hM0:w.cell? ⟨1,0,none⟩=some (.int .i64 mx)) (hT0:TabAt 0 Lib.deBruijn64tab w) (hn:200<ss.length) (h1:s1.size≤20) (h2:s2.size≤20) (h:256<q) :
   Calls Tryz.prog 3 #[.slice ad ss.length c,.agg #[.string s1,.string s2],.int .i64 q] w (At' w true):=by
 have a1:decide (((ss.length:Nat):Int)>8)=true:=dT_ (by omega)
 have a1':(((ss.length:Nat):Int)>8):=by omega
 have a2:decide (((ss.length:Nat):Int)≤200)=false:=dF_ (by omega)
 have a2':¬ (((ss.length:Nat):Int)≤200):=by omega
 have e1:decide (((s1.size:Nat):Int)>20)=false:=dF_ (by omega)
 have e1':¬ (((s1.size:Nat):Int)>20):=by omega
 have e2:decide (((s2.size:Nat):Int)>20)=false:=dF_ (by omega)
 have e2':¬ (((s2.size:Nat):Int)>20):=by omega
 have q1:decide (q>12)=true:=dT_ (by omega)
 have q1':(q>12):=by omega
 have q2:decide (q≤256)=false:=dF_ (by omega)
 have q2':¬ (q≤256):=by omega
 have hn9:((ss.length:Nat):Int)≤9223372036854775807:=by omega
 replace hS:=hid hS
 replace hn2:=hid hn2
 replace hM0:=hid hM0
 replace hT0:=hid hT0
 replace hn:=hid hn
 replace h1:=hid h1
 replace h2:=hid h2
 replace h:=hid h
 obtain ⟨w1,hw1⟩:=eX (w.alloc (.cells #[.string s1,.string s2] 24))
 have b1:=hid (AC hw1)
 have g1:=hid (AI' hw1)
 obtain ⟨z0,z1⟩:=By g1.out
 go_enter Tryz.func3,Tryz.ntmps3
 go_upto_region 1 with fail
 rw [←hw1]
 clear hw1
 rename_i G hG Gb hGb
 replace hG:=hid hG
 go_wp2_with fail
 refine hG.out _ _ ?_
 exact BU (hS.out.keep b1.out) g1.out hM0.out hT0.out b1.out h1.out h2.out (Or.inr hn.out) hn2.out (Or.inr h.out)
theorem Fs {w:World} {mx:Int} {ad:Option Addr} {ss:List ByteArray} {c:Nat} {s1 s2:ByteArray} {q:Int} (hS:AM' w ad ss) (hn2:ss.length≤9223372036854775807) (hM0:w.cell? ⟨1,0,none⟩=some (.int .i64 mx)) (hT0:TabAt 0 Lib.deBruijn64tab w) :
   Calls Tryz.prog 3 #[.slice ad ss.length c,.agg #[.string s1,.string s2],.int .i64 q] w (At' w true):=by
 rcases Decidable.em (8<ss.length∧ss.length≤200) with hn | hn
 · exact Jb hS hn2 hM0 hT0 hn
 · rcases Nat.lt_or_ge 8 ss.length with k | k
   · rcases Nat.lt_or_ge 20 s1.size with h1 | h1
     · exact IE' hS hn2 hM0 hT0 (by omega) h1
     · rcases Nat.lt_or_ge 20 s2.size with h2 | h2
       · exact IF hS hn2 hM0 hT0 (by omega) h1 h2
       · rcases Decidable.em (12<q∧q≤256) with h | h
         · exact HL' hS hn2 hM0 hT0 (by omega) h1 h2 h
         · rcases Decidable.em (q≤12) with h' | h'
           · exact HM' hS hn2 hM0 hT0 (by omega) h1 h2 h'
           · exact HN' hS hn2 hM0 hT0 (by omega) h1 h2 (by omega)
   · rcases Nat.lt_or_ge 20 s1.size with h1 | h1
     · exact ID' hS hn2 hM0 hT0 k h1
     · rcases Nat.lt_or_ge 20 s2.size with h2 | h2
       · exact IE hS hn2 hM0 hT0 k h1 h2
       · rcases Decidable.em (12<q∧q≤256) with h | h
         · exact HI' hS hn2 hM0 hT0 k h1 h2 h
         · rcases Decidable.em (q≤12) with h' | h'
           · exact HJ' hS hn2 hM0 hT0 k h1 h2 h'
           · exact HK' hS hn2 hM0 hT0 k h1 h2 (by omega)
end Go.Proofs.YtbigkkjnhcpgiaaGreatDoor.Rf
