/-
  Contracts of the functions that the law calls, for every input (Wb Place Wc Wd We).
-/
import Derived.Test.YtlcimajjnfbidaaGreatDoorV00
import Derived.Test.YtlcimajjnfbidaaGreatDoorV35
import Derived.Test.YtlcimajjnfbidaaGreatDoorV10
set_option linter.all false
set_option maxRecDepth 100000
set_option maxHeartbeats 40000000
namespace Go.Proofs.YtlcimajjnfbidaaGreatDoor.Rf
open Lib (hid)
open Go.RowKit
open Rx
open Vx (siz siz_num siz_den)
open List renaming getElem?_toArray → lg, getElem?_cons_zero → lz, getElem?_cons_succ → ls, setIfInBounds_toArray → lt, set_cons_zero → ly, set_cons_succ → lu
open Rf (stored3 stored6 alloc_below newz1 newb1 Live region_late late_do idle)
theorem nums_stay {W V:World} {A:Option Addr} {n B:Nat} {vals:Nat→Value} {cf:Nat→Rat} (h:NumsV W A n vals cf) (hne:0<n→∀ b o,A=some ⟨b,o,none⟩→b≠B) (hO:∀ (n:Nat) (x:Obj),n≠B→W.heap[n]?=some x→V.heap[n]?=some x) (hL:Live W V):NumsV V A n vals cf:=by
 refine ⟨fun j hj=>?_,fun j hj=>hL.num (h.2 j hj)⟩
 obtain ⟨b,o,s,A1,n1,c1,A2,n2,c2,e,hv,z0,z1,z2⟩:=h.1 j hj
 have hl:=World.block_lt_of_cell? W _ z0
 have he:V.heap[b]?=W.heap[b]?:=by
   have:W.heap[b]?=some W.heap[b]:=by simp [hl]
   rw [hO b _ (hne (by omega) b o e) this,this]
 exact ⟨b,o,s,A1,n1,c1,A2,n2,c2,e,hv,(World.cell?_of_block he).trans z0,(World.cell?_of_block he).trans z1,(World.cell?_of_block he).trans z2⟩
theorem cell_other {W V:World} {B b o:Nat} (hO:∀ (n:Nat) (x:Obj),n≠B→W.heap[n]?=some x→V.heap[n]?=some x) (hne:b≠B) (hl:b<W.heap.size):V.cell? ⟨b,o,none⟩=W.cell? ⟨b,o,none⟩:=by
 have he:V.heap[b]?=W.heap[b]?:=by
   have:W.heap[b]?=some W.heap[b]:=by simp [hl]
   rw [hO b _ hne this,this]
 exact World.cell?_of_block he
theorem fwd_siz {x:Rat} {l:List Rat} (hx:siz x≤10000) (hs:∀ y∈l,siz y≤100000):∀ k,k≤8→k≤l.length→siz (fwd (l.take k) x).1≤3+k*200000∧siz (fwd (l.take k) x).2≤3+k*10000:=by
 intro k
 induction k with
 | zero =>
   intro _ _
   exact ⟨show siz (0:Rat)≤3 by decide +kernel,show siz (1:Rat)≤3 by decide +kernel⟩
 | succ k ih =>
   intro h8 hl
   obtain ⟨i1,i2⟩:=ih (by omega) (by omega)
   obtain ⟨c,hc⟩:∃ c,l[k]?=some c:=⟨l[k]'(by omega),by simp⟩
   have hcs:=hs c (List.mem_of_getElem? hc)
   rw [fwd_step hc]
   have k1:=Vx.siz_mul (fwd (l.take k) x).2 c
   have k2:=Vx.siz_add (fwd (l.take k) x).1 ((fwd (l.take k) x).2*c)
   have k3:=Vx.siz_mul (fwd (l.take k) x).2 x
   simp only [Nat.succ_mul]
   constructor
   · show siz ((fwd (l.take k) x).1+(fwd (l.take k) x).2*c)≤_
     have:k*10000≤80000:=by omega
     omega
   · show siz ((fwd (l.take k) x).2*x)≤_
     omega
theorem En.moved {w:World} {mx:Int} {A:Option Addr} {n:Nat} {vals:Nat→Value} {cf:Nat→Rat} {bs bx bz:Nat} {P1 P2 P3 P4 X1 X2 Z1 Z2:Option Addr} {r1 r2 r3 r4 i1 i2 i3 i4:Nat} {a b x z:Rat} {W V:World} {B:Nat} {Y1 Y2:Option Addr} {i7 i8:Nat} {z':Rat} (h:En w W mx A n vals cf bs bx bz P1 P2 P3 P4 X1 X2 Z1 Z2 r1 r2 r3 r4 i1 i2 i3 i4 a b x z) (hO:∀ (n:Nat) (x:Obj),n≠B→W.heap[n]?=some x→V.heap[n]?=some x) (hL:Live W V) (hBV:Below w.heap.size w V) (hsB:bs≠B) (hxB:bx≠B) (hA:0<n→∀ b o,A=some ⟨b,o,none⟩→b≠B)
   (hM0:w.cell? ⟨1,0,none⟩=some (.int .i64 mx)) (hT0:TabAt 0 Lib.deBruijn64tab w) (rz':V.heap[bz]?=some (.cells #[.bool (decide (z'.num<0)),.slice Y1 (Vx.len z'.num.natAbs) i7,.slice Y2 (Vx.len (below z'.den)) i8] 31 (0,0))) (hz':IsNum V (.agg #[.bool (decide (z'.num<0)),.slice Y1 (Vx.len z'.num.natAbs) i7,.slice Y2 (Vx.len (below z'.den)) i8]) z') :
   En w V mx A n vals cf bs bx bz P1 P2 P3 P4 X1 X2 Y1 Y2 r1 r2 r3 r4 i1 i2 i7 i8 a b x z' :=
 ⟨nums_stay h.hl hA hO hL,hO _ _ hsB h.rs,hL.box h.hs,hO _ _ hxB h.rx,hL.num h.hx,rz',hz',cell_keep hM0 hBV,tab_keep hT0 hBV,hBV⟩
def Ev (w:World) (mx:Int) (A:Option Addr) (n:Nat) (vals:Nat→Value) (cf:Nat→Rat) (bs bx bz bp:Nat) (P1 P2 P3 P4 X1 X2:Option Addr) (r1 r2 r3 r4 i1 i2:Nat) (a b x:Rat) (l:List Rat) (k:Nat) (wr:World):Prop :=
  ∃ Z1 i3 Z2 i4 W1 i5 W2 i6 z p,(fwd (l.take k) x).1=z∧(fwd (l.take k) x).2=p∧En w wr mx A n vals cf bs bx bz P1 P2 P3 P4 X1 X2 Z1 Z2 r1 r2 r3 r4 i1 i2 i3 i4 a b x z∧wr.heap[bp]?=some (.cells #[.bool (decide (p.num<0)),.slice W1 (Vx.len p.num.natAbs) i5,.slice W2 (Vx.len (below p.den)) i6] 31 (0,0))∧IsNum wr (.agg #[.bool (decide (p.num<0)),.slice W1 (Vx.len p.num.natAbs) i5,.slice W2 (Vx.len (below p.den)) i6]) p
theorem encl_loop {w wa:World} {mx:Int} {A:Option Addr} {n:Nat} {vals:Nat→Value} {cf:Nat→Rat} {bs bx bz:Nat} {P1 P2 P3 P4 X1 X2 Z1 Z2:Option Addr} {r1 r2 r3 r4 i1 i2 i3 i4:Nat} {a b x z:Rat} {l:List Rat} {f t cap bp:Nat} {W1 W2:Option Addr} {i5 i6:Nat} {p:Rat} {y0 y1 y2 y3 y4 y5 y7 y9 y15 y16 y17 y18 y19 y20 y21 y22 y23 y24 y25 y26 y27 y28 y29 y30 y31 y32 y33 y34 y35 y36 y37 y38 y39 y40 y41 y42 y43 y44 y45 y46 y47 y48 y49 y50 y51 y52 y53 y54 y55 y56 y57 y58 y59 y60 y61 y62 y63 y64 y65 y66 y67 y68 y69 y70 y71 y72 y73 y74 y75 y76 y77 y78 y79 y80 y81 y82 y83 y84 y85 y86 y87 y88 y89 y90 y91 y92 y93 y94 y95 y96 y97 y98 y99 y100 y101 y102 y103 y104 y105 y106 y107 y108 y109 y110 y111 y112 y113 y114 y115 y116 y117 y118 y119 y120 y121 y122 y123 y124 y125 y126 y127 y128 y129 y130 y131 y132 y133 y134 y135 y136 y137 y138 y139 y140 y141 y142 y143 y144 y145 y146 y147 y148 y149 y150 y151 y152 y153 y154 y155 y156 y157 y158 y159 y160 y161 y162 y163 y164:Value} (HC:En w wa mx A n vals cf bs bx bz P1 P2 P3 P4 X1 X2 Z1 Z2 r1 r2 r3 r4 i1 i2 i3 i4 a b x z) (rp:wa.heap[bp]?=some (.cells #[.bool (decide (p.num<0)),.slice W1 (Vx.len p.num.natAbs) i5,.slice W2 (Vx.len (below p.den)) i6] 31 (0,0))) (hp:IsNum wa (.agg #[.bool (decide (p.num<0)),.slice W1 (Vx.len p.num.natAbs) i5,.slice W2 (Vx.len (below p.den)) i6]) p) (e0:0=z) (e1:1=p) (ls:bs<bz) (lx:bx<bz) (lp:bz<bp) (lw:w.heap.size≤bz) (hA:0<n→∀ b o,A=some ⟨b,o,none⟩→b<bz) (hM0:w.cell? ⟨1,0,none⟩=some (.int .i64 mx)) (hT0:TabAt 0 Lib.deBruijn64tab w) (eL:l.length=n) (hcf:∀ j,j<n→l[j]?=some (cf j)) (hn:n≤8) (hax:a≤x) (hxb:x≤b) (sa:siz a≤2000) (sb:siz b≤2000) (sx:siz x≤10000) (sc:∀ j,j<n→siz (cf j)≤100000) (hf1:0<f) (hf4:f≤4) (ht:t≤255) :
   (codeAt 8 Tryz.f6).wp Tryz.prog (bodyPost Tryz.prog Tryz.f6 (BoolRet w true)) { tmps:=#[y0,y1,y2,y3,y4,y5,.int .u8 ((t:Nat):Int),y7,.slice A n cap,y9,.pointer (some ⟨bs,0,none⟩),.int .i64 ((f:Nat):Int),.pointer (some ⟨bx,0,none⟩),.pointer (some ⟨bz,0,none⟩),.pointer (some ⟨bp,0,none⟩),y15,y16,y17,y18,y19,y20,y21,y22,y23,y24,y25,y26,y27,y28,y29,y30,y31,y32,y33,y34,y35,y36,y37,y38,y39,y40,y41,y42,y43,y44,y45,y46,y47,y48,y49,y50,y51,y52,y53,y54,y55,y56,y57,y58,y59,y60,y61,y62,y63,y64,y65,y66,y67,y68,y69,y70,y71,y72,y73,y74,y75,y76,y77,y78,y79,y80,y81,y82,y83,y84,y85,y86,y87,y88,y89,y90,y91,y92,y93,y94,y95,y96,y97,y98,y99,y100,y101,y102,y103,y104,y105,y106,y107,y108,y109,y110,y111,y112,y113,y114,y115,y116,y117,y118,y119,y120,y121,y122,y123,y124,y125,y126,y127,y128,y129,y130,y131,y132,y133,y134,y135,y136,y137,y138,y139,y140,y141,y142,y143,y144,y145,y146,y147,y148,y149,y150,y151,y152,y153,y154,y155,y156,y157,y158,y159,y160,y161,y162,y163,y164],defers:=[] } wa:=by
 have HE:Hid (Ev w mx A n vals cf bs bx bz bp P1 P2 P3 P4 X1 X2 r1 r2 r3 r4 i1 i2 a b x l 0 wa):=hid ⟨_,_,_,_,_,_,_,_,_,_,e0,e1,HC,rp,hp⟩
 clear HC rp hp e0 e1
 have hsl:∀ y∈l,siz y≤100000:=by
   intro y hy
   obtain ⟨j,hj⟩:=List.mem_iff_getElem?.1 hy
   have hjl:j<n:=by rw [←eL];exact (List.getElem?_eq_some_iff.1 hj).1
   rw [hcf j hjl] at hj
   rw [←Option.some.inj hj]
   exact sc j hjl
 have hsz:=hid (fwd_siz sx hsl)
 clear hsl
 have hn8:((n:Nat):Int)≤8:=by omega
 replace hA:=hid hA
 replace hM0:=hid hM0
 replace hT0:=hid hT0
 replace eL:=hid eL
 replace hcf:=hid hcf
 replace hax:=hid hax
 replace hxb:=hid hxb
 replace sa:=hid sa
 replace sb:=hid sb
 replace sx:=hid sx
 replace sc:=hid sc
 replace hf1:=hid hf1
 replace hf4:=hid hf4
 replace ht:=hid ht
 show Code.wp _ (Code.seq _ _) _ _ _
 go_wp2_with fail
 rename_i G hG
 replace hG:=hid hG
 go_loopw [15] (fun iv wr=>∃ k:Nat,k≤n∧iv=.int .i64 ((k:Nat):Int)∧Hid (Ev w mx A n vals cf bs bx bz bp P1 P2 P3 P4 X1 X2 r1 r2 r3 r4 i1 i2 a b x l k wr)) (fun iv _=>n - (intOf iv).toNat)
 case atStart=>exact ⟨0,Nat.zero_le _,rfl,HE⟩
 case round =>
   obtain ⟨k,hk,rfl,hrel⟩:=hrel
   clear HE
   obtain ⟨Z1,i3,Z2,i4,W1,i5,W2,i6,z,p,ez,ep,HC,rp,hp⟩:=hrel.out
   clear hrel
   rcases Nat.lt_or_ge k n with hkn | hkn
   · have hin:decide (k<n)=true:=decide_eq_true hkn
     obtain ⟨Bb,o,s5,A5,n5,c5,A6,n6,c6,eA,ev,y0,y1,y2⟩:=HC.hl.1 k hkn
     have hck:=HC.hl.2 k hkn
     rw [ev] at hck
     have hBbz:=hA.out (by omega) Bb o eA
     have hA':0<n→∀ b o,A=some ⟨b,o,none⟩→b<bz:=hA.out
     have hAz:=hid (show 0<n→∀ b o,A=some ⟨b,o,none⟩→b≠bz from fun h b o e=>Nat.ne_of_lt (hA' h b o e))
     have hAp:=hid (show 0<n→∀ b o,A=some ⟨b,o,none⟩→b≠bp from fun h b o e=>by have:=hA' h b o e;omega)
     clear hA'
     obtain ⟨u,hu⟩:=eY (o+k*3)
     have hu':k*3+o=u:=by omega
     rw [hu] at y0 y1 y2
     have hlk:=hcf.out k hkn
     obtain ⟨c,hc⟩:=eY (cf k)
     have tc:=sc.out k hkn
     rw [hc] at hck hlk tc
     obtain ⟨tz,tp⟩:=hsz.out k (by omega) (by rw [eL.out];omega)
     rw [ez] at tz
     rw [ep] at tp
     have hst:=fwd_step (x:=x) hlk
     rw [ez,ep] at hst
     obtain ⟨pc,epc⟩:=eY (p*c)
     obtain ⟨z2,ez2⟩:=eY (z+pc)
     obtain ⟨p2,ep2⟩:=eY (p*x)
     rw [epc,ez2,ep2] at hst
     have tpc:=Vx.siz_mul p c
     rw [epc] at tpc
     have sx1:=sx.out
     have t1:=hid (show siz p≤34359738368 by omega)
     have t2:=hid (show siz c≤34359738368 by omega)
     have t3:=hid (show siz z≤34359738368 by omega)
     have t4:=hid (show siz pc≤34359738368 by omega)
     have t5:=hid (show siz x≤34359738368 by omega)
     have hbp:bp<wr.heap.size:=at_lt rp
     have hbx:bx<wr.heap.size:=at_lt HC.rx
     have hBb:Bb<wr.heap.size:=by omega
     have nBz:Bb≠bz:=by omega
     have nBp:Bb≠bp:=by omega
     have npz:bp≠bz:=by omega
     have nxz:bx≠bz:=by omega
     have nxp:bx≠bp:=by omega
     have nsz:bs≠bz:=by omega
     have nsp:bs≠bp:=by omega
     have lwp:w.heap.size≤bp:=by omega
     clear ez ep tc tz tp hc hlk ev hBbz tpc sx1
     obtain ⟨p0,p1,p2'⟩:=cells3 rp
     obtain ⟨x0,x1,x2⟩:=cells3 HC.rx
     replace HC:=hid HC
     replace rp:=hid rp
     replace hp:=hid hp
     replace hck:=hid hck
     replace hst:=hid hst
     replace epc:=hid epc
     replace ez2:=hid ez2
     replace ep2:=hid ep2
     subst eA
     go_upto_region 17 with fail
     have hZ:=hid HC.out.hz
     have hX:=hid HC.out.hx
     go_wp2_with fail
     refine region_late (s:=12) (S:=(fun w'=>(w'.cell? ⟨bp,0,none⟩=wr.cell? ⟨bp,0,none⟩∧w'.cell? ⟨bp,1,none⟩=wr.cell? ⟨bp,1,none⟩∧w'.cell? ⟨bp,2,none⟩=wr.cell? ⟨bp,2,none⟩∧w'.cell? ⟨bx,0,none⟩=wr.cell? ⟨bx,0,none⟩∧w'.cell? ⟨bx,1,none⟩=wr.cell? ⟨bx,1,none⟩∧w'.cell? ⟨bx,2,none⟩=wr.cell? ⟨bx,2,none⟩∧w'.cell? ⟨Bb,u,none⟩=wr.cell? ⟨Bb,u,none⟩∧w'.cell? ⟨Bb,u+1,none⟩=wr.cell? ⟨Bb,u+1,none⟩∧w'.cell? ⟨Bb,u+2,none⟩=wr.cell? ⟨Bb,u+2,none⟩))) (by kernel_rfl) (by rfl) (by rfl) (by kernel_rfl) ?_
     simp only [idle,lt,ly,lu]
     have hHeld:(fun w'=>(w'.cell? ⟨bp,0,none⟩=wr.cell? ⟨bp,0,none⟩∧w'.cell? ⟨bp,1,none⟩=wr.cell? ⟨bp,1,none⟩∧w'.cell? ⟨bp,2,none⟩=wr.cell? ⟨bp,2,none⟩∧w'.cell? ⟨bx,0,none⟩=wr.cell? ⟨bx,0,none⟩∧w'.cell? ⟨bx,1,none⟩=wr.cell? ⟨bx,1,none⟩∧w'.cell? ⟨bx,2,none⟩=wr.cell? ⟨bx,2,none⟩∧w'.cell? ⟨Bb,u,none⟩=wr.cell? ⟨Bb,u,none⟩∧w'.cell? ⟨Bb,u+1,none⟩=wr.cell? ⟨Bb,u+1,none⟩∧w'.cell? ⟨Bb,u+2,none⟩=wr.cell? ⟨Bb,u+2,none⟩)) wr:=⟨rfl,rfl,rfl,rfl,rfl,rfl,rfl,rfl,rfl⟩
     obtain ⟨w91,hw91⟩:=eX wr.drew
     have b91:Hid (Below wr.heap.size wr w91):=hid (by rw [hw91];exact ⟨rfl,rfl,rfl,Nat.le_refl _,fun _ _=>rfl⟩)
     replace hHeld:(fun w'=>(w'.cell? ⟨bp,0,none⟩=wr.cell? ⟨bp,0,none⟩∧w'.cell? ⟨bp,1,none⟩=wr.cell? ⟨bp,1,none⟩∧w'.cell? ⟨bp,2,none⟩=wr.cell? ⟨bp,2,none⟩∧w'.cell? ⟨bx,0,none⟩=wr.cell? ⟨bx,0,none⟩∧w'.cell? ⟨bx,1,none⟩=wr.cell? ⟨bx,1,none⟩∧w'.cell? ⟨bx,2,none⟩=wr.cell? ⟨bx,2,none⟩∧w'.cell? ⟨Bb,u,none⟩=wr.cell? ⟨Bb,u,none⟩∧w'.cell? ⟨Bb,u+1,none⟩=wr.cell? ⟨Bb,u+1,none⟩∧w'.cell? ⟨Bb,u+2,none⟩=wr.cell? ⟨Bb,u+2,none⟩)) w91:=by rw [hw91];exact hHeld
     rw [←hw91]
     clear hw91
     refine tk (i:=1) (h:=?_)
     try simp only [Act.put,lt,ly,lu]
     refine tk (i:=2) (h:=?_)
     try simp only [Act.put,lt,ly,lu]
     refine tk (i:=3) (h:=?_)
     try simp only [Act.put,lt,ly,lu]
     refine tk (i:=4) (h:=?_)
     try simp only [Act.put,lt,ly,lu]
     refine tk (i:=5) (h:=?_)
     try simp only [Act.put,lt,ly,lu]
     refine tk (i:=8) (h:=?_)
     try simp only [Act.put,lt,ly,lu]
     refine tk (i:=9) (h:=?_)
     try simp only [Act.put,lt,ly,lu]
     refine wpAnyH_ready (rs:=[0,6]) (by kernel_rfl) (by simp) (AllReadyH.cons (o:=?oA) ?eA ?kA (AllReadyH.cons (o:=?oB) ?eB ?kB AllReadyH.nil))
     case eA=>simp only [lg,lz,ls];rfl
     case eB=>simp only [lg,lz,ls];rfl
     case kA =>
       intro K hK
       have DZ:=at_keep HC.out.rz b91.out
       obtain ⟨q0,q1,q2⟩:=cells3 DZ
       go_simp
       clear q0 q1 q2 DZ
       refine hK.out _ _ ?_ (fun hHeld2=>?_)
       · (try dsimp only);exact hHeld
       clear hK K hHeld
       try simp only [Act.put,lt,ly,lu]
       have hHeld:=hHeld2
       clear hHeld2
       refine wpAnyH_ready (rs:=[6]) (by kernel_rfl) (by simp) (AllReadyH.cons (o:=?oq1) ?eq1 ?kq1 AllReadyH.nil)
       case eq1=>simp only [lg,lz,ls];rfl
       intro K hK;go_simp;go_at_call 46
       refine (mul_val9 epc.out (hp.out.keep b91.out) (hck.out.keep b91.out) t1.out t2.out).mono ?_
       rintro e w92 ⟨v92,rfl,hv92,b92⟩
       obtain ⟨C91,j91,C92,j92,rfl,-,-⟩:=id hv92.opened
       replace hv92:=hid hv92
       replace b92:=hid b92
       have y90_92:=hid (Below.step b91.out b92.out)
       have hS:=y90_92.out
       clear hHeld
       refine hK.out _ _ ?_ (fun hHeld=>?_)
       · (try dsimp only)
         exact ⟨hS.cell (p:=⟨bp,0,none⟩) hbp,hS.cell (p:=⟨bp,1,none⟩) hbp,hS.cell (p:=⟨bp,2,none⟩) hbp,hS.cell (p:=⟨bx,0,none⟩) hbx,hS.cell (p:=⟨bx,1,none⟩) hbx,hS.cell (p:=⟨bx,2,none⟩) hbx,hS.cell (p:=⟨Bb,u,none⟩) hBb,hS.cell (p:=⟨Bb,u+1,none⟩) hBb,hS.cell (p:=⟨Bb,u+2,none⟩) hBb⟩
       clear hK K hS;try simp only [Act.put,lt,ly,lu]
       refine wpAnyH_ready (rs:=[7]) (by kernel_rfl) (by simp) (AllReadyH.cons (o:=?oq2) ?eq2 ?kq2 AllReadyH.nil)
       case eq2=>simp only [lg,lz,ls];rfl
       intro K hK;go_simp;go_at_call 45
       refine (add_val9 ez2.out (hZ.out.keep y90_92.out) hv92.out t3.out t4.out).mono ?_
       rintro e w93 ⟨v93,rfl,hv93,b93⟩
       obtain ⟨C93,j93,C94,j94,rfl,-,-⟩:=id hv93.opened
       replace hv93:=hid hv93
       replace b93:=hid b93
       have y90_93:=hid (Below.step y90_92.out b93.out)
       have hS:=y90_93.out
       clear hHeld
       refine hK.out _ _ ?_ (fun hHeld=>?_)
       · (try dsimp only)
         exact ⟨hS.cell (p:=⟨bp,0,none⟩) hbp,hS.cell (p:=⟨bp,1,none⟩) hbp,hS.cell (p:=⟨bp,2,none⟩) hbp,hS.cell (p:=⟨bx,0,none⟩) hbx,hS.cell (p:=⟨bx,1,none⟩) hbx,hS.cell (p:=⟨bx,2,none⟩) hbx,hS.cell (p:=⟨Bb,u,none⟩) hBb,hS.cell (p:=⟨Bb,u+1,none⟩) hBb,hS.cell (p:=⟨Bb,u+2,none⟩) hBb⟩
       clear hK K hS;try simp only [Act.put,lt,ly,lu]
       refine wpAnyH_ready (rs:=[10]) (by kernel_rfl) (by simp) (AllReadyH.cons (o:=?oq3) ?eq3 ?kq3 AllReadyH.nil)
       case eq3=>simp only [lg,lz,ls];rfl
       intro K hK;go_simp;go_at_call 46
       refine (mul_val9 ep2.out (hp.out.keep y90_93.out) (hX.out.keep y90_93.out) t1.out t5.out).mono ?_
       rintro e w94 ⟨v94,rfl,hv94,b94⟩
       obtain ⟨C95,j95,C96,j96,rfl,-,-⟩:=id hv94.opened
       replace hv94:=hid hv94
       replace b94:=hid b94
       have y90_94:=hid (Below.step y90_93.out b94.out)
       have hS:=y90_94.out
       clear hHeld
       refine hK.out _ _ ?_ (fun hHeld=>?_)
       · (try dsimp only)
         exact ⟨hS.cell (p:=⟨bp,0,none⟩) hbp,hS.cell (p:=⟨bp,1,none⟩) hbp,hS.cell (p:=⟨bp,2,none⟩) hbp,hS.cell (p:=⟨bx,0,none⟩) hbx,hS.cell (p:=⟨bx,1,none⟩) hbx,hS.cell (p:=⟨bx,2,none⟩) hbx,hS.cell (p:=⟨Bb,u,none⟩) hBb,hS.cell (p:=⟨Bb,u+1,none⟩) hBb,hS.cell (p:=⟨Bb,u+2,none⟩) hBb⟩
       clear hK K hS;try simp only [Act.put,lt,ly,lu]
       refine wpAnyH_ready (rs:=[11]) (by kernel_rfl) (by simp) (AllReadyH.cons (o:=?oq4) ?eq4 ?kq4 AllReadyH.nil)
       case eq4=>simp only [lg,lz,ls];rfl
       intro K hK
       have DZ:=at_keep HC.out.rz y90_94.out
       have q0:=cell_of_row _ _ 0 _ _ _ DZ
       have F0:=frozen_of_row w94 bz 0 _ _ DZ
       have q1:=cell_of_row _ _ 1 _ _ _ DZ
       have F1:=frozen_of_row w94 bz 1 _ _ DZ
       have q2:=cell_of_row _ _ 2 _ _ _ DZ
       have F2:=frozen_of_row w94 bz 2 _ _ DZ
       simp only [lg,lz,ls] at q0 q1 q2
       replace DZ:=hid DZ
       go_simp
       clear q0 q1 q2 F0 F1 F2
       have hS:=hid y90_94.out
       obtain ⟨ue,hw⟩:=eX ((((w94.setCell ⟨bz,0,none⟩ (.bool (decide (z2.num<0)))).setCell ⟨bz,1,none⟩ (.slice C93 (Vx.len z2.num.natAbs) j93)).setCell ⟨bz,2,none⟩ (.slice C94 (Vx.len (below z2.den)) j94)))
       obtain ⟨E,OT,LV,BL⟩:=stored3 DZ.out hw
       rw [←hw]
       clear hw
       refine hK.out _ _ ?_ (fun hHeld2=>?_)
       · (try dsimp only)
         exact ⟨(cell_other OT npz (Nat.lt_of_lt_of_le hbp hS.out.size)).trans (hS.out.cell (p:=⟨bp,0,none⟩) hbp),(cell_other OT npz (Nat.lt_of_lt_of_le hbp hS.out.size)).trans (hS.out.cell (p:=⟨bp,1,none⟩) hbp),(cell_other OT npz (Nat.lt_of_lt_of_le hbp hS.out.size)).trans (hS.out.cell (p:=⟨bp,2,none⟩) hbp),(cell_other OT nxz (Nat.lt_of_lt_of_le hbx hS.out.size)).trans (hS.out.cell (p:=⟨bx,0,none⟩) hbx),(cell_other OT nxz (Nat.lt_of_lt_of_le hbx hS.out.size)).trans (hS.out.cell (p:=⟨bx,1,none⟩) hbx),(cell_other OT nxz (Nat.lt_of_lt_of_le hbx hS.out.size)).trans (hS.out.cell (p:=⟨bx,2,none⟩) hbx),(cell_other OT nBz (Nat.lt_of_lt_of_le hBb hS.out.size)).trans (hS.out.cell (p:=⟨Bb,u,none⟩) hBb),(cell_other OT nBz (Nat.lt_of_lt_of_le hBb hS.out.size)).trans (hS.out.cell (p:=⟨Bb,u+1,none⟩) hBb),(cell_other OT nBz (Nat.lt_of_lt_of_le hBb hS.out.size)).trans (hS.out.cell (p:=⟨Bb,u+2,none⟩) hBb)⟩
       clear hK K hHeld
       try simp only [Act.put,lt,ly,lu]
       have HBe:=BL _ _ lw (chain HC.out.hB hS.out)
       have HE2:=hid ((HC.out.keep hS.out).moved OT LV HBe nsz nxz hAz.out hM0.out hT0.out E (LV.num (hv93.out.keep b94.out)))
       have rpe:=OT _ _ npz (at_keep rp.out hS.out)
       have hps:=hid (LV.num hv94.out)
       clear OT LV BL DZ hS E HBe
       refine tk (i:=12) (h:=?_)
       try simp only [Act.put,lt,ly,lu]
       refine wpAnyH_done (by kernel_rfl) ?_ _
       have q0:=cell_of_row _ _ 0 _ _ _ rpe
       have F0:=frozen_of_row ue bp 0 _ _ rpe
       have q1:=cell_of_row _ _ 1 _ _ _ rpe
       have F1:=frozen_of_row ue bp 1 _ _ rpe
       have q2:=cell_of_row _ _ 2 _ _ _ rpe
       have F2:=frozen_of_row ue bp 2 _ _ rpe
       simp only [lg,lz,ls] at q0 q1 q2
       obtain ⟨uf,hw⟩:=eX ((((ue.setCell ⟨bp,0,none⟩ (.bool (decide (p2.num<0)))).setCell ⟨bp,1,none⟩ (.slice C95 (Vx.len p2.num.natAbs) j95)).setCell ⟨bp,2,none⟩ (.slice C96 (Vx.len (below p2.den)) j96)))
       obtain ⟨E,OT,LV,BL⟩:=stored3 rpe hw
       have HBf:=BL _ _ lwp HE2.out.hB
       have FIN:Hid (Ev w mx (some ⟨Bb,o,none⟩) n vals cf bs bx bz bp P1 P2 P3 P4 X1 X2 r1 r2 r3 r4 i1 i2 a b x l (k+1) uf):=hid ⟨_,_,_,_,_,_,_,_,z2,p2,by rw [hst.out],by rw [hst.out],HE2.out.moved OT LV HBf nsp nxp hAp.out hM0.out hT0.out (OT _ _ (Ne.symm npz) HE2.out.rz) (LV.num HE2.out.hz),E,LV.num hps.out⟩
       refine late_do (by rfl) (by rfl) ?_
       clear E OT LV BL HBf
       go_simp
       rw [←hw]
       clear hw q0 q1 q2 F0 F1 F2 rpe
       go_wp2_with fail
       go_roundw
       case rel=>exact ⟨k+1,hkn,by go_num,FIN⟩
       case measure=>simp [intOf];omega
     case kB =>
       intro K hK;go_simp;go_at_call 46
       refine (mul_val9 epc.out (hp.out.keep b91.out) (hck.out.keep b91.out) t1.out t2.out).mono ?_
       rintro e w92 ⟨v92,rfl,hv92,b92⟩
       obtain ⟨C97,j97,C98,j98,rfl,-,-⟩:=id hv92.opened
       replace hv92:=hid hv92
       replace b92:=hid b92
       have y90_92:=hid (Below.step b91.out b92.out)
       have hS:=y90_92.out
       clear hHeld
       refine hK.out _ _ ?_ (fun hHeld=>?_)
       · (try dsimp only)
         exact ⟨hS.cell (p:=⟨bp,0,none⟩) hbp,hS.cell (p:=⟨bp,1,none⟩) hbp,hS.cell (p:=⟨bp,2,none⟩) hbp,hS.cell (p:=⟨bx,0,none⟩) hbx,hS.cell (p:=⟨bx,1,none⟩) hbx,hS.cell (p:=⟨bx,2,none⟩) hbx,hS.cell (p:=⟨Bb,u,none⟩) hBb,hS.cell (p:=⟨Bb,u+1,none⟩) hBb,hS.cell (p:=⟨Bb,u+2,none⟩) hBb⟩
       clear hK K hS;try simp only [Act.put,lt,ly,lu]
       refine wpAnyH_ready (rs:=[0]) (by kernel_rfl) (by simp) (AllReadyH.cons (o:=?oq5) ?eq5 ?kq5 AllReadyH.nil)
       case eq5=>simp only [lg,lz,ls];rfl
       intro K hK
       have DZ:=at_keep HC.out.rz y90_92.out
       obtain ⟨q0,q1,q2⟩:=cells3 DZ
       go_simp
       clear q0 q1 q2 DZ
       refine hK.out _ _ ?_ (fun hHeld2=>?_)
       · (try dsimp only);exact hHeld
       clear hK K hHeld
       try simp only [Act.put,lt,ly,lu]
       have hHeld:=hHeld2
       clear hHeld2
       refine wpAnyH_ready (rs:=[7]) (by kernel_rfl) (by simp) (AllReadyH.cons (o:=?oq6) ?eq6 ?kq6 AllReadyH.nil)
       case eq6=>simp only [lg,lz,ls];rfl
       intro K hK;go_simp;go_at_call 45
       refine (add_val9 ez2.out (hZ.out.keep y90_92.out) hv92.out t3.out t4.out).mono ?_
       rintro e w93 ⟨v93,rfl,hv93,b93⟩
       obtain ⟨C99,j99,C100,j100,rfl,-,-⟩:=id hv93.opened
       replace hv93:=hid hv93
       replace b93:=hid b93
       have y90_93:=hid (Below.step y90_92.out b93.out)
       have hS:=y90_93.out
       clear hHeld
       refine hK.out _ _ ?_ (fun hHeld=>?_)
       · (try dsimp only)
         exact ⟨hS.cell (p:=⟨bp,0,none⟩) hbp,hS.cell (p:=⟨bp,1,none⟩) hbp,hS.cell (p:=⟨bp,2,none⟩) hbp,hS.cell (p:=⟨bx,0,none⟩) hbx,hS.cell (p:=⟨bx,1,none⟩) hbx,hS.cell (p:=⟨bx,2,none⟩) hbx,hS.cell (p:=⟨Bb,u,none⟩) hBb,hS.cell (p:=⟨Bb,u+1,none⟩) hBb,hS.cell (p:=⟨Bb,u+2,none⟩) hBb⟩
       clear hK K hS;try simp only [Act.put,lt,ly,lu]
       refine wpAnyH_ready (rs:=[10]) (by kernel_rfl) (by simp) (AllReadyH.cons (o:=?oq7) ?eq7 ?kq7 AllReadyH.nil)
       case eq7=>simp only [lg,lz,ls];rfl
       intro K hK;go_simp;go_at_call 46
       refine (mul_val9 ep2.out (hp.out.keep y90_93.out) (hX.out.keep y90_93.out) t1.out t5.out).mono ?_
       rintro e w94 ⟨v94,rfl,hv94,b94⟩
       obtain ⟨C101,j101,C102,j102,rfl,-,-⟩:=id hv94.opened
       replace hv94:=hid hv94
       replace b94:=hid b94
       have y90_94:=hid (Below.step y90_93.out b94.out)
       have hS:=y90_94.out
       clear hHeld
       refine hK.out _ _ ?_ (fun hHeld=>?_)
       · (try dsimp only)
         exact ⟨hS.cell (p:=⟨bp,0,none⟩) hbp,hS.cell (p:=⟨bp,1,none⟩) hbp,hS.cell (p:=⟨bp,2,none⟩) hbp,hS.cell (p:=⟨bx,0,none⟩) hbx,hS.cell (p:=⟨bx,1,none⟩) hbx,hS.cell (p:=⟨bx,2,none⟩) hbx,hS.cell (p:=⟨Bb,u,none⟩) hBb,hS.cell (p:=⟨Bb,u+1,none⟩) hBb,hS.cell (p:=⟨Bb,u+2,none⟩) hBb⟩
       clear hK K hS;try simp only [Act.put,lt,ly,lu]
       refine wpAnyH_ready (rs:=[11]) (by kernel_rfl) (by simp) (AllReadyH.cons (o:=?oq8) ?eq8 ?kq8 AllReadyH.nil)
       case eq8=>simp only [lg,lz,ls];rfl
       intro K hK
       have DZ:=at_keep HC.out.rz y90_94.out
       have q0:=cell_of_row _ _ 0 _ _ _ DZ
       have F0:=frozen_of_row w94 bz 0 _ _ DZ
       have q1:=cell_of_row _ _ 1 _ _ _ DZ
       have F1:=frozen_of_row w94 bz 1 _ _ DZ
       have q2:=cell_of_row _ _ 2 _ _ _ DZ
       have F2:=frozen_of_row w94 bz 2 _ _ DZ
       simp only [lg,lz,ls] at q0 q1 q2
       replace DZ:=hid DZ
       go_simp
       clear q0 q1 q2 F0 F1 F2
       have hS:=hid y90_94.out
       obtain ⟨ue,hw⟩:=eX ((((w94.setCell ⟨bz,0,none⟩ (.bool (decide (z2.num<0)))).setCell ⟨bz,1,none⟩ (.slice C99 (Vx.len z2.num.natAbs) j99)).setCell ⟨bz,2,none⟩ (.slice C100 (Vx.len (below z2.den)) j100)))
       obtain ⟨E,OT,LV,BL⟩:=stored3 DZ.out hw
       rw [←hw]
       clear hw
       refine hK.out _ _ ?_ (fun hHeld2=>?_)
       · (try dsimp only)
         exact ⟨(cell_other OT npz (Nat.lt_of_lt_of_le hbp hS.out.size)).trans (hS.out.cell (p:=⟨bp,0,none⟩) hbp),(cell_other OT npz (Nat.lt_of_lt_of_le hbp hS.out.size)).trans (hS.out.cell (p:=⟨bp,1,none⟩) hbp),(cell_other OT npz (Nat.lt_of_lt_of_le hbp hS.out.size)).trans (hS.out.cell (p:=⟨bp,2,none⟩) hbp),(cell_other OT nxz (Nat.lt_of_lt_of_le hbx hS.out.size)).trans (hS.out.cell (p:=⟨bx,0,none⟩) hbx),(cell_other OT nxz (Nat.lt_of_lt_of_le hbx hS.out.size)).trans (hS.out.cell (p:=⟨bx,1,none⟩) hbx),(cell_other OT nxz (Nat.lt_of_lt_of_le hbx hS.out.size)).trans (hS.out.cell (p:=⟨bx,2,none⟩) hbx),(cell_other OT nBz (Nat.lt_of_lt_of_le hBb hS.out.size)).trans (hS.out.cell (p:=⟨Bb,u,none⟩) hBb),(cell_other OT nBz (Nat.lt_of_lt_of_le hBb hS.out.size)).trans (hS.out.cell (p:=⟨Bb,u+1,none⟩) hBb),(cell_other OT nBz (Nat.lt_of_lt_of_le hBb hS.out.size)).trans (hS.out.cell (p:=⟨Bb,u+2,none⟩) hBb)⟩
       clear hK K hHeld
       try simp only [Act.put,lt,ly,lu]
       have HBe:=BL _ _ lw (chain HC.out.hB hS.out)
       have HE2:=hid ((HC.out.keep hS.out).moved OT LV HBe nsz nxz hAz.out hM0.out hT0.out E (LV.num (hv93.out.keep b94.out)))
       have rpe:=OT _ _ npz (at_keep rp.out hS.out)
       have hps:=hid (LV.num hv94.out)
       clear OT LV BL DZ hS E HBe
       refine tk (i:=12) (h:=?_)
       try simp only [Act.put,lt,ly,lu]
       refine wpAnyH_done (by kernel_rfl) ?_ _
       have q0:=cell_of_row _ _ 0 _ _ _ rpe
       have F0:=frozen_of_row ue bp 0 _ _ rpe
       have q1:=cell_of_row _ _ 1 _ _ _ rpe
       have F1:=frozen_of_row ue bp 1 _ _ rpe
       have q2:=cell_of_row _ _ 2 _ _ _ rpe
       have F2:=frozen_of_row ue bp 2 _ _ rpe
       simp only [lg,lz,ls] at q0 q1 q2
       obtain ⟨uf,hw⟩:=eX ((((ue.setCell ⟨bp,0,none⟩ (.bool (decide (p2.num<0)))).setCell ⟨bp,1,none⟩ (.slice C101 (Vx.len p2.num.natAbs) j101)).setCell ⟨bp,2,none⟩ (.slice C102 (Vx.len (below p2.den)) j102)))
       obtain ⟨E,OT,LV,BL⟩:=stored3 rpe hw
       have HBf:=BL _ _ lwp HE2.out.hB
       have FIN:Hid (Ev w mx (some ⟨Bb,o,none⟩) n vals cf bs bx bz bp P1 P2 P3 P4 X1 X2 r1 r2 r3 r4 i1 i2 a b x l (k+1) uf):=hid ⟨_,_,_,_,_,_,_,_,z2,p2,by rw [hst.out],by rw [hst.out],HE2.out.moved OT LV HBf nsp nxp hAp.out hM0.out hT0.out (OT _ _ (Ne.symm npz) HE2.out.rz) (LV.num HE2.out.hz),E,LV.num hps.out⟩
       refine late_do (by rfl) (by rfl) ?_
       clear E OT LV BL HBf
       go_simp
       rw [←hw]
       clear hw q0 q1 q2 F0 F1 F2 rpe
       go_wp2_with fail
       go_roundw
       case rel=>exact ⟨k+1,hkn,by go_num,FIN⟩
       case measure=>simp [intOf];omega
   · obtain rfl:k=n:=Nat.le_antisymm hk hkn
     have hin:decide (k<k)=false:=decide_eq_false (Nat.lt_irrefl _)
     have hev:evalL l x=z:=by rw [←fwd_is,←List.take_of_length_le (l:=l) (i:=k) (by rw [eL.out];exact Nat.le_refl _)];exact ez
     have hev2:=hid hev
     have hn9:=hid hn
     replace HC:=hid HC
     clear ez ep rp hp hev
     go_wp2_with fail
     refine hG.out _ _ ?_
     exact encl_tail HC.out hev2.out eL.out hcf.out hn9.out hax.out hxb.out sa.out sb.out sx.out sc.out hf1.out hf4.out ht.out
end Go.Proofs.YtlcimajjnfbidaaGreatDoor.Rf
namespace Go.Proofs.YtlcimajjnfbidaaGreatDoor
open Lib (hid)
open Vx
theorem div_nonneg {a g:Rat} (hg:0<g) (ha:0≤a):0≤a / g:=by
 rw [Rat.div_def];exact Rat.mul_nonneg ha (Rat.le_of_lt (Rat.inv_pos.2 hg))
theorem nat_le {a b:Nat} (h:a≤b):(a:Rat)≤(b:Rat):=Rat.natCast_le_natCast.2 h
theorem div_mono {a b g:Rat} (hg:0<g) (h:a≤b):a / g≤b / g:=by
 rw [Rat.div_def,Rat.div_def];exact Rat.mul_le_mul_of_nonneg_right h (Rat.le_of_lt (Rat.inv_pos.2 hg))
theorem place_frac {p:Nat} (hp:p≤255):0≤mkRat ((p:Nat):Int) 255∧mkRat ((p:Nat):Int) 255≤1:=by
 have e:mkRat ((p:Nat):Int) 255=(p:Rat) / ((255:Nat):Rat):=by rw [Rat.mkRat_eq_div];rfl
 have h255:(0:Rat)<((255:Nat):Rat):=by decide +kernel
 have h0:(0:Rat)≤(p:Rat):=nat_le (Nat.zero_le p)
 rw [e]
 refine ⟨div_nonneg h255 h0,?_⟩
 have h1:=div_mono h255 (nat_le hp)
 rw [show ((255:Nat):Rat) / ((255:Nat):Rat)=1 by decide +kernel] at h1
 exact h1
theorem place_between {a b:Rat} {p:Nat} (hp:p≤255) (h:a≤b):a≤a+(b - a)*mkRat ((p:Nat):Int) 255∧a+(b - a)*mkRat ((p:Nat):Int) 255≤b:=by
 obtain ⟨h0,h1⟩:=place_frac hp
 have hd:0≤b - a:=by grind
 have h2:=Rat.mul_nonneg hd h0
 have h3:=Rat.mul_le_mul_of_nonneg_left h1 hd
 constructor <;> grind
end Go.Proofs.YtlcimajjnfbidaaGreatDoor
namespace Go.Proofs.YtlcimajjnfbidaaGreatDoor.Rf
open Lib (hid)
open Go.RowKit
open Rx
open Vx (siz siz_num siz_den)
open List renaming getElem?_toArray → lg, getElem?_cons_zero → lz, getElem?_cons_succ → ls, setIfInBounds_toArray → lt, set_cons_zero → ly, set_cons_succ → lu
theorem at_val2 {w:World} {v:Value} {a b x:Rat} {p:Nat} (e:a+(b - a)*mkRat ((p:Nat):Int) 255=x) (hv:IsBox w v a b) (hp:p≤255) (sa:siz a≤2000) (sb:siz b≤2000):Calls Tryz.prog 43 #[v,.int .u8 (p:Nat)] w (NumRet w x):=by
 rw [←e];exact at_any hv hp (Nat.le_trans sa (by omega)) (Nat.le_trans sb (by omega))
theorem vals_lt {W:World} {A:Option Addr} {n:Nat} {vals:Nat→Value} (h:ValsAt W A n vals):0<n→∀ b o,A=some ⟨b,o,none⟩→b<W.heap.size:=by
 intro hn b o e
 obtain ⟨b',o',s,A1,n1,c1,A2,n2,c2,e',hv,z0,z1,z2⟩:=h 0 hn
 rw [e] at e'
 obtain ⟨rfl,rfl⟩:b=b'∧o=o':=by simpa using e'
 exact World.block_lt_of_cell? W _ z0
theorem encl_sizes {s1 s2:ByteArray} {p q a b x:Rat} {pl:Nat} (ep:(parseV s1).1=p) (eq:(parseV s2).1=q) (la:a=if q<p then q else p) (lb:b=if q<p then p else q) (ex:a+(b - a)*mkRat ((pl:Nat):Int) 255=x) (h1:s1.size≤20) (h2:s2.size≤20) (hp:pl≤255):a≤x∧x≤b∧siz a≤2000∧siz b≤2000∧siz x≤10000:=by
 have k1:=parse_siz_le s1
 have k2:=parse_siz_le s2
 rw [ep] at k1
 rw [eq] at k2
 have hab:a≤b:=by
   rw [la,lb]
   split
   · rename_i k;exact Rat.le_of_lt k
   · rename_i k;exact Rat.not_lt.1 k
 have sa:siz a≤2000:=by rw [la];split <;> omega
 have sb:siz b≤2000:=by rw [lb];split <;> omega
 obtain ⟨i1,i2⟩:=place_between hp hab
 rw [ex] at i1 i2
 have j1:=Vx.siz_sub b a
 have j2:=Vx.siz_mul (b - a) (mkRat ((pl:Nat):Int) 255)
 have j3:=Vx.siz_add a ((b - a)*mkRat ((pl:Nat):Int) 255)
 have j4:=siz_ratio hp
 rw [ex] at j3
 exact ⟨i1,i2,sa,sb,by omega⟩
theorem encl_mid {w wa:World} {mx:Int} {A:Option Addr} {n:Nat} {vals:Nat→Value} {cf:Nat→Rat} {l:List Rat} {nn t pl cap be:Nat} {s1 s2:ByteArray} {y0 y1 y2 y3 y9 y10 y11 y12 y13 y14 y15 y16 y17 y18 y19 y20 y21 y22 y23 y24 y25 y26 y27 y28 y29 y30 y31 y32 y33 y34 y35 y36 y37 y38 y39 y40 y41 y42 y43 y44 y45 y46 y47 y48 y49 y50 y51 y52 y53 y54 y55 y56 y57 y58 y59 y60 y61 y62 y63 y64 y65 y66 y67 y68 y69 y70 y71 y72 y73 y74 y75 y76 y77 y78 y79 y80 y81 y82 y83 y84 y85 y86 y87 y88 y89 y90 y91 y92 y93 y94 y95 y96 y97 y98 y99 y100 y101 y102 y103 y104 y105 y106 y107 y108 y109 y110 y111 y112 y113 y114 y115 y116 y117 y118 y119 y120 y121 y122 y123 y124 y125 y126 y127 y128 y129 y130 y131 y132 y133 y134 y135 y136 y137 y138 y139 y140 y141 y142 y143 y144 y145 y146 y147 y148 y149 y150 y151 y152 y153 y154 y155 y156 y157 y158 y159 y160 y161 y162 y163 y164:Value} (hl:NumsV wa A n vals cf) (re:wa.heap[be]?=some (.cells #[.string s1,.string s2] 46 (0,0))) (hM0:w.cell? ⟨1,0,none⟩=some (.int .i64 mx)) (hT0:TabAt 0 Lib.deBruijn64tab w) (hB:Below w.heap.size w wa) (h1:s1.size≤20) (h2:s2.size≤20) (eL:l.length=n) (hcf:∀ j,j<n→l[j]?=some (cf j)) (hn:n≤8) (sc:∀ j,j<n→siz (cf j)≤100000) (ht:t≤255) (hnn:nn≤255) (hp:pl≤255) :
   (codeAt 5 Tryz.f6).wp Tryz.prog (bodyPost Tryz.prog Tryz.f6 (BoolRet w true)) { tmps:=#[y0,y1,y2,y3,.pointer (some ⟨be,0,none⟩),.int .u8 ((nn:Nat):Int),.int .u8 ((t:Nat):Int),.int .u8 ((pl:Nat):Int),.slice A n cap,y9,y10,y11,y12,y13,y14,y15,y16,y17,y18,y19,y20,y21,y22,y23,y24,y25,y26,y27,y28,y29,y30,y31,y32,y33,y34,y35,y36,y37,y38,y39,y40,y41,y42,y43,y44,y45,y46,y47,y48,y49,y50,y51,y52,y53,y54,y55,y56,y57,y58,y59,y60,y61,y62,y63,y64,y65,y66,y67,y68,y69,y70,y71,y72,y73,y74,y75,y76,y77,y78,y79,y80,y81,y82,y83,y84,y85,y86,y87,y88,y89,y90,y91,y92,y93,y94,y95,y96,y97,y98,y99,y100,y101,y102,y103,y104,y105,y106,y107,y108,y109,y110,y111,y112,y113,y114,y115,y116,y117,y118,y119,y120,y121,y122,y123,y124,y125,y126,y127,y128,y129,y130,y131,y132,y133,y134,y135,y136,y137,y138,y139,y140,y141,y142,y143,y144,y145,y146,y147,y148,y149,y150,y151,y152,y153,y154,y155,y156,y157,y158,y159,y160,y161,y162,y163,y164],defers:=[] } wa:=by
 obtain ⟨f,hf⟩:=eX (1+nn%4:Nat)
 have hf4:f≤4:=by omega
 have hf1:0<f:=by omega
 have hmi:Int.tmod ((nn:Nat):Int) 4=(((f - 1:Nat)):Int):=by rw [Int.tmod_eq_emod_of_nonneg (by omega)];omega
 have hmi2:((nn:Nat):Int)%4=(((f - 1:Nat)):Int):=by omega
 have hmi3:(1:Int)+(((f - 1:Nat)):Int)=((f:Nat):Int):=by omega
 have fi:((f:Nat):Int)≤4:=by omega
 have fi2:(((f - 1:Nat)):Int)≤3:=by omega
 have hw64:=i64_small (show f - 1≤255 by omega)
 have hn255:((nn:Nat):Int)≤255:=by omega
 have hp255:((pl:Nat):Int)≤255:=by omega
 obtain ⟨p,ep⟩:=eY ((parseV s1).1)
 obtain ⟨q,eq⟩:=eY ((parseV s2).1)
 obtain ⟨a,la⟩:∃ v,v=if q<p then q else p:=⟨_,rfl⟩
 obtain ⟨b,lb⟩:∃ v,v=if q<p then p else q:=⟨_,rfl⟩
 obtain ⟨x,ex⟩:=eY (a+(b - a)*mkRat ((pl:Nat):Int) 255)
 obtain ⟨hax,hxb,sa,sb,sx⟩:=encl_sizes ep eq la lb ex h1 h2 hp
 have hvl:=vals_lt hl.1
 obtain ⟨po,epo⟩:=eY (((1:Int):Rat))
 clear h1 h2 hnn hf
 replace hl:=hid hl
 replace re:=hid re
 replace hM0:=hid hM0
 replace hT0:=hid hT0
 replace hB:=hid hB
 replace eL:=hid eL
 replace hcf:=hid hcf
 replace sc:=hid sc
 replace ht:=hid ht
 replace hp:=hid hp
 replace ep:=hid ep
 replace eq:=hid eq
 replace la:=hid la
 replace lb:=hid lb
 replace ex:=hid ex
 replace hax:=hid hax
 replace hxb:=hid hxb
 replace sa:=hid sa
 replace sb:=hid sb
 replace sx:=hid sx
 replace hvl:=hid hvl
 replace epo:=hid epo
 replace hf1:=hid hf1
 replace hf4:=hid hf4
 replace hn:=hid hn
 show Code.wp _ (Code.seq _ _) _ _ _
 refine wp_seq_k ?_
 intro G1 hG1
 replace hG1:=hid hG1
 have hg:wa.heap[be]?=some (.cells #[.string s1,.string s2] 46 (0,0)):=((Below.refl _ wa).block _ (Array.getElem?_eq_some_iff.1 re.out).1).trans re.out
 have z_e_0:wa.cell? ⟨be,0,none⟩=some (.string s1):=cell_of_row _ _ _ _ _ _ hg
 have z_e_1:wa.cell? ⟨be,1,none⟩=some (.string s2):=cell_of_row _ _ _ _ _ _ hg
 clear hg
 have HX:=hid (box_to (cell_keep hM0.out hB.out) ep.out eq.out la.out lb.out)
 go_wp2_with fail
 refine (HX.out).mono ?_
 rintro e w1 ⟨v1,rfl,hv1,b1⟩
 obtain ⟨C1,j1,C2,j2,C3,j3,C4,j4,rfl,-,-,-,-⟩:=id hv1.opened
 replace hv1:=hid hv1
 replace b1:=hid b1
 clear HX
 clear z_e_0 z_e_1
 go_wp2_with fail
 obtain ⟨w2,hw2⟩:=eX (w1.alloc (.cells #[.bool (decide (a.num<0)),.slice C1 (Vx.len a.num.natAbs) j1,.slice C2 (Vx.len (below a.den)) j2,.bool (decide (b.num<0)),.slice C3 (Vx.len b.num.natAbs) j3,.slice C4 (Vx.len (below b.den)) j4] 48))
 have b2:=hid (newb1 hw2)
 have L2:=hid (newz1 hw2)
 rw [←hw2]
 clear hw2
 refine hG1.out _ _ ?_
 clear hG1
 show Code.wp _ (Code.seq _ _) _ _ _
 refine wp_seq_k ?_
 intro G2 hG2
 replace hG2:=hid hG2
 obtain ⟨z_s_0,z_s_1,z_s_2,z_s_3,z_s_4,z_s_5⟩:=cells6 L2.out
 have HX:=hid (at_val2 ex.out (hv1.out.keep b2.out) hp.out sa.out sb.out)
 go_wp2_with fail
 refine (HX.out).mono ?_
 rintro e w3 ⟨v3,rfl,hv3,b3⟩
 obtain ⟨C5,j5,C6,j6,rfl,-,-⟩:=id hv3.opened
 replace hv3:=hid hv3
 replace b3:=hid b3
 clear HX
 clear z_s_0 z_s_1 z_s_2 z_s_3 z_s_4 z_s_5
 go_wp2_with fail
 obtain ⟨w4,hw4⟩:=eX (w3.alloc (.cells #[.bool (decide (x.num<0)),.slice C5 (Vx.len x.num.natAbs) j5,.slice C6 (Vx.len (below x.den)) j6] 31))
 have b4:=hid (newb1 hw4)
 have L4:=hid (newz1 hw4)
 rw [←hw4]
 clear hw4
 refine hG2.out _ _ ?_
 clear hG2
 show Code.wp _ (Code.seq _ _) _ _ _
 refine wp_seq_k ?_
 intro G3 hG3
 replace hG3:=hid hG3
 have HX:=hid (whole_val (w:=w4) (by omega) (by omega) epo.out)
 go_wp2_with fail
 refine (HX.out).mono ?_
 rintro e w5 ⟨v5,rfl,hv5,b5⟩
 obtain ⟨C7,j7,C8,j8,rfl,-,-⟩:=id hv5.opened
 replace hv5:=hid hv5
 replace b5:=hid b5
 clear HX
 go_wp2_with fail
 obtain ⟨w6,hw6⟩:=eX ((w5.alloc (.cells #[.bool false,.slice none 0 0,.slice none 0 0] 31)).alloc (.cells #[.bool (decide (po.num<0)),.slice C7 (Vx.len po.num.natAbs) j7,.slice C8 (Vx.len (below po.den)) j8] 31))
 obtain ⟨b6,L6,M6⟩:=newz2 hw6
 rw [←hw6]
 clear hw6
 replace b6:=hid b6
 replace L6:=hid L6
 replace M6:=hid M6
 obtain ⟨bz,hbz⟩:=eY w5.heap.size
 have hb0:wa.heap.size≤bz:=by rw [←hbz];exact (Below.step (Below.step (Below.step (Below.step b1.out b2.out) b3.out) b4.out) b5.out).size
 have y2_6:=hid (Below.step (Below.step (Below.step b3.out b4.out) b5.out) b6.out)
 have y4_6:=hid (Below.step b5.out b6.out)
 have y0_6:=hid (Below.step (Below.step (Below.step (Below.step (Below.step b1.out b2.out) b3.out) b4.out) b5.out) b6.out)
 have y1_6:=hid (Below.step (Below.step (Below.step (Below.step b2.out b3.out) b4.out) b5.out) b6.out)
 have y3_6:=hid (Below.step (Below.step b4.out b5.out) b6.out)
 obtain ⟨bs,hbs⟩:=eY w1.heap.size
 obtain ⟨bx,hbx⟩:=eY w3.heap.size
 have ls:bs<bz:=by rw [←hbz,←hbs];exact at_lt (at_keep L2.out (Below.step (Below.step b3.out b4.out) b5.out))
 have lx:bx<bz:=by rw [←hbz,←hbx];exact at_lt (at_keep L4.out b5.out)
 have LZ:w6.heap[bz]?=some (.cells #[.bool (decide ((0:Rat).num<0)),.slice none (Vx.len (0:Rat).num.natAbs) 0,.slice none (Vx.len (below (0:Rat).den)) 0] 31 (0,0)):=by rw [←hbz];exact L6.out
 have HZ:IsNum w6 (.agg #[.bool (decide ((0:Rat).num<0)),.slice none (Vx.len (0:Rat).num.natAbs) 0,.slice none (Vx.len (below (0:Rat).den)) 0]) 0:=zero_num w6
 have rs:=at_keep L2.out y2_6.out
 have rx:=at_keep L4.out y4_6.out
 rw [hbs] at rs
 rw [hbx] at rx
 have HB:=hid (chain hB.out y0_6.out)
 have lw:w.heap.size≤bz:=by have:=hB.out.size;omega
 have rp:=M6.out
 rw [hbz] at rp
 have HC:=hid (En.mk (w:=w) (hl.out.keep y0_6.out) rs (hv1.out.keep y1_6.out) rx (hv3.out.keep y3_6.out) LZ HZ (cell_keep hM0.out (chain hB.out y0_6.out)) (tab_keep hT0.out (chain hB.out y0_6.out)) HB.out)
 have hpo:=hid (hv5.out.keep b6.out)
 try rw [hbz]
 try rw [hbs]
 try rw [hbx]
 refine hG3.out _ _ ?_
 exact encl_loop HC.out rp hpo.out rfl epo.out ls lx (Nat.lt_succ_self bz) lw (fun h b o e=>Nat.lt_of_lt_of_le (hvl.out h b o e) hb0) hM0.out hT0.out eL.out hcf.out hn.out hax.out hxb.out sa.out sb.out sx.out sc.out hf1.out hf4.out ht.out
end Go.Proofs.YtlcimajjnfbidaaGreatDoor.Rf
namespace Go.Proofs.YtlcimajjnfbidaaGreatDoor.Rf
open Lib (hid)
open Go.RowKit
open Rx
open Vx (siz siz_num siz_den)
open List renaming getElem?_toArray → lg, getElem?_cons_zero → lz, getElem?_cons_succ → ls, setIfInBounds_toArray → lt, set_cons_zero → ly, set_cons_succ → lu
def Cs (wa:World) (ss:List ByteArray) (k:Nat) (cv:Value) (wr:World):Prop:=Grow IsNum 31 wa.heap.size wr cv (vals (ss.take k))∧Below wa.heap.size wa wr∧∀ s∈ss.take k,s.size≤20
theorem nums_values {W:World} {g:Nat} {l:List Rat} (h:NumsAt W g 0 l):∃ vf:Nat→Value,NumsV W (some ⟨g,0,none⟩) l.length vf (fun j=>l.getD j 0):=by
 have hx:∀ j:Nat,∃ v:Value,j<l.length→(∃ s A1 n1 c1 A2 n2 c2,v=.agg #[.bool s,.slice A1 n1 c1,.slice A2 n2 c2]∧W.cell? ⟨g,0+j*3,none⟩=some (.bool s)∧W.cell? ⟨g,0+j*3+1,none⟩=some (.slice A1 n1 c1)∧W.cell? ⟨g,0+j*3+2,none⟩=some (.slice A2 n2 c2))∧IsNum W v (l.getD j 0):=by
   intro j
   rcases Nat.lt_or_ge j l.length with hj | hj
   · obtain ⟨s,A1,n1,c1,A2,n2,c2,y0,y1,y2,hq⟩:=h j l[j] (by simp [hj])
     exact ⟨_,fun _=>⟨⟨s,A1,n1,c1,A2,n2,c2,rfl,y0,y1,y2⟩,by simpa [List.getD,hj] using hq⟩⟩
   · exact ⟨undef,fun h=>absurd h (by omega)⟩
 obtain ⟨vf,hvf⟩:=Classical.axiomOfChoice hx
 refine ⟨vf,fun j hj=>?_,fun j hj=>(hvf j hj).2⟩
 obtain ⟨⟨s,A1,n1,c1,A2,n2,c2,e,y0,y1,y2⟩,-⟩:=hvf j hj
 exact ⟨g,0,s,A1,n1,c1,A2,n2,c2,rfl,e,y0,y1,y2⟩
theorem coefs_siz {ss:List ByteArray} (h:∀ s∈ss,s.size≤20):∀ j,j<(vals ss).length→siz ((vals ss).getD j 0)≤100000:=by
 intro j hj
 have hm:(vals ss).getD j 0∈vals ss:=by
   have:(vals ss).getD j 0=(vals ss)[j]:=by simp [List.getD,hj]
   rw [this];exact List.getElem_mem hj
 obtain ⟨s,hs,e⟩:=List.mem_map.1 hm
 rw [←e]
 have h1:=parse_siz_le s
 have h2:=h s hs
 omega
theorem encl_list {w wa:World} {mx:Int} {ad:Option Addr} {ss:List ByteArray} {nn t pl c1 be:Nat} {s1 s2:ByteArray} {y0 y1 y2 y8 y9 y10 y11 y12 y13 y14 y15 y16 y17 y18 y19 y20 y21 y22 y23 y24 y25 y26 y27 y28 y29 y30 y31 y32 y33 y34 y35 y36 y37 y38 y39 y40 y41 y42 y43 y44 y45 y46 y47 y48 y49 y50 y51 y52 y53 y54 y55 y56 y57 y58 y59 y60 y61 y62 y63 y64 y65 y66 y67 y68 y69 y70 y71 y72 y73 y74 y75 y76 y77 y78 y79 y80 y81 y82 y83 y84 y85 y86 y87 y88 y89 y90 y91 y92 y93 y94 y95 y96 y97 y98 y99 y100 y101 y102 y103 y104 y105 y106 y107 y108 y109 y110 y111 y112 y113 y114 y115 y116 y117 y118 y119 y120 y121 y122 y123 y124 y125 y126 y127 y128 y129 y130 y131 y132 y133 y134 y135 y136 y137 y138 y139 y140 y141 y142 y143 y144 y145 y146 y147 y148 y149 y150 y151 y152 y153 y154 y155 y156 y157 y158 y159 y160 y161 y162 y163 y164:Value} (hS:StrsAt wa ad ss) (hn:ss.length≤8) (re:wa.heap[be]?=some (.cells #[.string s1,.string s2] 46 (0,0))) (hM0:w.cell? ⟨1,0,none⟩=some (.int .i64 mx)) (hT0:TabAt 0 Lib.deBruijn64tab w) (hB:Below w.heap.size w wa) (h1:s1.size≤20) (h2:s2.size≤20) (ht:t≤255) (hnn:nn≤255) (hp:pl≤255) :
   (codeAt 3 Tryz.f6).wp Tryz.prog (bodyPost Tryz.prog Tryz.f6 (BoolRet w true)) { tmps:=#[y0,y1,y2,.slice ad ss.length c1,.pointer (some ⟨be,0,none⟩),.int .u8 ((nn:Nat):Int),.int .u8 ((t:Nat):Int),.int .u8 ((pl:Nat):Int),y8,y9,y10,y11,y12,y13,y14,y15,y16,y17,y18,y19,y20,y21,y22,y23,y24,y25,y26,y27,y28,y29,y30,y31,y32,y33,y34,y35,y36,y37,y38,y39,y40,y41,y42,y43,y44,y45,y46,y47,y48,y49,y50,y51,y52,y53,y54,y55,y56,y57,y58,y59,y60,y61,y62,y63,y64,y65,y66,y67,y68,y69,y70,y71,y72,y73,y74,y75,y76,y77,y78,y79,y80,y81,y82,y83,y84,y85,y86,y87,y88,y89,y90,y91,y92,y93,y94,y95,y96,y97,y98,y99,y100,y101,y102,y103,y104,y105,y106,y107,y108,y109,y110,y111,y112,y113,y114,y115,y116,y117,y118,y119,y120,y121,y122,y123,y124,y125,y126,y127,y128,y129,y130,y131,y132,y133,y134,y135,y136,y137,y138,y139,y140,y141,y142,y143,y144,y145,y146,y147,y148,y149,y150,y151,y152,y153,y154,y155,y156,y157,y158,y159,y160,y161,y162,y163,y164],defers:=[] } wa:=by
 replace hS:=hid hS
 replace re:=hid re
 replace hM0:=hid hM0
 replace hT0:=hid hT0
 replace hB:=hid hB
 replace h1:=hid h1
 replace h2:=hid h2
 replace ht:=hid ht
 replace hnn:=hid hnn
 replace hp:=hid hp
 have hn8:((ss.length:Nat):Int)≤8:=by omega
 show Code.wp _ (Code.seq _ _) _ _ _
 go_upto_region 5 with fail
 obtain ⟨v0,hv0⟩:=eX (wa.alloc (.cells #[] 31))
 have HR:Hid (Cs wa ss 0 (.slice (some ⟨wa.heap.size,0,none⟩) 0 0) v0):=hid ⟨by rw [hv0];exact grow_nil (Nat.le_refl _),newb1 hv0,by simp⟩
 rw [←hv0]
 clear hv0
 rename_i G hG Gb hGb
 replace hG:=hid hG
 go_wp2_with fail
 go_loopw [8,9] (fun cv iv wr=>∃ k:Nat,k≤ss.length∧iv=.int .i64 ((k:Nat):Int)∧Hid (Cs wa ss k cv wr)) (fun _ iv _=>ss.length - (intOf iv).toNat)
 case atStart=>exact ⟨0,Nat.zero_le _,rfl,HR⟩
 case round =>
   obtain ⟨k,hk,rfl,hrel⟩:=hrel
   clear HR
   rcases Nat.lt_or_ge k ss.length with hkn | hkn
   · have hin:decide (k<ss.length)=true:=decide_eq_true hkn
     obtain ⟨s,hs⟩:∃ q,ss[k]?=some q:=⟨ss[k],by simp [hkn]⟩
     obtain ⟨b,o,eA,z0⟩:=hS.out.keep hrel.out.2.1 k s hs
     have HB:=hid (chain hB.out hrel.out.2.1)
     have hS':=hS.out
     rw [eA] at hS'
     replace hS':=hid hS'
     clear hS
     subst eA
     replace hs:=hid hs
     obtain ⟨q,eq⟩:=eY ((parseV s).1)
     rcases Decidable.em (20<s.size) with hl | hl
     · have d1:decide (((s.size:Nat):Int)>20)=true:=decide_eq_true (by omega)
       have d1':((s.size:Nat):Int)>20:=by omega
       clear hl
       have HX:=hid (known_any (cell_keep hM0.out HB.out) (tab_keep hT0.out HB.out))
       go_wp2_with fail
       refine (HX.out).mono ?_
       rintro e w3 ⟨rfl,b3⟩
       have HE:=hid (chain HB.out b3)
       clear HX b3
       go_wp2_with fail
       go_ret
       exact ⟨rfl,HE.out⟩
     · have d1:decide (((s.size:Nat):Int)>20)=false:=decide_eq_false (by omega)
       have d1':¬ ((s.size:Nat):Int)>20:=by omega
       replace hl:=hid hl
       replace eq:=hid eq
       have HX:=hid (number_to (cell_keep hM0.out HB.out) eq.out)
       go_wp2_with fail
       refine (HX.out).mono ?_
       rintro e w91 ⟨v91,rfl,hv91,b91⟩
       obtain ⟨C91,j91,C92,j92,rfl,-,-⟩:=id hv91.opened
       replace hv91:=hid hv91
       replace b91:=hid b91
       clear HX
       obtain ⟨v1,hv1⟩:=eX (w91.alloc (.cells #[.bool (decide (q.num<0)),.slice C91 (Vx.len q.num.natAbs) j91,.slice C92 (Vx.len (below q.den)) j92] 31))
       have b92:=hid (newb1 hv1)
       have L92:=newz1 hv1
       replace hv1:=hid hv1
       have bb:=Below.step b91.out b92.out
       have HG:=hid (hrel.out.1.keep bb (fun _ _ h=>h.keep bb))
       have HB2:=chain hrel.out.2.1 bb
       have hln:=vals_len ss k hk
       have l56:((vals (ss.take k)).length+1)*56≤140737488355328:=by rw [hln];omega
       have lM:(vals (ss.take k)).length+1≤maxLen:=by rw [hln];unfold maxLen;omega
       have HQ:=hid (hv91.out.keep b92.out)
       replace HB2:=hid HB2
       replace L92:=hid L92
       replace l56:=hid l56
       replace lM:=hid lM
       clear bb b91 b92 hv91 hln
       go_wp2_with (at_builtin;refine wpList_plain rfl fun K hK=>?_;rw [←hv1.out];refine wp_push rfl (e:=31) Tryz.underlying23 infoNum liveNum rfl HG.out rfl L92.out HQ.out l56.out lM.out HB2.out.size ?_;intro cv2 v2 hG2 LV GR hO;refine hK _ _ ?_;clear hK K)
       rw [←eq.out,vals_step hs.out] at hG2
       have HR2:Hid (Cs wa ss (k+1) cv2 v2):=hid ⟨hG2,Below.grown HB2.out GR HB2.out.size (fun j hj=>(HG.out.own j hj).1),by
         rw [List.take_add_one,hs.out,Option.toList_some]
         intro x hx
         rcases List.mem_append.1 hx with hx | hx
         · exact hrel.out.2.2 x hx
         · obtain rfl:=List.mem_singleton.1 hx
           exact Nat.not_lt.1 hl.out⟩
       clear hG2 LV GR hO HG HB2 L92 HQ l56 lM hrel hv1
       go_wp2_with fail
       go_roundw
       case rel=>exact ⟨k+1,hkn,by go_num,HR2⟩
       case measure=>simp [intOf];omega
   · obtain rfl:k=ss.length:=Nat.le_antisymm hk hkn
     have hin:decide (ss.length<ss.length)=false:=decide_eq_false (Nat.lt_irrefl _)
     obtain ⟨hg,hb,h20⟩:=hrel.out
     rw [List.take_length] at hg h20
     obtain ⟨g,cap,rfl,hnums⟩:=hg.nums
     obtain ⟨vf,hV⟩:=nums_values hnums
     have hlen:=vals_len ss ss.length (Nat.le_refl _)
     rw [List.take_length] at hlen
     have hsc:=hid (coefs_siz h20)
     have hl8:=hid (show (vals ss).length≤8 by omega)
     replace hV:=hid hV
     replace hb:=hid hb
     clear hg h20 hnums hlen hrel
     go_wp2_with fail
     refine hG.out _ _ ?_
     exact encl_mid hV.out (at_keep re.out hb.out) hM0.out hT0.out (chain hB.out hb.out) h1.out h2.out rfl (fun j hj=>by simp [List.getD,hj]) hl8.out hsc.out ht.out hnn.out hp.out
end Go.Proofs.YtlcimajjnfbidaaGreatDoor.Rf
namespace Go.Proofs.YtlcimajjnfbidaaGreatDoor.Rf
open Lib (hid)
open Go.RowKit
open Rx
open Vx (siz siz_num siz_den)
open List renaming getElem?_toArray → lg, getElem?_cons_zero → lz, getElem?_cons_succ → ls, setIfInBounds_toArray → lt, set_cons_zero → ly, set_cons_succ → lu
theorem stored_ends {w w':World} {b:Nat} {T:TypeId} {x1 x2 s1 s2:ByteArray} (L:w.heap[b]?=some (.cells #[.string x1,.string x2] T (0,0))) (hw:w'=((w.setCell ⟨b,0,none⟩ (.string s1)).setCell ⟨b,1,none⟩ (.string s2))) :
   w'.heap[b]?=some (.cells #[.string s1,.string s2] T (0,0))∧(∀ (N:Nat) (wB:World),N≤b→Below N wB w→Below N wB w'):=by
 have g1:=heap_setCell_same w b 0 _ _ (.string s1) L
 have g2:=heap_setCell_same _ b 1 _ _ (.string s2) g1
 refine ⟨by rw [hw,g2];rfl,fun N wB hN hB=>?_⟩
 rw [hw];exact ((hB.setCell (p:=⟨b,0,none⟩) hN _).setCell (p:=⟨b,1,none⟩) hN _)
theorem cells2s {w:World} {b:Nat} {T:TypeId} {s1 s2:ByteArray} (L:w.heap[b]?=some (.cells #[.string s1,.string s2] T (0,0))):w.cell? ⟨b,0,none⟩=some (.string s1)∧w.cell? ⟨b,1,none⟩=some (.string s2):=⟨cell_of_row _ _ 0 _ _ _ L,cell_of_row _ _ 1 _ _ _ L⟩
theorem enclLaw_any {w:World} {mx:Int} {ad:Option Addr} {c1 nn t pl:Nat} {ss:List ByteArray} {s1 s2:ByteArray} (hS:StrsAt w ad ss) (m1:ss.length≤9223372036854775807) (ht:t≤255) (hnn:nn≤255) (hp:pl≤255) (hM:w.cell? ⟨1,0,none⟩=some (.int .i64 mx)) (hT:TabAt 0 Lib.deBruijn64tab w) :
   Calls Tryz.prog 6 #[.agg #[.slice ad ss.length c1,.string s1,.string s2,.int .u8 ((nn:Nat):Int),.int .u8 ((t:Nat):Int),.int .u8 ((pl:Nat):Int)]] w (BoolRet w true):=by
 have hn9:((ss.length:Nat):Int)≤9223372036854775807:=by omega
 have t255:((t:Nat):Int)≤255:=by omega
 have n255:((nn:Nat):Int)≤255:=by omega
 have p255:((pl:Nat):Int)≤255:=by omega
 obtain ⟨w1,hw1⟩:=eX (w.alloc (.cells #[.slice ad ss.length c1,.string s1,.string s2,.int .u8 ((nn:Nat):Int),.int .u8 ((t:Nat):Int),.int .u8 ((pl:Nat):Int)] 78))
 have b1:=alloc_below w (.cells #[.slice ad ss.length c1,.string s1,.string s2,.int .u8 ((nn:Nat):Int),.int .u8 ((t:Nat):Int),.int .u8 ((pl:Nat):Int)] 78)
 have g1:=heap_alloc_new w (.cells #[.slice ad ss.length c1,.string s1,.string s2,.int .u8 ((nn:Nat):Int),.int .u8 ((t:Nat):Int),.int .u8 ((pl:Nat):Int)] 78)
 rw [←hw1] at b1 g1
 obtain ⟨B,hB⟩:=eY w.heap.size
 have hBl:B<w1.heap.size:=by rw [←hB];exact at_lt g1
 rw [hB] at g1
 obtain ⟨k0,k1,k2,k3,k4,k5⟩:=cells6 g1
 replace b1:=hid b1
 clear g1
 replace hS:=hid hS
 replace hM:=hid hM
 replace hT:=hid hT
 replace ht:=hid ht
 replace hnn:=hid hnn
 replace hp:=hid hp
 go_enter Tryz.func6,Tryz.ntmps6
 go_upto_region 1 with fail
 rw [←hw1]
 try rw [hB]
 clear hw1
 go_wp2_with fail
 refine wp_region_held_drew (S:=(fun w'=>(w'.cell? ⟨B,0,none⟩=some (.slice ad ss.length c1)∧w'.cell? ⟨B,1,none⟩=some (.string s1)∧w'.cell? ⟨B,2,none⟩=some (.string s2)∧w'.cell? ⟨B,3,none⟩=some (.int .u8 ((nn:Nat):Int))∧w'.cell? ⟨B,4,none⟩=some (.int .u8 ((t:Nat):Int))∧w'.cell? ⟨B,5,none⟩=some (.int .u8 ((pl:Nat):Int))))) (by kernel_rfl) ?_ (fun hHeld=>?_)
 · (try dsimp only)
   exact ⟨k0,k1,k2,k3,k4,k5⟩
 obtain ⟨w2,hw2⟩:=eX w1.drew
 have b2:Hid (Below w1.heap.size w1 w2):=hid (by rw [hw2];exact ⟨rfl,rfl,rfl,Nat.le_refl _,fun _ _=>rfl⟩)
 rw [←hw2] at hHeld ⊢
 clear hw2 k0 k1 k2 k3 k4 k5
 have hBl2:=Nat.lt_of_lt_of_le hBl b2.out.size
 have hS2:=hid hHeld
 refine tk (i:=0) (h:=?_)
 try simp only [Act.put,lt,ly,lu]
 refine tk (i:=1) (h:=?_)
 try simp only [Act.put,lt,ly,lu]
 refine tk (i:=2) (h:=?_)
 try simp only [Act.put,lt,ly,lu]
 refine tk (i:=3) (h:=?_)
 try simp only [Act.put,lt,ly,lu]
 refine tk (i:=4) (h:=?_)
 try simp only [Act.put,lt,ly,lu]
 refine tk (i:=5) (h:=?_)
 try simp only [Act.put,lt,ly,lu]
 refine tk (i:=6) (h:=?_)
 try simp only [Act.put,lt,ly,lu]
 refine tk (i:=7) (h:=?_)
 try simp only [Act.put,lt,ly,lu]
 refine tk (i:=8) (h:=?_)
 try simp only [Act.put,lt,ly,lu]
 refine tk (i:=9) (h:=?_)
 try simp only [Act.put,lt,ly,lu]
 refine wpAnyH_ready (rs:=[10]) (by kernel_rfl) (by simp) (AllReadyH.cons (o:=?oA) ?eA ?kA AllReadyH.nil)
 case eA=>simp only [lg,lz,ls];rfl
 intro K hK
 go_simp
 obtain ⟨w3,hw3⟩:=eX (w2.alloc (.cells #[.string ⟨#[]⟩,.string ⟨#[]⟩] 46))
 have b3:=hid (newb1 hw3)
 have L3:=hid (newz1 hw3)
 obtain ⟨be,hbe⟩:=eY w2.heap.size
 rw [hbe] at L3
 have hbel:be<w3.heap.size:=at_lt L3.out
 rw [←hw3,hbe]
 clear hw3
 have hS3:Hid ((fun w'=>(w'.cell? ⟨B,0,none⟩=some (.slice ad ss.length c1)∧w'.cell? ⟨B,1,none⟩=some (.string s1)∧w'.cell? ⟨B,2,none⟩=some (.string s2)∧w'.cell? ⟨B,3,none⟩=some (.int .u8 ((nn:Nat):Int))∧w'.cell? ⟨B,4,none⟩=some (.int .u8 ((t:Nat):Int))∧w'.cell? ⟨B,5,none⟩=some (.int .u8 ((pl:Nat):Int)))) w3):=hid ⟨(b3.out.cell (p:=⟨B,0,none⟩) hBl2).trans (hS2.out.1),(b3.out.cell (p:=⟨B,1,none⟩) hBl2).trans (hS2.out.2.1),(b3.out.cell (p:=⟨B,2,none⟩) hBl2).trans (hS2.out.2.2.1),(b3.out.cell (p:=⟨B,3,none⟩) hBl2).trans (hS2.out.2.2.2.1),(b3.out.cell (p:=⟨B,4,none⟩) hBl2).trans (hS2.out.2.2.2.2.1),(b3.out.cell (p:=⟨B,5,none⟩) hBl2).trans (hS2.out.2.2.2.2.2)⟩
 clear hHeld
 refine hK.out _ _ ?_ (fun hHeld=>?_)
 · (try dsimp only);exact hS3.out
 clear hK K
 try simp only [Act.put,lt,ly,lu]
 refine tk (i:=11) (h:=?_)
 try simp only [Act.put,lt,ly,lu]
 refine wpAnyH_ready (rs:=[12]) (by kernel_rfl) (by simp) (AllReadyH.cons (o:=?oB) ?eB ?kB AllReadyH.nil)
 case eB=>simp only [lg,lz,ls];rfl
 intro K hK
 have q0:=cell_of_row _ _ 0 _ _ _ L3.out
 have q1:=cell_of_row _ _ 1 _ _ _ L3.out
 have F0:=frozen_of_row w3 be 0 _ _ L3.out
 have F1:=frozen_of_row w3 be 1 _ _ L3.out
 simp only [lg,lz,ls] at q0 q1
 go_simp
 clear q0 q1 F0 F1
 obtain ⟨w4,hw4⟩:=eX (((w3.setCell ⟨be,0,none⟩ (.string s1)).setCell ⟨be,1,none⟩ (.string s2)))
 obtain ⟨re,BL⟩:=stored_ends L3.out hw4
 rw [←hw4]
 clear hw4
 have b24:=BL _ _ (Nat.le_of_eq hbe) b3.out
 have hS4:Hid ((fun w'=>(w'.cell? ⟨B,0,none⟩=some (.slice ad ss.length c1)∧w'.cell? ⟨B,1,none⟩=some (.string s1)∧w'.cell? ⟨B,2,none⟩=some (.string s2)∧w'.cell? ⟨B,3,none⟩=some (.int .u8 ((nn:Nat):Int))∧w'.cell? ⟨B,4,none⟩=some (.int .u8 ((t:Nat):Int))∧w'.cell? ⟨B,5,none⟩=some (.int .u8 ((pl:Nat):Int)))) w4):=hid ⟨(b24.cell (p:=⟨B,0,none⟩) hBl2).trans (hS2.out.1),(b24.cell (p:=⟨B,1,none⟩) hBl2).trans (hS2.out.2.1),(b24.cell (p:=⟨B,2,none⟩) hBl2).trans (hS2.out.2.2.1),(b24.cell (p:=⟨B,3,none⟩) hBl2).trans (hS2.out.2.2.2.1),(b24.cell (p:=⟨B,4,none⟩) hBl2).trans (hS2.out.2.2.2.2.1),(b24.cell (p:=⟨B,5,none⟩) hBl2).trans (hS2.out.2.2.2.2.2)⟩
 have HB:=hid (Below.step b1.out (Below.step b2.out b24))
 have re2:=hid re
 clear hHeld b24 BL re L3 hS3
 refine hK.out _ _ ?_ (fun hHeld=>?_)
 · (try dsimp only);exact hS4.out
 clear hK K
 try simp only [Act.put,lt,ly,lu]
 refine tk (i:=13) (h:=?_)
 try simp only [Act.put,lt,ly,lu]
 refine tk (i:=14) (h:=?_)
 try simp only [Act.put,lt,ly,lu]
 refine tk (i:=15) (h:=?_)
 try simp only [Act.put,lt,ly,lu]
 refine wpAnyH_done (by kernel_rfl) ?_ _
 clear hHeld hS4 hS2 hBl2 hBl hbel
 obtain ⟨e0,e1⟩:=cells2s re2.out
 have hSw:=hid (hS.out.keep HB.out)
 have HX:=hid (known_any (cell_keep hM.out HB.out) (tab_keep hT.out HB.out))
 rcases Decidable.em (8<ss.length) with h8 | h8
 · have d0:decide (((ss.length:Nat):Int)>8)=true:=decide_eq_true (by omega)
   have d0':(((ss.length:Nat):Int)>8):=by omega
   clear h8
   go_wp2_with fail
   refine (HX.out).mono ?_
   rintro e w5 ⟨rfl,b5⟩
   have HE:=hid (chain HB.out b5)
   clear HX b5
   go_wp2_with fail
   go_ret
   exact ⟨rfl,HE.out⟩
 · have d0:decide (((ss.length:Nat):Int)>8)=false:=decide_eq_false (by omega)
   have d0':¬ (((ss.length:Nat):Int)>8):=by omega
   rcases Decidable.em (20<s1.size) with h1 | h1
   · have d1:decide (((s1.size:Nat):Int)>20)=true:=decide_eq_true (by omega)
     have d1':(((s1.size:Nat):Int)>20):=by omega
     clear h1
     go_wp2_with fail
     refine (HX.out).mono ?_
     rintro e w5 ⟨rfl,b5⟩
     have HE:=hid (chain HB.out b5)
     clear HX b5
     go_wp2_with fail
     go_ret
     exact ⟨rfl,HE.out⟩
   · have d1:decide (((s1.size:Nat):Int)>20)=false:=decide_eq_false (by omega)
     have d1':¬ (((s1.size:Nat):Int)>20):=by omega
     rcases Decidable.em (20<s2.size) with h2 | h2
     · have d2:decide (((s2.size:Nat):Int)>20)=true:=decide_eq_true (by omega)
       have d2':(((s2.size:Nat):Int)>20):=by omega
       clear h2
       go_wp2_with fail
       refine (HX.out).mono ?_
       rintro e w5 ⟨rfl,b5⟩
       have HE:=hid (chain HB.out b5)
       clear HX b5
       go_wp2_with fail
       go_ret
       exact ⟨rfl,HE.out⟩
     · have d2:decide (((s2.size:Nat):Int)>20)=false:=decide_eq_false (by omega)
       have d2':¬ (((s2.size:Nat):Int)>20):=by omega
       replace h8:=hid h8
       replace h1:=hid h1
       replace h2:=hid h2
       clear HX
       go_upto_region 2 with fail
       rename_i G hG Gb hGb
       replace hG:=hid hG
       go_wp2_with fail
       refine hG.out _ _ ?_
       exact encl_list hSw.out (Nat.not_lt.1 h8.out) re2.out hM.out hT.out HB.out (Nat.not_lt.1 h1.out) (Nat.not_lt.1 h2.out) ht.out hnn.out hp.out
end Go.Proofs.YtlcimajjnfbidaaGreatDoor.Rf
