/-
  Contracts of the functions that the law calls, for every input (Rg).
-/
import Derived.Test.YtflopjfnppolgaaGreatDoorZ00
import Derived.Test.YtflopjfnppolgaaGreatDoorZ22
import Derived.Deep.RegionHeld3
set_option linter.all false
set_option maxRecDepth 100000
set_option maxHeartbeats 40000000
namespace Go.Proofs.YtflopjfnppolgaaGreatDoor.Rf
open Lib (hid)
open Go.RowKit
open Rx
open List renaming getElem?_toArray → lg, getElem?_cons_zero → lz, getElem?_cons_succ → ls, setIfInBounds_toArray → lt, set_cons_zero → ly, set_cons_succ → lu
theorem AV (w:World):Below w.heap.size w w.drew:=⟨rfl,rfl,rfl,nL _,fun _ _=>rfl⟩
theorem BF.drew {w0 w:World} {v:Value} {z k:Nat} (h:BF w0 w v z k):BF w0 w.drew v z k:=h
theorem Below.drew1 {B:Nat} {w w':World} (h:Below B w w'):Below B w w'.drew:=⟨h.os,h.tape,h.output,h.size,h.block⟩
theorem IT' {p q:Nat} (hp:p<32768) (hq:q≤1):bits .or .i64 ((p:Nat):Int) ((q*32768:Nat):Int)=((p+q*32768:Nat):Int):=by
 have e1:(BitVec.ofInt 64 ((p:Nat):Int)).toNat=p:=by rw [BitVec.toNat_ofInt];omega
 have e2:(BitVec.ofInt 64 ((q*32768:Nat):Int)).toNat=q*32768:=by rw [BitVec.toNat_ofInt];omega
 have key:(BitVec.ofInt 64 ((p:Nat):Int) ||| BitVec.ofInt 64 ((q*32768:Nat):Int)).toNat=p+q*32768:=by
   rw [BitVec.toNat_or,e1,e2,Nat.or_comm,Nat.mul_comm,show 32768=2^15 from rfl,←Nat.two_pow_add_eq_or_of_lt hp,Nat.add_comm]
 show IntKind.i64.wrap ((BitVec.ofInt 64 ((p:Nat):Int) ||| BitVec.ofInt 64 ((q*32768:Nat):Int)).toNat:Nat)=_
 rw [key,IntKind.wrap_i64]
 omega
theorem GZ (x k:Nat):word (x / 2) k=word x k / 2+word x (k+1)%2*32768:=by
 have h:=Ba x k
 have h1:=word_lt x k
 have e:x / 2 / V^k=x / V^k / 2:=by rw [Nat.div_div_eq_div_mul,Nat.div_div_eq_div_mul,Nat.mul_comm]
 have e2:word x (k+1)%2=x / V^(k+1)%2:=by
   show x / V^(k+1)%V%2=_
   generalize x / V^(k+1)=m
   unfold V;omega
 rw [e2]
 show x / 2 / V^k%V=_
 rw [e,h]
 generalize x / V^(k+1)=m
 generalize word x k=a at h1 ⊢
 unfold V at *
 omega
theorem tk {P:Program} {ops:Array Oper} {Q:Exit→Act→World→Prop} {md:Region.Mode} {S:World→Prop} {i:Nat} {oi:Oper} {v:Value} {fuel:Nat} {listed:Array Bool} {a:Act} {w:World} (hi:ops[i]?=some oi:=by simp only [lg,lz,ls];rfl)
   (hb:(Region.noSelect ops && (Region.free md ops listed i && (Region.ready md ops listed).contains i))=true:=by kernel_rfl) (hQ:∀ c a w,Q (.panic c) (a.put oi.dst v) w→Q (.panic c) a w:=by exact fun _ _ _ h=>h) (hS:S w:=by assumption) (hy:YieldsIf P ops S oi v a:=by refine Or.inl ⟨by rfl,?_⟩;intro w hSw;(try dsimp only at hSw);go_simp;try with_reducible rfl)
   (h:wpAnyH P md ops Q S fuel (listed.setIfInBounds i true) (a.put oi.dst v) w):wpAnyH P md ops Q S (fuel+1) listed a w:=by
 rw [Bool.and_eq_true,Bool.and_eq_true] at hb
 exact wpAnyH_take hi hb.1 hb.2.1 hb.2.2 hQ hy hS h
theorem GZ' {o:Oper} {a:Act} {K:Act→World→Prop} {Q:Exit→Act→World→Prop} {w0 wr:World} {v:Value} {z k d:Nat} (s x:Operand)
   (ho:o.op=.call { callee:=.builtin .append,args:=#[s,x],argTypes:=#[41,41] }) (hs:a.eval s=v) (hown:BF w0 wr v z k) (hb:Below w0.heap.size w0 wr) (hd:word z k=d) (hk:k≤2199023255552)
   (hx:a.eval x=.slice (some ⟨wr.heap.size,0,none⟩) 1 1)
   (h:∀ v' w',Hid (BF w0 w' v' z (k+1))→Hid (Below w0.heap.size w0 w')→K (a.put o.dst v') w') :
   o.wp Tryz.prog a (wr.alloc (.cells #[.int .i64 (d:Nat)] 3)) K Q:=by
 obtain ⟨i0,hi,hz0,hz1,hz2⟩:=info_parts CX
 have hsz:=hb.size
 have hbase:w0.heap.size≤(wr.alloc (.cells #[.int .i64 (d:Nat)] 3)).heap.size:=by rw [World.size_alloc];omega
 refine wp_append_own _ s x _ ho w0.heap.size 3 i0 (.int .i64 0) 1 8 Tryz.underlying41 hi hz0 hz1 hz2 rfl (by decide) v k _ hs (World.ownsRow.alloc hown _) ⟨wr.heap.size,0,none⟩ 1 1 [.int .i64 (d:Nat)] hx rfl ?_ ?_ (by unfold maxLen;omega) (by omega) hbase ?_
 · intro j u hj
   match j,hj with
   | 0,hj =>
     obtain rfl:=Option.some.inj hj
     exact cR _ _ 0 _ _ _ (hA_ wr _)
   | j+1,hj=>exact absurd hj (by simp)
 · intro u hu
   rw [List.mem_singleton] at hu
   subst hu;rfl
 · intro v' w' hown' hg _
   rw [FN' hd] at hown'
   refine h v' w' hown' ((hb.alloc hsz _).grown hg hbase ?_)
   intro r hr
   obtain ⟨-,⟨rfl,-⟩ | ⟨g,c,cur,rfl,hg,-⟩⟩:=hown
   · cases hr
   · obtain rfl:=Option.some.inj hr
     exact hg
theorem CX' {w:World} {vx:Value} {x:Nat} (hx:Ap' w vx x) (sx:len x≤1099511627776) :
   Calls Tryz.prog 163 #[vx] w (Cj' w (x / 2)):=by
 obtain ⟨n,hn⟩:=eY (len x)
 have hlt:x / 2<V^n:=Nat.lt_of_le_of_lt (Nat.div_le_self _ _) (by rw [←hn];exact Ao x)
 obtain ⟨z,hz⟩:=eY (x / 2)
 rw [hz] at hlt ⊢
 replace hlt:=hid hlt
 replace hz:=hid hz
 unfold Ap' at hx
 rw [hn] at hx sx
 clear hn
 obtain ⟨A,cc,rfl,-,-,-,-⟩:=id hx
 replace hx:=hid hx
 go_enter Tryz.func163,Tryz.ntmps163
 go_wp2_with fail
 go_loopw [3,4] (fun v i wr=>∃ k:Nat,k≤n∧i=.int .i64 k∧Hid (BF w wr v z k)∧Hid (Below w.heap.size w wr)) (fun _ i _=>n - (intOf i).toNat)
 case atStart=>exact ⟨0,Nat.zero_le _,rfl,Ck w,Am' w _⟩
 case round =>
   obtain ⟨k,hk,rfl,hown,hbl⟩:=hrel
   rcases Nat.lt_or_ge k n with hkl | hkl
   · obtain ⟨a,ha⟩:=eY (word x k)
     obtain ⟨b,hb⟩:=eY (word x (k+1))
     have ha1:=word_lt x k
     have hb1:=word_lt x (k+1)
     obtain ⟨g,o,rfl,hcell⟩:=hx.out.at hkl
     obtain ⟨NN,hNN⟩:=eY w.heap.size
     have hg:g<NN:=by rw [←hNN];exact bL _ _ hcell
     obtain ⟨wd,hwd⟩:=eX wr.drew
     have bd:Below wr.heap.size wr wd:=by rw [hwd];exact AV wr
     have HY:=hid (BK' ((hx.out.keep hbl.out).keep bd) (k:=k+1) (by omega))
     have hown:=hid (show BF w wd _ z k by rw [hwd];exact BF.drew hown.out)
     have hbl2:=hid (show Below w.heap.size w wd by rw [hwd];exact Below.drew1 hbl.out)
     have hS:=hid (fun (u:World) (hu:Below w.heap.size w u) (b o:Nat) (hb:b<NN)=>hu.cell (p:=⟨b,o,none⟩) (by rw [hNN];exact hb))
     have hS0:=hid (hS.out wr.drew (by rw [←hwd];exact hbl2.out))
     clear bd
     rw [ha] at ha1 hcell
     rw [hb] at hb1 HY
     unfold V at ha1 hb1
     replace ha:=hid ha
     replace hb:=hid hb
     obtain ⟨k1,hk1⟩:=eY (k+1)
     have hwk:IntKind.i64.wrap ((k:Nat)+1)=((k1:Nat):Int):=by rw [IntKind.wrap_i64];omega
     rw [hk1] at HY
     obtain ⟨b1,hb2⟩:=eY (b%2)
     have hand:bits .and .i64 ((b:Nat):Int) 1=((b1:Nat):Int):=by rw [Ec'];omega
     obtain ⟨d,hd⟩:=eY (word z k)
     have hw:=GZ x k
     rw [hz.out,hd,ha.out,hb.out,hb2] at hw
     obtain ⟨a2,ha2⟩:=eY (a / 2)
     obtain ⟨s,hs⟩:=eY (b1*32768)
     have hdv:((a:Nat):Int) / 2=((a2:Nat):Int):=by omega
     have hsh:IntKind.i64.wrap (((b1:Nat):Int)*32768)=((s:Nat):Int):=by rw [IntKind.wrap_i64];omega
     have hor:bits .or .i64 ((a2:Nat):Int) ((s:Nat):Int)=((d:Nat):Int):=by rw [←hs,IT' (by omega) (by omega),hw];omega
     replace hd:=hid hd
     replace ha2:=hid ha2
     replace hs:=hid hs
     clear hw
     replace hb2:=hid hb2
     replace hk1:=hid hk1
     go_wp2_with fail
     refine wp_region_held_drew (S:=(fun w'=>(∀ b o,b<NN→w'.cell? ⟨b,o,none⟩=w.cell? ⟨b,o,none⟩))) (by kernel_rfl) ?_ (fun hHeld=>?_)
     · (try dsimp only)
       exact hS0.out
     rw [←hwd] at hHeld ⊢
     clear hwd hbl hNN hS0
     refine tk (i:=0) (h:=?_)
     try simp only [Act.put,lt,ly,lu]
     refine tk (i:=1) (h:=?_)
     try simp only [Act.put,lt,ly,lu]
     refine tk (i:=2) (h:=?_)
     try simp only [Act.put,lt,ly,lu]
     refine tk (i:=3) (h:=?_)
     try simp only [Act.put,lt,ly,lu]
     refine tk (i:=4) (h:=?_)
     try simp only [Act.put,lt,ly,lu]
     refine tk (i:=5) (h:=?_)
     try simp only [Act.put,lt,ly,lu]
     refine tk (i:=6) (h:=?_)
     try simp only [Act.put,lt,ly,lu]
     refine tk (i:=7) (h:=?_)
     try simp only [Act.put,lt,ly,lu]
     refine tk (i:=8) (h:=?_)
     try simp only [Act.put,lt,ly,lu]
     refine rdz (i:=9) (h:=fun K hK=>?_)
     go_simp;go_at_call 83
     refine (HY.out).mono ?_
     rintro e w' ⟨rfl,rfl⟩
     clear HY
     refine hK.out _ _ ?_ (fun hHeld2=>?_)
     · (try dsimp only)
       exact hS.out _ hbl2.out
     clear hK K hHeld
     try simp only [Act.put,lt,ly,lu]
     have hHeld:=hHeld2
     clear hHeld2
     refine tk (i:=10) (h:=?_)
     try simp only [Act.put,lt,ly,lu]
     refine tk (i:=11) (h:=?_)
     try simp only [Act.put,lt,ly,lu]
     refine tk (i:=12) (h:=?_)
     try simp only [Act.put,lt,ly,lu]
     refine rdz (i:=13) (h:=fun K hK=>?_)
     go_simp
     refine hK.out _ _ ?_ (fun hHeld2=>?_)
     · (try dsimp only)
       exact hS.out _ (hbl2.out.alloc hbl2.out.size _)
     clear hK K hHeld
     try simp only [Act.put,lt,ly,lu]
     have hHeld:=hHeld2
     clear hHeld2
     refine rdz (i:=14) (h:=fun K hK=>?_)
     refine GZ' _ _ rfl rfl hown.out hbl2.out hd.out (by omega) rfl ?_
     intro v' w1 hown' hb'
     refine hK.out _ _ ?_ (fun hHeld2=>?_)
     · (try dsimp only)
       exact hS.out _ hb'.out
     clear hK K hHeld hown hbl2
     try simp only [Act.put,lt,ly,lu]
     have hHeld:=hHeld2
     clear hHeld2
     refine tk (i:=15) (h:=?_)
     try simp only [Act.put,lt,ly,lu]
     refine wpAnyH_done (by kernel_rfl) ?_ _
     clear hHeld hS
     go_wp2_with fail
     have e9:=hk1.out
     subst e9
     go_roundw
     case rel=>exact ⟨k+1,by omega,rfl,hown',hb'⟩
     case measure=>simp [intOf];omega
   · obtain rfl:k=n:=by omega
     go_wp2_with fail
     refine (BZ' (A8'.of_row hown.out hlt.out)).mono ?_
     rintro e w' ⟨v2,rfl,hv2,rfl⟩
     replace hv2:=hid hv2
     go_wp2_with fail
     go_ret
     exact ⟨_,rfl,hv2.out,hbl.out⟩
end Go.Proofs.YtflopjfnppolgaaGreatDoor.Rf
