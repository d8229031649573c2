/-
  Contracts of the functions that the law calls, for every input (Rb Rc Rd).
-/
import Derived.Test.YtflopjfnppolgaaGreatDoorZ00
import Derived.Test.YtflopjfnppolgaaGreatDoorProg
import Derived.WalkKit
import Derived.WalkLawsBesides
import Derived.WalkSpells
import Derived.Outline
import Derived.Handy
import Derived.Deep.Draws
import Derived.Laws.Externs
import Derived.Lib.Hide
import Derived.Shelf.Spec.BitsCarry
import Derived.Test.YtflopjfnppolgaaGreatDoorZ20
set_option linter.all false
set_option maxRecDepth 100000
set_option maxHeartbeats 40000000
namespace Go.Proofs.YtflopjfnppolgaaGreatDoor.Rf
open Lib (hid)
open Go.RowKit
open Rx
def A8' (w:World) (v:Value) (n z:Nat):Prop :=
  ∃ A c,v=.slice A n c∧n≤c∧c≤maxLen∧z<V^n ∧
    (0<n→∃ g o,A=some ⟨g,o,none⟩∧g<w.heap.size∧∀ j,j<n→w.cell? ⟨g,o+j,none⟩=some (.int .i64 (word z j:Nat)))
def Ap' (w:World) (v:Value) (z:Nat):Prop:=A8' w v (len z) z
def Cj' (w:World) (z:Nat) (e:Ending) (w':World):Prop:=∃ v,e=.returned v∧Ap' w' v z∧Below w.heap.size w w'
def Dn' (w:World) (n:Int) (e:Ending) (w':World):Prop:=e=.returned (.int .i64 n)∧w=w'
theorem A8'.keep {w w':World} {v:Value} {n z:Nat} (h:A8' w v n z) (hb:Below w.heap.size w w'):A8' w' v n z:=by
 obtain ⟨A,c,h1,h2,h3,h4,h5⟩:=h
 refine ⟨A,c,h1,h2,h3,h4,fun hx=>?_⟩
 obtain ⟨g,o,h6,h7,h8⟩:=h5 hx
 exact ⟨g,o,h6,ltl h7 hb.size,fun j hj=>(hb.cell (p:=⟨g,o+j,none⟩) h7).trans (h8 j hj)⟩
theorem Ap'.keep {w w':World} {v:Value} {z:Nat} (h:Ap' w v z) (hb:Below w.heap.size w w'):Ap' w' v z:=A8'.keep h hb
theorem A8'.of_row {w:World} {base n z:Nat} {v:Value} (h:w.ownsRow base 3 1 v n ((wl z n).map fun d=>Value.int .i64 (d:Nat))) (hz:z<V^n):A8' w v n z:=by
 obtain ⟨-,⟨rfl,rfl⟩ | ⟨g,c,cur,rfl,hb,hg,h1,h2,h3,h4⟩⟩:=h
 · exact ⟨none,0,rfl,nL _,Nat.zero_le _,hz,fun h=>absurd h (by omega)⟩
 · refine ⟨_,c,rfl,h1,h2,hz,fun _=>⟨g,0,rfl,(gE.1 hg).1,fun j hj=>?_⟩⟩
   rw [Nat.zero_add,cR _ _ _ _ _ _ hg]
   have e:cur.toList[j]?=some (Value.int .i64 (word z j:Nat)):=by
     have h5:(cur.toList.take (n*1))[j]?=cur.toList[j]?:=by rw [List.getElem?_take,if_pos (by omega)]
     rw [←h5,h4,List.getElem?_map,IT hj];rfl
   rw [←Array.getElem?_toList,e]
theorem BK' {w:World} {v:Value} {z n k:Nat} (h:A8' w v n z) (hk:k≤1125899906842624) :
   Calls Tryz.prog 83 #[v,.int .i64 (k:Nat)] w (Dn' w (word z k:Nat)):=by
 obtain ⟨A,c,rfl,hn,hc,hz,hp⟩:=h
 unfold maxLen at hc
 rcases Nat.lt_or_ge k n with hkn | hkn
 · obtain ⟨g,o,rfl,hg,hcell⟩:=hp (by omega)
   have h1:=hcell k hkn
   clear hcell hp hz
   go_enter Tryz.func83,Tryz.ntmps83
   go_wp2_with fail
   go_ret
   exact ⟨rfl,rfl⟩
 · have h0:word z k=0:=by
     have:z<V^k:=ltl hz (Nat.pow_le_pow_right Bn' hkn)
     unfold word;rw [Nat.div_eq_of_lt this];rfl
   rw [h0]
   clear hp hz h0
   go_enter Tryz.func83,Tryz.ntmps83
   go_wp2_with fail
   go_ret
   exact ⟨rfl,rfl⟩
theorem BZ' {w:World} {v:Value} {n z:Nat} (h:A8' w v n z) :
   Calls Tryz.prog 84 #[v] w (fun e w'=>∃ v',e=.returned v'∧Ap' w v' z∧w=w'):=by
 obtain ⟨A,c,rfl,hn,hc,hz,hp⟩:=id h
 unfold maxLen at hc
 go_enter Tryz.func84,Tryz.ntmps84
 go_wp2_with fail
 go_loop [3] (fun i=>∃ k:Nat,k≤n∧i=.int .i64 k∧Hid (z%V^k=z)) (fun i=>(intOf i).toNat)
 case atStart=>exact ⟨n,nL _,rfl,Nat.mod_eq_of_lt hz⟩
 case round =>
   obtain ⟨k,hk,rfl,hm⟩:=hrel
   have fin:len z=k→Ap' w (.slice A k c) z:=fun e=>by
     unfold Ap';rw [e]
     exact ⟨A,c,rfl,by omega,by unfold maxLen;omega,by rw [←e];exact Ao z,fun h0=>by
       obtain ⟨g,o,h1,h2,h3⟩:=hp (by omega)
       exact ⟨g,o,h1,h2,fun j hj=>h3 j (by omega)⟩⟩
   rcases Nat.eq_zero_or_pos k with h0 | h0
   · subst h0
     have hl:len z=0:=by have:=hm.out;rw [Nat.pow_zero,Nat.mod_one] at this;rw [←this];exact AG'
     have F:=hid (fin hl)
     clear fin hp hl
     go_wp2_with fail
     go_ret
     exact ⟨_,rfl,F.out,rfl⟩
   · obtain ⟨g,o,rfl,hg,hcell⟩:=hp (by omega)
     have h1:=hcell (k - 1) (by omega)
     obtain ⟨p,rfl⟩:∃ p,k=p+1:=⟨k - 1,by omega⟩
     rw [Nat.add_sub_cancel] at h1
     by_cases hw:word z p=0
     · rw [hw] at h1
       clear fin hcell
       go_wp2_with fail
       go_round
       case rel=>exact ⟨p,by omega,by go_num,by have:=hm.out;rwa [Cx' hw] at this⟩
       case measure=>simp [intOf]
     · have hlen:=CQ' hw
       rw [hm.out] at hlen
       have F:=hid (fin hlen)
       have ht2:(((word z p:Nat):Int)==0)=false:=by rw [beq_eq_false_iff_ne];omega
       clear fin hcell hw hlen
       go_wp2_with fail
       go_ret
       exact ⟨_,rfl,F.out,rfl⟩
theorem Do (n:Int):bits .and .i64 n 65535=n%65536:=by
 have h1:(BitVec.ofInt 64 65535).toNat=2^16 - 1:=by decide
 have key:(BitVec.ofInt 64 n &&& BitVec.ofInt 64 65535).toNat=(n%((2^64:Nat):Int)).toNat%2^16:=by
   rw [BitVec.toNat_and,BitVec.toNat_ofInt,h1,Nat.and_two_pow_sub_one_eq_mod]
 show IntKind.i64.wrap ((BitVec.ofInt 64 n &&& BitVec.ofInt 64 65535).toNat:Nat)=n%65536
 rw [key,IntKind.wrap_i64]
 omega
theorem CX:(Tryz.prog.info? 3).map (fun i=>(i.zero,i.size,i.bytes))=some (some (.int .i64 0),1,8):=by kernel_rfl
theorem FN' {x k d:Nat} (h:word x k=d):((wl x k).map fun d=>Value.int .i64 (d:Nat))++[.int .i64 (d:Nat)]=(wl x (k+1)).map fun d=>Value.int .i64 (d:Nat):=by
 rw [It',List.map_append,h];rfl
theorem Ck (w:World):(w.alloc (.cells #[] 3)).ownsRow w.heap.size 3 1 (.slice (some ⟨w.heap.size,0,none⟩) 0 0) 0 [] :=
 ⟨rfl,Or.inr ⟨w.heap.size,0,#[],rfl,nL _,hA_ w _,nL _,Nat.zero_le _,rfl,rfl⟩⟩
theorem Am' (w:World) (o:Obj):Below w.heap.size w (w.alloc o):=(Below.refl _ _).alloc (nL _) _
def BF (w0 wr:World) (v:Value) (z k:Nat):Prop:=wr.ownsRow w0.heap.size 3 1 v k ((wl z k).map fun d=>Value.int .i64 (d:Nat))
theorem Cd' {ops:Array Oper} {rest:List Oper} {o:Oper} {a:Act} {Q:Exit→Act→World→Prop} {w0 wr:World} {v:Value} {z k d:Nat} (hgd:o.guard=none) (s x:Operand)
   (ho:o.op=.call { callee:=.builtin .append,args:=#[s,x],argTypes:=#[41,41] }) (hs:a.eval s=v) (hown:BF w0 wr v z k) (hb:Below w0.heap.size w0 wr) (hd:word z k=d) (hk:k≤2199023255552)
   (hx:a.eval x=.slice (some ⟨wr.heap.size,0,none⟩) 1 1)
   (h:∀ v' w',Hid (BF w0 w' v' z (k+1))→Hid (Below w0.heap.size w0 w')→wpList Tryz.prog ops Q rest (a.put o.dst v') w') :
   wpList Tryz.prog ops Q (o::rest) a (wr.alloc (.cells #[.int .i64 (d:Nat)] 3)):=by
 obtain ⟨i0,hi,hz0,hz1,hz2⟩:=info_parts CX
 have hsz:=hb.size
 have hbase:w0.heap.size≤(wr.alloc (.cells #[.int .i64 (d:Nat)] 3)).heap.size:=by rw [World.size_alloc];omega
 refine wpList_append_own _ hgd s x _ ho w0.heap.size 3 i0 (.int .i64 0) 1 8 Tryz.underlying41 hi hz0 hz1 hz2 rfl (by decide) v k _ hs (World.ownsRow.alloc hown _) ⟨wr.heap.size,0,none⟩ 1 1 [.int .i64 (d:Nat)] hx rfl ?_ ?_ (by unfold maxLen;omega) (by omega) hbase ?_
 · intro j u hj
   match j,hj with
   | 0,hj =>
     obtain rfl:=Option.some.inj hj
     exact cR _ _ 0 _ _ _ (hA_ wr _)
   | j+1,hj=>exact absurd hj (by simp)
 · intro u hu
   rw [List.mem_singleton] at hu
   subst hu;rfl
 · intro v' w' hown' hg _
   rw [FN' hd] at hown'
   refine h v' w' hown' ((hb.alloc hsz _).grown hg hbase ?_)
   intro r hr
   obtain ⟨-,⟨rfl,-⟩ | ⟨g,c,cur,rfl,hg,-⟩⟩:=hown
   · cases hr
   · obtain rfl:=Option.some.inj hr
     exact hg
theorem HN' {w:World} {vx vy:Value} {x y:Nat} (hx:Ap' w vx x) (hy:Ap' w vy y) (sx:len x≤1099511627776) (sy:len y≤1099511627776) :
   Calls Tryz.prog 126 #[vx,vy] w (Cj' w (x+y)):=by
 obtain ⟨i0,hi,hz0,hz1,hz2⟩:=info_parts CX
 obtain ⟨n,hn⟩:=eY (len x)
 obtain ⟨m,hm⟩:=eY (len y)
 obtain ⟨l,hl⟩:=eY (max n m)
 have hend:=hid (HL' (x:=x) (y:=y) (m:=l) (by omega) (by omega))
 unfold Ap' at hx hy
 rw [hn] at hx sx
 rw [hm] at hy sy
 have sl:l≤1099511627776:=by omega
 replace hl:=hid hl
 clear hn hm
 obtain ⟨A1,c1,rfl,-,-,-,-⟩:=id hx
 obtain ⟨A2,c2,rfl,-,-,-,-⟩:=id hy
 replace hx:=hid hx
 replace hy:=hid hy
 go_enter Tryz.func126,Tryz.ntmps126
 go_wp2_with fail
 go_loopw [5,6,7] (fun v c i wr=>∃ k:Nat,k≤l∧i=.int .i64 k∧c=.int .i64 (addC x y k:Nat)∧Hid (BF w wr v (x+y) k)∧Hid (Below w.heap.size w wr)) (fun _ _ i _=>l - (intOf i).toNat)
 case atStart=>exact ⟨0,Nat.zero_le _,rfl,by rw [GV'];rfl,Ck w,Am' w _⟩
 case round =>
   obtain ⟨k,hk,rfl,rfl,hown,hb⟩:=hrel
   have hl2:=hl.out
   obtain ⟨c,hc⟩:=eY (addC x y k)
   have hc1:=FM' x y k
   rw [hc] at hc1 ⊢
   rcases Nat.lt_or_ge k l with hkl | hkl
   · obtain ⟨a,ha⟩:=eY (word x k)
     obtain ⟨b,hbb⟩:=eY (word y k)
     have ha1:=word_lt x k
     have hb1:=word_lt y k
     obtain ⟨s1,s2⟩:=GW x y k
     rw [ha] at ha1 s1 s2
     rw [hbb] at hb1 s1 s2
     rw [hc] at s1 s2
     obtain ⟨d,hd⟩:=eY (word (x+y) k)
     obtain ⟨c',hc'⟩:∃ c',addC x y (k+1)=c':=⟨_,rfl⟩
     rw [hd] at s1
     rw [hc'] at s2
     unfold V at ha1 hb1 s1 s2
     have HX:=hid (BK' (hx.out.keep hb.out) (k:=k) (by omega))
     have HY:=hid (BK' (hy.out.keep hb.out) (k:=k) (by omega))
     rw [ha] at HX
     rw [hbb] at HY
     have hand:bits .and .i64 ((c:Nat)+((a:Nat)+(b:Nat))) 65535=((d:Nat):Int):=by rw [Do,s1];omega
     have hshr:(((c:Nat):Int)+((a:Nat)+(b:Nat))) / 65536=((c':Nat):Int):=by rw [s2];omega
     replace hd:=hid hd
     replace hc':=hid hc'
     clear ha hbb hc s1 s2
     rcases Nat.lt_or_ge n m with hnm | hnm
     all_goals
       have hkm:k<max n m:=by omega
       have hkm1:n<m→k<m:=by omega
       have hkm2:m≤n→k<n:=by omega
       first | (have hk9:=hkm1 hnm) | (have hk9:=hkm2 hnm)
       clear hkm hkm1 hkm2 hl2
       go_wp2_with fail
       refine (HX.out).mono ?_
       rintro e w' ⟨rfl,rfl⟩
       go_wp2_with fail
       refine (HY.out).mono ?_
       rintro e w' ⟨rfl,rfl⟩
       clear HX HY
       go_wp2_with (at_builtin;refine Cd' rfl _ _ rfl rfl hown.out hb.out hd.out (by omega) rfl ?_;intro v' w1 hown' hb')
       go_roundw
       case rel=>exact ⟨k+1,by omega,by go_num,by rw [hc'.out],hown',hb'⟩
       case measure=>simp [intOf];omega
   · obtain rfl:k=l:=by omega
     obtain ⟨d,hd⟩:=eY (word (x+y) k)
     have hend1:=hend.out.1
     rw [hd,hc] at hend1
     subst hend1
     have hlt:=hid hend.out.2
     replace hd:=hid hd
     clear hc
     rcases Nat.lt_or_ge n m with hnm | hnm
     all_goals
       have hkm1:n<m→¬ k<m:=by omega
       have hkm2:m≤n→¬ k<n:=by omega
       first | (have hk9:=hkm1 hnm) | (have hk9:=hkm2 hnm)
       clear hkm1 hkm2 hl2
       go_wp2_with (at_builtin;refine Cd' rfl _ _ rfl rfl hown.out hb.out hd.out (by omega) rfl ?_;intro v' w1 hown' hb')
       refine (BZ' (A8'.of_row hown'.out hlt.out)).mono ?_
       rintro e w' ⟨v2,rfl,hv2,rfl⟩
       replace hv2:=hid hv2
       go_wp2_with fail
       go_ret
       exact ⟨_,rfl,hv2.out,hb'.out⟩
theorem A8'.at {w:World} {A:Option Addr} {n c z k:Nat} (h:A8' w (.slice A n c) n z) (hk:k<n):∃ g o,A=some ⟨g,o,none⟩∧w.cell? ⟨g,o+k,none⟩=some (.int .i64 (word z k:Nat)):=by
 obtain ⟨A',c',e,hn,hc,hz,hp⟩:=h
 simp only [Value.slice.injEq,true_and] at e
 obtain ⟨rfl,rfl⟩:=e
 obtain ⟨g,o,h1,h2,h3⟩:=hp (by omega)
 exact ⟨g,o,h1,h3 k hk⟩
theorem Cr' {w:World} {vx:Value} {x b:Nat} (hx:Ap' w vx x) (hb:b≤1) (sx:len x≤1099511627776) :
   Calls Tryz.prog 164 #[vx,.int .i64 (b:Nat)] w (Cj' w (2*x+b)):=by
 obtain ⟨n,hn⟩:=eY (len x)
 have hend:=hid (HM' (x:=x) (b:=b) (m:=n) hb (by omega))
 unfold Ap' at hx
 rw [hn] at hx sx
 clear hn
 obtain ⟨A,cc,rfl,-,-,-,-⟩:=id hx
 replace hx:=hid hx
 obtain ⟨z,hz⟩:=eY (2*x+b)
 have hst:=hid (fun k=>GX x b k)
 rw [hz] at hend hst ⊢
 clear hz
 go_enter Tryz.func164,Tryz.ntmps164
 go_wp2_with fail
 go_loopw [5,6,7] (fun v c i wr=>∃ k:Nat,k≤n∧i=.int .i64 k∧c=.int .i64 (dblC x b k:Nat)∧Hid (BF w wr v z k)∧Hid (Below w.heap.size w wr)) (fun _ _ i _=>n - (intOf i).toNat)
 case atStart=>exact ⟨0,Nat.zero_le _,rfl,by rw [GW'],Ck w,Am' w _⟩
 case round =>
   obtain ⟨k,hk,rfl,rfl,hown,hbl⟩:=hrel
   obtain ⟨c,hc⟩:=eY (dblC x b k)
   have hc1:=FN (x:=x) hb k
   rw [hc] at hc1 ⊢
   rcases Nat.lt_or_ge k n with hkl | hkl
   · obtain ⟨a,ha⟩:=eY (word x k)
     have ha1:=word_lt x k
     obtain ⟨s1,s2⟩:=hst.out k
     obtain ⟨g,o,rfl,hcell⟩:=(hx.out.keep hbl.out).at hkl
     rw [ha] at ha1 s1 s2 hcell
     rw [hc] at s1 s2
     obtain ⟨d,hd⟩:=eY (word z k)
     obtain ⟨c',hc'⟩:∃ c',dblC x b (k+1)=c':=⟨_,rfl⟩
     rw [hd] at s1
     rw [hc'] at s2
     unfold V at ha1 s1 s2
     have hand:bits .and .i64 ((c:Nat)+2*(a:Nat)) 65535=((d:Nat):Int):=by rw [Do,s1];omega
     have hshr:(((c:Nat):Int)+2*(a:Nat)) / 65536=((c':Nat):Int):=by rw [s2];omega
     replace hd:=hid hd
     replace hc':=hid hc'
     clear ha hc s1 s2
     go_wp2_with (at_builtin;refine Cd' rfl _ _ rfl rfl hown.out hbl.out hd.out (by omega) rfl ?_;intro v' w1 hown' hb')
     go_roundw
     case rel=>exact ⟨k+1,by omega,by go_num,by rw [hc'.out],hown',hb'⟩
     case measure=>simp [intOf];omega
   · obtain rfl:k=n:=by omega
     obtain ⟨d,hd⟩:=eY (word z k)
     have hend1:=hend.out.1
     rw [hd,hc] at hend1
     subst hend1
     have hlt:=hid hend.out.2
     replace hd:=hid hd
     clear hc
     go_wp2_with (at_builtin;refine Cd' rfl _ _ rfl rfl hown.out hbl.out hd.out (by omega) rfl ?_;intro v' w1 hown' hb')
     refine (BZ' (A8'.of_row hown'.out hlt.out)).mono ?_
     rintro e w' ⟨v2,rfl,hv2,rfl⟩
     replace hv2:=hid hv2
     go_wp2_with fail
     go_ret
     exact ⟨_,rfl,hv2.out,hb'.out⟩
theorem Fz {x y k:Nat} (h:x / V^(k+1)=y / V^(k+1)):(word x k=word y k→x / V^k=y / V^k)∧(word x k<word y k→x<y)∧(word y k<word x k→y<x):=by
 have ex:=Ba x k
 have ey:=Ba y k
 rw [h] at ex
 refine ⟨fun e=>by rw [ex,ey,e],fun e=>?_,fun e=>?_⟩
 · have h1:x / V^k<y / V^k:=by omega
   rcases Nat.lt_or_ge x y with h2 | h2
   · exact h2
   · exact absurd (Nat.div_le_div_right (c:=V^k) h2) (by omega)
 · have h1:y / V^k<x / V^k:=by omega
   rcases Nat.lt_or_ge y x with h2 | h2
   · exact h2
   · exact absurd (Nat.div_le_div_right (c:=V^k) h2) (by omega)
def Ar (x y:Nat):Int:=if x<y then -1 else if x=y then 0 else 1
theorem BD' {x y:Nat} (h:x<y):Ar x y = -1:=if_pos h
theorem Ce {x y:Nat} (h:y<x):Ar x y=1:=by unfold Ar;rw [if_neg (by omega),if_neg (by omega)]
theorem Ce' (x:Nat):Ar x x=0:=by unfold Ar;rw [if_neg (by omega),if_pos rfl]
def downI:Nat→Int
  | 0 => -1
  | p+1=>(p:Int)
theorem AM' (k:Nat):downI k=(k:Int) - 1:=by cases k <;> simp [downI]
theorem BE {w:World} {vx vy:Value} {x y:Nat} (hx:Ap' w vx x) (hy:Ap' w vy y) (sx:len x≤1099511627776) (sy:len y≤1099511627776) :
   Calls Tryz.prog 42 #[vx,vy] w (Dn' w (Ar x y)):=by
 obtain ⟨n,hn⟩:=eY (len x)
 obtain ⟨m,hm⟩:=eY (len y)
 have htop:x / V^max n m=y / V^max n m:=by
   rw [Nat.div_eq_of_lt (ltl (Ao x) (Nat.pow_le_pow_right Bn' (by omega))),Nat.div_eq_of_lt (ltl (Ao y) (Nat.pow_le_pow_right Bn' (by omega)))]
 obtain ⟨r,hr⟩:=eY (Ar x y)
 rw [hr]
 unfold Ap' at hx hy
 rw [hn] at hx sx
 rw [hm] at hy sy
 obtain ⟨A1,c1,rfl,-,-,-,-⟩:=id hx
 obtain ⟨A2,c2,rfl,-,-,-,-⟩:=id hy
 replace hx:=hid hx
 replace hy:=hid hy
 replace hr:=hid hr
 clear hn hm
 rcases Nat.lt_or_ge n m with hnm | hnm
 all_goals
   obtain ⟨l,hl⟩:=eY (max n m)
   rw [hl] at htop
   replace htop:=hid htop
   have h7:n<m→l=m:=by omega
   have h8:m≤n→l=n:=by omega
   clear hl
   first | (have h9:=h7 hnm) | (have h9:=h8 hnm)
   clear h7 h8
   subst h9
 all_goals
   go_enter Tryz.func42,Tryz.ntmps42
   go_wp2_with fail
   go_loop [5] (fun i=>∃ k:Nat,k≤l∧i=.int .i64 (downI k)∧Hid (x / V^k=y / V^k)) (fun i=>(intOf i+1).toNat)
   case atStart=>exact ⟨l,nL _,by rw [AM'],htop.out⟩
   case round =>
     obtain ⟨k,hk,rfl,hd⟩:=hrel
     rcases k with _ | k
     · have hxy:x=y:=by have:=hd.out;simpa using this
       subst hxy
       have h0:r=0:=by rw [←hr.out];exact Ce' _
       subst h0
       rw [show downI 0 = -1 from rfl]
       go_wp2_with fail
       go_ret
       exact ⟨rfl,rfl⟩
     · obtain ⟨s1,s2,s3⟩:=Fz hd.out
       have HX:=hid (BK' hx.out (k:=k) (by omega))
       have HY:=hid (BK' hy.out (k:=k) (by omega))
       obtain ⟨a,ha⟩:=eY (word x k)
       obtain ⟨b,hb⟩:=eY (word y k)
       rw [ha,hb] at s1 s2 s3
       rw [ha] at HX
       rw [hb] at HY
       clear ha hb
       rw [show downI (k+1)=((k:Nat):Int) from rfl]
       rcases Nat.lt_trichotomy a b with h1 | h1 | h1
       · have h0:r = -1:=by rw [←hr.out];exact BD' (s2 h1)
         have t1:(((a:Nat):Int) != ((b:Nat):Int))=true:=by rw [bne_iff_ne];omega
         have t2:(((a:Nat):Int)==((b:Nat):Int))=false:=by rw [beq_eq_false_iff_ne];omega
         clear s1 s2 s3
         subst h0
         go_wp2_with fail
         refine (HX.out).mono ?_
         rintro e w' ⟨rfl,rfl⟩
         go_wp2_with fail
         refine (HY.out).mono ?_
         rintro e w' ⟨rfl,rfl⟩
         go_wp2_with fail
         refine (HX.out).mono ?_
         rintro e w' ⟨rfl,rfl⟩
         go_wp2_with fail
         refine (HY.out).mono ?_
         rintro e w' ⟨rfl,rfl⟩
         go_wp2_with fail
         go_ret
         exact ⟨rfl,rfl⟩
       · subst h1
         have s4:=hid (s1 rfl)
         have t1:(((a:Nat):Int) != ((a:Nat):Int))=false:=by simp
         clear s1 s2 s3
         go_wp2_with fail
         refine (HX.out).mono ?_
         rintro e w' ⟨rfl,rfl⟩
         go_wp2_with fail
         refine (HY.out).mono ?_
         rintro e w' ⟨rfl,rfl⟩
         go_wp2_with fail
         go_round
         case rel=>exact ⟨k,by omega,by rw [AM'],s4.out⟩
         case measure=>simp [intOf]
       · have h0:r=1:=by rw [←hr.out];exact Ce (s3 h1)
         have t1:(((a:Nat):Int) != ((b:Nat):Int))=true:=by rw [bne_iff_ne];omega
         have t2:(((a:Nat):Int)==((b:Nat):Int))=false:=by rw [beq_eq_false_iff_ne];omega
         clear s1 s2 s3
         subst h0
         go_wp2_with fail
         refine (HX.out).mono ?_
         rintro e w' ⟨rfl,rfl⟩
         go_wp2_with fail
         refine (HY.out).mono ?_
         rintro e w' ⟨rfl,rfl⟩
         go_wp2_with fail
         refine (HX.out).mono ?_
         rintro e w' ⟨rfl,rfl⟩
         go_wp2_with fail
         refine (HY.out).mono ?_
         rintro e w' ⟨rfl,rfl⟩
         go_wp2_with fail
         go_ret
         exact ⟨rfl,rfl⟩
end Go.Proofs.YtflopjfnppolgaaGreatDoor.Rf
