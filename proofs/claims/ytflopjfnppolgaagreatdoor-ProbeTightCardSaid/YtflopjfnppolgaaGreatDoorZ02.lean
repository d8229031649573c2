/-
  Contracts of the functions that the law calls, for every input (Base Trim).
-/
import Derived.Test.YtflopjfnppolgaaGreatDoorZ00
import Derived.Test.YtflopjfnppolgaaGreatDoorProg
import Derived.WalkKit
import Derived.WalkLawsBesides
import Derived.WalkSpells
import Derived.Outline
import Derived.Handy
import Derived.Deep.Draws
import Derived.Laws.Externs
import Derived.Lib.Hide
import Derived.Shelf.Spec.BitsCarry
import Derived.Test.YtflopjfnppolgaaGreatDoorZ01
set_option linter.all false
set_option maxRecDepth 100000
set_option maxHeartbeats 40000000
namespace Go.Proofs.YtflopjfnppolgaaGreatDoor
open Lib (hid)
open Go.RowKit
open Vx
def As' (w:World) (B:Nat) (v:Value) (x:Nat):Prop :=
  ∃ A c,v=.slice A (len x) c∧len x≤c∧c≤1125899906842624∧(x=0→A=none∧c=0) ∧
    (0<x→∃ g o,A=some ⟨g,o,none⟩∧g<B∧∀ j,j<len x→w.cell? ⟨g,o+j,none⟩=some (.int .u64 (word x j:Nat)))
def AK' (w:World) (g:Nat) (cs:List Nat):Prop :=
  w.heap[g]?=some (.cells (cs.map fun d=>Value.int .u64 (d:Nat)).toArray 101 (0,0))∧∀ d∈cs,d<W
def Az (g:Nat) (w w':World):Prop:=w.grownBy w' (some g)
section
variable {w w' w1 w2:World} {g B B' x:Nat} {v:Value} {cs:List Nat}
theorem As'.mono (h:As' w B v x) (hb:Below B w w') (hB:B≤B'):As' w' B' v x:=by
 obtain ⟨A,c,h1,h2,h3,h4,h5⟩:=h
 refine ⟨A,c,h1,h2,h3,h4,fun hx=>?_⟩
 obtain ⟨g,o,h6,h7,h8⟩:=h5 hx
 exact ⟨g,o,h6,by omega,fun j hj=>(hb.cell (p:=⟨g,o+j,none⟩) h7).trans (h8 j hj)⟩
theorem As'.more (h:As' w B v x) (hB:B≤B'):As' w B' v x:=h.mono (Below.refl _ _) hB
theorem As'.zero (w:World) (B:Nat):As' w B (.slice none 0 0) 0:=⟨none,0,by rw [AG'],by rw [AG'];omega,by omega,fun _=>⟨rfl,rfl⟩,fun h=>absurd h (by omega)⟩
theorem As'.zero' (h:As' w B v 0):v=.slice none 0 0:=by
 obtain ⟨A,c,h1,_,_,h4,_⟩:=h
 obtain ⟨rfl,rfl⟩:=h4 rfl
 rw [h1,AG']
def Bk' (w:World) (B:Nat) (v:Value) (n z:Nat):Prop :=
  ∃ A c,v=.slice A n c∧n≤c∧c≤1125899906842624∧z<Vx.W^n ∧
    (0<n→∃ g o,A=some ⟨g,o,none⟩∧g<B∧∀ j,j<n→w.cell? ⟨g,o+j,none⟩=some (.int .u64 (word z j:Nat)))
theorem As'.reads (h:As' w B v x):Bk' w B v (len x) x:=by
 obtain ⟨A,c,h1,h2,h3,_,h5⟩:=h
 exact ⟨A,c,h1,h2,h3,Ao x,fun hx=>h5 (Ak.1 hx)⟩
theorem Bk'.mono {n z:Nat} (h:Bk' w B v n z) (hb:Below B w w') (hB:B≤B'):Bk' w' B' v n z:=by
 obtain ⟨A,c,h1,h2,h3,h4,h5⟩:=h
 refine ⟨A,c,h1,h2,h3,h4,fun hx=>?_⟩
 obtain ⟨g,o,h6,h7,h8⟩:=h5 hx
 exact ⟨g,o,h6,by omega,fun j hj=>(hb.cell (p:=⟨g,o+j,none⟩) h7).trans (h8 j hj)⟩
theorem Bk'.nil (w:World) (B:Nat):Bk' w B (.slice none 0 0) 0 0:=⟨none,0,rfl,nL _,by omega,by simp,fun h=>absurd h (by omega)⟩
def Nt (w:World) (v:Value) (x:Nat):Prop:=As' w w.heap.size v x
theorem Nt.keep (h:Nt w v x) (hb:Below w.heap.size w w'):Nt w' v x:=As'.mono h hb hb.size
theorem Ae' (h:Below w.heap.size w w1) (k:Below w1.heap.size w1 w2):Below w.heap.size w w2:=h.trans (k.mono h.size)
theorem Nt.zero (w:World):Nt w (.slice none 0 0) 0:=As'.zero _ _
theorem Az.refl (g:Nat) (w:World):Az g w w:=⟨rfl,rfl,rfl,nL _,fun _ _ _=>rfl⟩
theorem Az.trans (h:Az g w w1) (k:Az g w1 w2):Az g w w2 :=
 ⟨k.os.trans h.os,k.tape.trans h.tape,k.output.trans h.output,nT h.size k.size,fun i hi hne=>(k.block i (ltl hi h.size) hne).trans (h.block i hi hne)⟩
theorem Az.of_below (h:Below w.heap.size w w1):Az g w w1:=⟨h.os,h.tape,h.output,h.size,fun i hi _=>h.block i hi⟩
theorem Az.below (h:Az g w w1) (hB:B≤w.heap.size) (hg:B≤g):Below B w w1 :=
 ⟨h.os,h.tape,h.output,h.size,fun k hk=>h.block k (by omega) (by simp;omega)⟩
theorem Az.set (w:World) (g o:Nat) (u:Value):Az g w (w.setCell ⟨g,o,none⟩ u) :=
 ⟨rfl,rfl,rfl,by simp [World.setCell],fun k _ hk=>Below.heap_setCell _ _ _ _ (fun e=>hk (by simp [e]))⟩
theorem Az.drew (h:Az g w w1):Az g w w1.drew:=⟨h.os,h.tape,h.output,h.size,h.block⟩
theorem AK'.lt (h:AK' w g cs):g<w.heap.size:=(gE.1 h.1).1
theorem AK'.cell (h:AK' w g cs) {i:Nat} (hi:i<cs.length):w.cell? ⟨g,i,none⟩=some (.int .u64 (cs.getD i 0:Nat)):=by
 rw [cR w g i _ _ _ h.1]
 simp [hi]
theorem AK'.frozen (h:AK' w g cs) (i:Nat):w.frozen? ⟨g,i,none⟩=false:=fR w g i _ _ h.1
theorem AK'.set (h:AK' w g cs) {i d:Nat} (hd:d<W):AK' (w.setCell ⟨g,i,none⟩ (.int .u64 (d:Nat))) g (cs.set i d):=by
 refine ⟨?_,fun e he=>?_⟩
 · rw [heap_setCell_same w g i _ _ _ h.1]
   simp [List.map_set]
 · rcases List.mem_or_eq_of_mem_set he with h1 | h1
   · exact h.2 e h1
   · subst h1;exact hd
theorem AK'.keep (h:AK' w g cs) (hb:w'.heap[g]?=w.heap[g]?):AK' w' g cs:=⟨hb.trans h.1,h.2⟩
theorem AK'.getD_lt (h:AK' w g cs) (i:Nat):cs.getD i 0<W:=by
 rw [List.getD_eq_getElem?_getD]
 cases hg:cs[i]? with
 | none=>simpa using W_pos
 | some d=>simpa using h.2 d (List.mem_of_getElem? hg)
end
theorem AK'.reads {w:World} {g:Nat} {cs:List Nat} (h:AK' w g cs) {o n c:Nat} (hn:o+n≤cs.length) (hc:n≤c) (hc2:c≤1125899906842624) :
   Bk' w (g+1) (.slice (some ⟨g,o,none⟩) n c) n (seg cs o n) :=
 ⟨_,c,rfl,hc,hc2,Br' h.2 o n,fun _=>⟨g,o,rfl,by omega,fun j hj=>by rw [h.cell (by omega),ET h.2 hj]⟩⟩
def AI (w:World) (x:Nat) (e:Ending) (w':World):Prop:=∃ v,e=.returned v∧Nt w' v x∧Below w.heap.size w w'
def Be (w:World) (B x:Nat) (e:Ending) (w':World):Prop:=∃ v,e=.returned v∧As' w B v x∧w=w'
def downI:Nat→Int
  | 0 => -1
  | p+1=>(p:Int)
theorem AM' (k:Nat):downI k=(k:Int) - 1:=by cases k <;> simp [downI];
def Co' (w:World) (u:Value) (e:Ending) (w':World):Prop:=e=.returned u∧∃ n,w'=w.drewN n
def Bs (w:World) (u:Value) (e:Ending) (w':World):Prop:=e=.returned u∧w=w'
theorem Eo {w:World} {a b:Bool} (h:a=b):Bs w (.bool b) (.returned (.bool a)) w:=⟨by rw [h],rfl⟩
theorem Bh' {w:World} {k:IntKind} {a b:Int} (h:a=b):Bs w (.int k b) (.returned (.int k a)) w:=⟨by rw [h],rfl⟩
theorem FW {P:Program} {f:FuncId} {args:Array Value} {w:World} {n:Nat} {v:Value} (h:Calls P f args (w.drewN n) (Bs (w.drewN n) v)) :
   Calls P f args (w.drewN n) fun e w''=>e=.returned v∧∃ m,w''=w.drewN m:=h.mono fun _ _ ⟨a,b⟩=>⟨a,n,b.symm⟩
theorem Fq {P:Program} {f:FuncId} {args:Array Value} {w:World} {n:Nat} {v:Value} (h:Calls P f args (w.drewN n) (Co' (w.drewN n) v)) :
   Calls P f args (w.drewN n) fun e w''=>e=.returned v∧∃ m,w''=w.drewN m:=h.mono fun _ _ ⟨a,m,b⟩=>⟨a,n+m,by rw [b,World.drewN_drewN]⟩
theorem Aw (w:World) (n:Nat):Below w.heap.size w (w.drewN n):=⟨rfl,rfl,rfl,nL _,fun _ _=>rfl⟩
theorem Nt.drewN {w:World} {v:Value} {x:Nat} (h:Nt w v x) (n:Nat):Nt (w.drewN n) v x:=h.keep (Aw w n)
def lo (n:Nat):Nat:=n%18446744073709551616
def hi (n:Nat):Nat:=n / 18446744073709551616
def dlo (x y b:Nat):Nat:=(x+18446744073709551616 - y - b)%18446744073709551616
def dhi (x y b:Nat):Nat:=if x<y+b then 1 else 0
theorem CE (n:Nat):lo n<W:=Nat.mod_lt _ (by omega)
theorem B5' (n:Nat):lo n+W*hi n=n:=Nat.mod_add_div n _
theorem ET' {x y c:Nat} (hx:x<W) (hy:y<W) (hc:c≤1):hi (x+y+c)≤1:=by
 unfold W at hx hy;unfold hi;omega
theorem dlo_lt (x y b:Nat):dlo x y b<W:=Nat.mod_lt _ (by omega)
theorem EU (x y b:Nat):dhi x y b≤1:=by unfold dhi;split <;> omega
theorem EP {x y b:Nat} (hx:x<W) (hy:y<W) (hb:b≤1):dlo x y b+y+b=x+W*dhi x y b:=by
 unfold W at *;unfold dlo dhi;split <;> omega
theorem EP' {x y c:Nat} (hc:c≤1) (w:World) :
   (callFunc 137 #[.int .u64 (x:Nat),.int .u64 (y:Nat),.int .u64 (c:Nat)]).run Tryz.prog w =
     .ok (.value (.tuple #[.int .u64 (lo (x+y+c):Nat),.int .u64 (hi (x+y+c):Nat)])) w:=by
 rw [run_callFunc_extern Tryz.func137 (by kernel_rfl) (by kernel_rfl) (by kernel_rfl) (e:=add64Entry) (by kernel_rfl),run_add64 x y c (by omega) (by omega) (by omega) (by omega)]
 simp only [Result.andThen]
 unfold lo hi
 congr 5 <;> omega
theorem IK' {x c:Nat} (hc:c≤1) (w:World) :
   (callFunc 137 #[.int .u64 (x:Nat),.int .u64 0,.int .u64 (c:Nat)]).run Tryz.prog w =
     .ok (.value (.tuple #[.int .u64 (lo (x+0+c):Nat),.int .u64 (hi (x+0+c):Nat)])) w:=EP' (x:=x) (y:=0) hc w
theorem EU' {x y:Nat} (w:World) :
   (callFunc 137 #[.int .u64 (x:Nat),.int .u64 (y:Nat),.int .u64 0]).run Tryz.prog w =
     .ok (.value (.tuple #[.int .u64 (lo (x+y+0):Nat),.int .u64 (hi (x+y+0):Nat)])) w:=EP' (x:=x) (y:=y) (c:=0) (by omega) w
theorem FW' {x y b:Nat} (hb:b≤1) (w:World) :
   (callFunc 131 #[.int .u64 (x:Nat),.int .u64 (y:Nat),.int .u64 (b:Nat)]).run Tryz.prog w =
     .ok (.value (.tuple #[.int .u64 (dlo x y b:Nat),.int .u64 (dhi x y b:Nat)])) w:=by
 rw [run_callFunc_extern Tryz.func131 (by kernel_rfl) (by kernel_rfl) (by kernel_rfl) (e:=sub64Entry) (by kernel_rfl),run_sub64 x y b hb]
 rfl
theorem IL {x b:Nat} (hb:b≤1) (w:World) :
   (callFunc 131 #[.int .u64 (x:Nat),.int .u64 0,.int .u64 (b:Nat)]).run Tryz.prog w =
     .ok (.value (.tuple #[.int .u64 (dlo x 0 b:Nat),.int .u64 (dhi x 0 b:Nat)])) w:=FW' (x:=x) (y:=0) hb w
theorem EV {x y:Nat} (w:World) :
   (callFunc 131 #[.int .u64 (x:Nat),.int .u64 (y:Nat),.int .u64 0]).run Tryz.prog w =
     .ok (.value (.tuple #[.int .u64 (dlo x y 0:Nat),.int .u64 (dhi x y 0:Nat)])) w:=FW' (x:=x) (y:=y) (b:=0) (by omega) w
theorem Cx' {z k:Nat} (h:word z k=0):z%W^(k+1)=z%W^k:=by rw [AB,h];simp
theorem CQ' {z k:Nat} (h:word z k≠0):len (z%W^(k+1))=k+1:=by
 have h1:=AA (Nat.mod_lt z (AH' (k+1)))
 rcases Nat.lt_or_ge (len (z%W^(k+1))) (k+1) with h2 | h2
 · have h3:z%W^(k+1)<W^k:=ltl (Ao _) (Nat.pow_le_pow_right W_pos (by omega))
   rw [AB] at h3
   have h4:=Nat.lt_of_le_of_lt (Nat.le_add_left _ _) h3
   have:W^k*1≤W^k*word z k:=mL _ (by omega)
   omega
 · omega
theorem Cb {z k j:Nat} (h:j<k):word (z%W^k) j=word z j:=by
 unfold word
 obtain ⟨d,rfl⟩:∃ d,k=j+(1+d):=⟨k - j - 1,by omega⟩
 rw [Nat.pow_add,Nat.mod_mul_right_div_self,Nat.pow_add,Nat.pow_one,Nat.mod_mul_right_mod]
def B6' (A:Option Addr) (c z:Nat):Value:=if z=0 then .slice none 0 0 else .slice A (len z) c
theorem Dy {w:World} {B n c z:Nat} {A:Option Addr} (h:Bk' w B (.slice A n c) n z) :
   Calls Tryz.prog 105 #[.slice A n c] w (fun e w'=>e=.returned (B6' A c z)∧w'=w):=by
 obtain ⟨A',c',e,hn,hc,hz,hp⟩:=h
 simp only [Value.slice.injEq,true_and] at e
 obtain ⟨rfl,rfl⟩:=e
 go_enter Tryz.func105,Tryz.ntmps105
 go_wp2_with fail
 go_loop [3] (fun i=>∃ k:Nat,k≤n∧i=.int .i64 k∧Hid (z%W^k=z)) (fun i=>(intOf i).toNat)
 case atStart=>exact ⟨n,by omega,rfl,Nat.mod_eq_of_lt hz⟩
 case round =>
   obtain ⟨k,hk,rfl,hm⟩:=hrel
   rcases Nat.eq_zero_or_pos k with h0 | h0
   · subst h0
     go_wp2_with fail
     go_ret
     have:z=0:=by have:=hm.out;simpa [Nat.mod_one] using this.symm
     exact ⟨by rw [B6',if_pos this];rfl,rfl⟩
   · obtain ⟨g,o,rfl,hg,hcell⟩:=hp (by omega)
     have h1:=hcell (k - 1) (by omega)
     obtain ⟨p,rfl⟩:∃ p,k=p+1:=⟨k - 1,by omega⟩
     rw [Nat.add_sub_cancel] at h1
     by_cases hw:word z p=0
     · rw [hw] at h1
       go_wp2_with fail
       go_round
       case rel=>exact ⟨p,by omega,by go_num,by have:=hm.out;rwa [Cx' hw] at this⟩
       case measure=>simp [intOf]
     · have hlen:=CQ' hw
       rw [hm.out] at hlen
       have hz0:z≠0:=by intro e;rw [e,AG'] at hlen;omega
       have ht:((word z p:Nat):Int)≠0:=by omega
       have ht2:(((word z p:Nat):Int)==0)=false:=by rw [beq_eq_false_iff_ne];exact ht
       have Hl:=hid hlen;clear hlen
       clear hcell hw ht
       go_wp2_with fail
       go_ret
       exact ⟨by rw [B6',if_neg hz0,Hl.out];rfl,rfl⟩
theorem Bk'.trimmed {w:World} {B n c z:Nat} {A:Option Addr} (h:Bk' w B (.slice A n c) n z):As' w B (B6' A c z) z:=by
 obtain ⟨A',c',e,hn,hc,hz,hp⟩:=h
 simp only [Value.slice.injEq,true_and] at e
 obtain ⟨rfl,rfl⟩:=e
 by_cases h0:z=0
 · subst h0;rw [B6',if_pos rfl];exact As'.zero _ _
 · have hl:=AA hz
   have hpos:=Ak.2 (Nat.pos_of_ne_zero h0)
   obtain ⟨g,o,rfl,hg,hcell⟩:=hp (by omega)
   rw [B6',if_neg h0]
   exact ⟨_,c,rfl,by omega,hc,fun e=>absurd e h0,fun _=>⟨g,o,rfl,hg,fun j hj=>hcell j (by omega)⟩⟩
theorem AV' {w:World} {B n z:Nat} {v:Value} (h:Bk' w B v n z) :
   Calls Tryz.prog 105 #[v] w (Be w B z):=by
 obtain ⟨A,c,rfl,_⟩:=id h
 exact (Dy h).mono fun e w' ⟨h1,h2⟩=>⟨_,h1,h.trimmed,h2.symm⟩
end Go.Proofs.YtflopjfnppolgaaGreatDoor
