/-
  Contracts of the functions that the law calls, for every input (Rh Rp Rv).
-/
import Derived.Test.YtbigkkjnhcpgiaaGreatDoorQ00
import Derived.Test.YtbigkkjnhcpgiaaGreatDoorQ26
import Derived.Test.YtbigkkjnhcpgiaaGreatDoorQ31
import Derived.Test.YtbigkkjnhcpgiaaGreatDoorQ18
import Derived.Deep.LoopGhost
set_option linter.all false
set_option maxRecDepth 100000
set_option maxHeartbeats 40000000
namespace Go.Proofs.YtbigkkjnhcpgiaaGreatDoor.Rf
open Lib (hid)
open Go.RowKit
open Rx
theorem I3 {n k:Nat} (h:n / V^k=0) (hk:k≤len n):len n=k:=by
 have h1:n<V^k:=by
   rcases Nat.lt_or_ge n (V^k) with h2 | h2
   · exact h2
   · have:=Nat.div_pos h2 (AS k);rw [h] at this;exact absurd this (by decide)
 exact Nat.le_antisymm (Av h1) hk
theorem I3' {n k m:Nat} (h:n / V^k=m) (h0:0<m):word n k=m%65536∧n / V^(k+1)=m / 65536∧k+1≤len n:=by
 refine ⟨by unfold word;rw [h];rfl,by rw [Nat.pow_succ,←Nat.div_div_eq_div_mul,h];rfl,?_⟩
 rcases Nat.lt_or_ge k (len n) with h1 | h1
 · exact h1
 · have h2:n<V^k:=ltl (Ak' n) (Nat.pow_le_pow_right Br' h1)
   rw [Nat.div_eq_of_lt h2] at h
   omega
theorem FX' {n:Nat} (h:n<18446744073709551616):len n≤4:=Av (n:=4) (ltl h (by decide +kernel))
theorem Fd {w:World} {n:Nat} (hn:n<18446744073709551616) :
   Calls Tryz.prog 88 #[.int .u64 (n:Nat)] w (Cl' w n):=by
 have hn5:=FX' hn
 clear hn
 go_enter Tryz.func88,Tryz.ntmps88
 go_wp2_with fail
 go_loopw [0,3] (fun p v wr=>∃ k m:Nat,p=.int .u64 (m:Nat)∧Hid (n / V^k=m)∧k≤len n∧Hid (BF' w wr v n k)∧Hid (Below w.heap.size w wr)) (fun p _ _=>(intOf p).toNat)
 case atStart=>exact ⟨0,n,rfl,by show _=_;simp,Nat.zero_le _,Cm w,Ag' w _⟩
 case round =>
   obtain ⟨k,m,rfl,hm,hk,hown,hbl⟩:=hrel
   rcases Nat.eq_zero_or_pos m with h0 | h0
   · have hlen:=I3 (by rw [←h0];exact hm.out) hk
     have F:∀ v,BF' w wr v n k→Ak wr v n:=fun v h=>by unfold Ak;rw [hlen];exact A4'.of_row h (by rw [←hlen];exact Ak' n)
     have F:=hid (F _ hown.out)
     have t1:decide (((m:Nat):Int)>0)=false:=dF_ (by omega)
     have t2:((m:Nat):Int)≤0:=by omega
     clear h0 hlen hk hm hn5
     go_wp2_with fail
     go_ret
     exact ⟨_,rfl,F.out,hbl.out⟩
   · obtain ⟨e1,e2,e3⟩:=I3' hm.out h0
     obtain ⟨d,hd⟩:=eY (word n k)
     obtain ⟨m',hm'⟩:∃ m',n / V^(k+1)=m':=⟨_,rfl⟩
     have hdl:=word_lt n k
     rw [hd] at hdl e1
     rw [hm'] at e2
     unfold V at hdl
     have hand:bits .and .u64 ((m:Nat):Int) 65535=((d:Nat):Int):=by rw [IY,e1]
     have hwr:=Gp' hdl
     have hshr:((m:Nat):Int) / 65536=((m':Nat):Int):=by omega
     have hlt:m'<m:=by omega
     have hk9:k≤2199023255552:=by omega
     replace hd:=hid hd
     replace hm':=hid hm'
     replace e3:=hid e3
     replace hm:=hid hm.out
     clear e1 e2 hdl hk hn5
     go_wp2_with (at_builtin;refine Ce rfl _ _ rfl rfl hown.out hbl.out hd.out hk9 rfl ?_;intro v' w1 hown' hb')
     go_roundw
     case rel=>exact ⟨k+1,m',rfl,hm'.out,e3.out,hown',hb'⟩
     case measure=>simp [intOf];omega
open List renaming getElem?_toArray → lg, getElem?_cons_zero → lz, getElem?_cons_succ → ls, setIfInBounds_toArray → lt, set_cons_zero → ly, set_cons_succ → lu
theorem Bz' {n:Nat} (h:n<65536) (h0:0<n):len n=1:=Be h0 h
theorem CG' (w:World) {n:Nat} (h:n<65536) (h0:0<n):Ak (w.alloc (.cells #[.int .i64 ((n:Nat):Int)] 3)) (.slice (some ⟨w.heap.size,0,none⟩) 1 1) n:=by
 have h1:=Bz' h h0
 refine ⟨some ⟨w.heap.size,0,none⟩,1,by rw [h1],by rw [h1];exact nL _,by decide,by rw [h1];exact Nat.lt_of_lt_of_eq h (Nat.pow_one _).symm,fun _=>⟨w.heap.size,0,rfl,by rw [World.size_alloc];omega,fun j hj=>?_⟩⟩
 rw [h1] at hj
 obtain rfl:j=0:=by omega
 have e:word n 0=n:=by unfold word;rw [Nat.pow_zero,Nat.div_one];exact Nat.mod_eq_of_lt h
 rw [e]
 exact cR _ _ 0 _ _ _ (hA_ w _)
theorem Cv' {l:List UInt8} (h:l.all AH'=true):len (valL l)≤l.length :=
 Av (ltl (Ef' h) (Nat.pow_le_pow_left (by decide) _))
theorem Hh' {c:UInt8} (h:AH' c=true):48≤c.toNat∧c.toNat≤57:=by simpa [AH'] using h
def Fd' (w:World) (l:List UInt8) (e:Ending) (w':World):Prop:=∃ v,e=.returned (.tuple #[v,.bool (AT l)])∧(AT l=true→Ak w' v (valL l))∧Below w.heap.size w w'
theorem Bq' {w:World} {s:ByteArray} (hs:s.size≤1048576):Calls Tryz.prog 120 #[.string s] w (Fd' w s.data.toList):=by
 have hsi:((s.size:Nat):Int)≤1048576:=by omega
 go_enter Tryz.func120,Tryz.ntmps120
 go_wp2_with fail
 go_loopw [4,5] (fun xv iv wr=>∃ k:Nat,k≤s.size∧iv=.int .i64 ((k:Nat):Int)∧Hid ((s.data.toList.take k).all AH'=true)∧Hid (Ak wr xv (valL (s.data.toList.take k)))∧Hid (Below w.heap.size w wr)) (fun _ iv _=>s.size - (intOf iv).toNat)
 case atStart=>exact ⟨0,Nat.zero_le _,rfl,rfl,DN' _ _,Ag' w _⟩
 case round =>
   obtain ⟨k,hk,rfl,HA,hxv,hbl⟩:=hrel
   rcases Nat.lt_or_ge k s.size with hlt | hge
   · have hki:((k:Nat):Int)<((s.size:Nat):Int):=by omega
     by_cases hc:AH' s[k]=true
     · have HA2:=hid (E8' hlt HA.out hc)
       obtain ⟨hc1,hc2⟩:=Hh' hc
       have hval0:valL (s.data.toList.take (k+1))=valL (s.data.toList.take k)*10+(s[k].toNat - 48):=by rw [Dj hlt,Ew']
       have hsz:=Cv' HA.out
       rw [List.length_take] at hsz
       obtain ⟨m,hm⟩:=eY (s[k].toNat - 48)
       obtain ⟨X,hX⟩:=eY (valL (s.data.toList.take k))
       rw [hX,hm] at hval0
       rw [hX] at hxv hsz
       have hval:=hid hval0.symm
       have hm64:m<18446744073709551616:=by omega
       have hs2:len (X*10)≤1099511627776:=by
         have h1:=Ap X 10
         have h2:len 10=1:=Bz' (by decide) (by decide)
         omega
       have hs3:len m≤1099511627776:=nT (FX' hm64) (by decide)
       have d1:decide (((s[k].toNat:Nat):Int)<48)=false:=dF_ (by omega)
       have d2:decide ((57:Int)<((s[k].toNat:Nat):Int))=false:=dF_ (by omega)
       have d3:(48:Int)≤((s[k].toNat:Nat):Int):=by omega
       have d4:((s[k].toNat:Nat):Int)≤57:=by omega
       have d5:((s[k].toNat:Nat):Int) - 48=((m:Nat):Int):=by omega
       have d6:IntKind.u8.wrap (((s[k].toNat:Nat):Int) - 48)=((m:Nat):Int):=by rw [d5,IntKind.wrap_u8];omega
       have d7:IntKind.u64.wrap ((m:Nat):Int)=((m:Nat):Int):=by rw [IntKind.wrap_u64];omega
       have d8:IntKind.u8.wrap ((m:Nat):Int)=((m:Nat):Int):=by rw [IntKind.wrap_u8];omega
       replace hm:=hid hm
       replace hX:=hid hX
       replace hs2:=hid hs2
       replace hs3:=hid hs3
       clear hc1 hc2 hc hval0
       have hXl:len X≤1099511627776:=by omega
       obtain ⟨Ax,cx,rfl,-,-,-,-⟩:=id hxv.out
       go_wp2_with fail
       refine wp_region_held_drew (S:=(fun w'=>0≤w'.heap.size)) (by kernel_rfl) ?_ (fun hHeld=>?_)
       · (try dsimp only)
         exact Nat.zero_le _
       obtain ⟨u0,hu0⟩:=eX wr.drew
       have b0:Below wr.heap.size wr u0:=by rw [hu0];exact AO' wr
       rw [←hu0] at hHeld ⊢
       clear hu0
       obtain ⟨u1,hu1⟩:=eX (u0.alloc (.cells #[.int .i64 10] 3))
       have b1:=Ag' u0 (.cells #[.int .i64 10] 3)
       have hten:=CG' u0 (show 10<65536 by decide) (show 0<10 by decide)
       rw [show (((10:Nat):Int))=10 from rfl,←hu1] at hten
       rw [←hu1] at b1
       have HT:=hid (AX ((hxv.out.keep b0).keep b1) hten (by omega) (by rw [Bz' (by decide) (by decide)];decide))
       replace hu1:=hid hu1
       replace b0:=hid b0
       replace b1:=hid b1
       clear hten
       refine tk (i:=0) (h:=?_)
       try simp only [Act.put,lt,ly,lu]
       refine tk (i:=3) (h:=?_)
       try simp only [Act.put,lt,ly,lu]
       refine tk (i:=4) (h:=?_)
       try simp only [Act.put,lt,ly,lu]
       refine tk (i:=5) (h:=?_)
       try simp only [Act.put,lt,ly,lu]
       refine tk (i:=6) (h:=?_)
       try simp only [Act.put,lt,ly,lu]
       refine tk (i:=7) (h:=?_)
       try simp only [Act.put,lt,ly,lu]
       refine rd (i:=1) (h:=fun K hK=>?_)
       go_simp
       rw [←hu1.out]
       refine hK.out _ _ ?_ (fun hHeld2=>?_)
       · (try dsimp only)
         exact Nat.zero_le _
       clear hK K hHeld
       try simp only [Act.put,lt,ly,lu]
       have hHeld:=hHeld2
       clear hHeld2
       refine rd (i:=2) (h:=fun K hK=>?_)
       go_simp;go_at_call 76
       refine (HT.out).mono ?_
       rintro e u2 ⟨v2,rfl,hv2,b2⟩
       replace hv2:=hid hv2
       replace b2:=hid b2
       obtain ⟨A2,c2,rfl,-,-,-,-⟩:=id hv2.out
       clear HT
       refine hK.out _ _ ?_ (fun hHeld2=>?_)
       · (try dsimp only)
         exact Nat.zero_le _
       clear hK K hHeld
       try simp only [Act.put,lt,ly,lu]
       have hHeld:=hHeld2
       clear hHeld2
       refine rd (i:=8) (h:=fun K hK=>?_)
       go_simp;go_at_call 88
       refine (Fd hm64).mono ?_
       rintro e u3 ⟨v3,rfl,hv3,b3⟩
       have hv2':=hid (hv2.out.keep b3)
       replace hv3:=hid hv3
       replace b3:=hid b3
       obtain ⟨A3,c3,rfl,-,-,-,-⟩:=id hv3.out
       clear hv2
       refine hK.out _ _ ?_ (fun hHeld2=>?_)
       · (try dsimp only)
         exact Nat.zero_le _
       clear hK K hHeld
       try simp only [Act.put,lt,ly,lu]
       have hHeld:=hHeld2
       clear hHeld2
       refine rd (i:=9) (h:=fun K hK=>?_)
       go_simp;go_at_call 89
       refine (DN hv2'.out hv3.out hs2.out hs3.out).mono ?_
       rintro e u4 ⟨v4,rfl,hv4,b4⟩
       replace hv4:=hid hv4
       replace b4:=hid b4
       refine hK.out _ _ ?_ (fun hHeld2=>?_)
       · (try dsimp only)
         exact Nat.zero_le _
       clear hK K hHeld
       try simp only [Act.put,lt,ly,lu]
       have hHeld:=hHeld2
       clear hHeld2
       refine tk (i:=10) (h:=?_)
       try simp only [Act.put,lt,ly,lu]
       refine wpAnyH_done (by kernel_rfl) ?_ _
       clear hHeld
       have hbl9:=hid (chain hbl.out (chain b0.out (chain b1.out (chain b2.out (chain b3.out b4.out)))))
       go_wp2_with fail
       go_roundw
       case rel=>exact ⟨k+1,by omega,by go_num,HA2,by rw [hval.out] at hv4;exact hv4,hbl9⟩
       case measure=>simp [intOf];omega
     · have hnd:=hid (FS' hlt (by simpa using hc))
       have fin:∀ v,Fd' w s.data.toList (.returned (.tuple #[v,.bool false])) wr:=fun v=>⟨v,by rw [hnd.out],(fun h=>by rw [hnd.out] at h;cases h),hbl.out⟩
       have F:=hid (fin (.slice none 0 0))
       clear fin
       by_cases h1:s[k].toNat<48
       · have d1:decide (((s[k].toNat:Nat):Int)<48)=true:=dT_ (by omega)
         have d3:((s[k].toNat:Nat):Int)<48:=by omega
         clear hc h1
         go_wp2_with fail
         go_ret2
         exact F.out
       · have hc9:57<s[k].toNat:=by
           rcases Nat.lt_or_ge 57 s[k].toNat with h2 | h2
           · exact h2
           · exact absurd (show AH' s[k]=true by unfold AH';exact dT_ ⟨by omega,h2⟩) hc
         have d1:decide (((s[k].toNat:Nat):Int)<48)=false:=dF_ (by omega)
         have d2:decide ((57:Int)<((s[k].toNat:Nat):Int))=true:=dT_ (by omega)
         have d3:(48:Int)≤((s[k].toNat:Nat):Int):=by omega
         have d4:(57:Int)<((s[k].toNat:Nat):Int):=by omega
         clear hc h1 hc9
         go_wp2_with fail
         go_ret2
         exact F.out
   · obtain rfl:k=s.size:=by omega
     have hall:s.data.toList.take s.size=s.data.toList:=List.take_of_length_le (Nat.le_of_eq (Array.length_toList (xs:=s.data)))
     rw [hall] at HA hxv
     obtain ⟨bz,hbz⟩:=eY (decide (0<s.size))
     have hd:AT s.data.toList=bz:=by
       unfold AT
       rw [HA.out,Bool.and_true,←hbz]
       have h1:s.data.toList.length=s.size:=Array.length_toList (xs:=s.data)
       rw [←h1]
       cases s.data.toList <;> simp
     have F:Fd' w s.data.toList (.returned (.tuple #[u4,.bool bz])) wr:=⟨u4,by rw [hd],fun _=>hxv.out,hbl.out⟩
     replace F:=hid F
     have hbz2:decide (((s.size:Nat):Int)>0)=bz:=by rw [←hbz,decide_eq_decide];omega
     clear hd
     go_wp2_with fail
     go_ret2
     exact F.out
theorem Fe {w:World} {vx:Value} (hx:Ak w vx 0):Calls Tryz.prog 132 #[vx] w (A9' w (AB 0)):=by
 obtain ⟨A,c,rfl,-,-,-,-⟩:=hx
 rw [Ax']
 have F:Ending.returned (.string { data:=#[48] })=.returned (.string ⟨(AB 0).toArray⟩):=by
   have:AB 0=[48]:=by decide +kernel
   rw [this]
 replace F:=hid F
 go_enter Tryz.func132,Tryz.ntmps132
 go_wp2_with fail
 go_ret
 exact ⟨F.out,Below.refl _ _⟩
theorem Fe' {w:World} {vx:Value} {x:Nat} (hx:Ak w vx x) (sx:len x≤1048576):Calls Tryz.prog 132 #[vx] w (A9' w (AB x)):=by
 rcases Nat.eq_zero_or_pos x with h | h
 · subst h;exact Fe hx
 · exact FF hx h sx
theorem Ff {d t f c:Nat} (h:d=2^t*5^f*c) (h2:c%2=1) (h5:c%5≠0):vp 2 d=t∧vp 5 d=f:=by
 have odd5:∀ f,5^f%2=1:=fun f=>by
   induction f with
   | zero=>rfl
   | succ f ih=>rw [Nat.pow_succ];omega
 constructor
 · have e:d=(5^f*c)*2^t:=by rw [h,Nat.mul_assoc,Nat.mul_comm]
   rw [e]
   refine EQ' (by decide) ?_
   rw [Nat.mul_mod,odd5,h2];decide
 · have e:d=(2^t*c)*5^f:=by rw [h];simp only [Nat.mul_assoc,Nat.mul_comm (5^f) c]
   rw [e]
   refine EQ' (by decide) ?_
   intro h0
   have h1:=Dh' t
   rw [Nat.mul_mod] at h0
   have h6:c%5<5:=Nat.mod_lt _ (by decide)
   have h7:c%5=1∨c%5=2∨c%5=3∨c%5=4:=by omega
   rcases h1 with h1 | h1 | h1 | h1 <;> rcases h7 with h7 | h7 | h7 | h7 <;> rw [h1,h7] at h0 <;> cases h0
theorem IJ' {d t f c:Nat} (h:d=2^t*5^f*c):c=1↔d=2^t*5^f:=by
 have hp:0<2^t*5^f:=Nat.mul_pos (Nat.pow_pos (by decide)) (Nat.pow_pos (by decide))
 constructor
 · intro e;rw [h,e,Nat.mul_one]
 · intro e
   rw [e] at h
   have:=Nat.eq_of_mul_eq_mul_left hp ((Nat.mul_one _).trans h)
   exact this.symm
theorem Im' {n t f k:Nat} (ht:t≤k) (hf:f≤k):n*10^k / (2^t*5^f)=n*5^(k - f)*2^(k - t):=by
 have hp:0<2^t*5^f:=Nat.mul_pos (Nat.pow_pos (by decide)) (Nat.pow_pos (by decide))
 have e:10^k=(2^t*5^f)*(5^(k - f)*2^(k - t)):=by
   have e2:2^k=2^t*2^(k - t):=by rw [←Nat.pow_add];congr 1;omega
   have e5:5^k=5^f*5^(k - f):=by rw [←Nat.pow_add];congr 1;omega
   rw [show 10=2*5 from rfl,Nat.mul_pow,e2,e5]
   simp only [Nat.mul_assoc,Nat.mul_comm,Nat.mul_left_comm]
 rw [e,Nat.mul_left_comm,Nat.mul_div_cancel_left _ hp,Nat.mul_assoc]
end Go.Proofs.YtbigkkjnhcpgiaaGreatDoor.Rf
