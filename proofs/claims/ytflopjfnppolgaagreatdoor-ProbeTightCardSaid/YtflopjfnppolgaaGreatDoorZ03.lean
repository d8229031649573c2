/-
  Contracts of the functions that the law calls, for every input (Make Small AddInto Add).
-/
import Derived.Test.YtflopjfnppolgaaGreatDoorZ00
import Derived.Test.YtflopjfnppolgaaGreatDoorZ02
import Derived.Laws.CopyOwn
import Derived.Deep.OwnRows
set_option linter.all false
set_option maxRecDepth 100000
set_option maxHeartbeats 40000000
namespace Go.Proofs.YtflopjfnppolgaaGreatDoor
open Lib (hid)
open Go.RowKit
open Vx
def mk (w:World) (n:Nat):World:=w.alloc (.cells (madeCells #[.int .u64 0] n) 101)
theorem infoW:(Tryz.prog.info? 101).map (fun i=>(i.zero,i.size,i.bytes))=some (some (.int .u64 0),1,8):=by kernel_rfl
theorem If':(Tryz.prog.info? 101).map (·.size)=some 1:=by kernel_rfl
theorem Hm':Tryz.prog.underlying 33=some (.slice 101):=by kernel_rfl
theorem BV (z:Int) (n:Nat) (hz:z=n) (hn:n≤17592186044416) (w:World) :
   (Instr.makeSlice 33 (.int .i64 z) (.int .i64 z)).run Tryz.prog w=.ok (.slice (some ⟨w.heap.size,0,none⟩) n n) (mk w n):=by
 subst hz
 exact run_make_row' _ _ _ 8 Hm' infoW rfl .i64 .i64 n (by omega) (by omega) w
theorem B7' (w:World) (n:Nat):AK' (mk w n) w.heap.size (List.replicate n 0):=by
 refine ⟨?_,fun d hd=>by rw [List.eq_of_mem_replicate hd];exact W_pos⟩
 unfold mk
 rw [hA_]
 congr 2
 apply Array.ext'
 simp [madeCells,Nat.mod_one,List.map_const']
theorem Ba' (w:World) (n:Nat):Below w.heap.size w (mk w n):=(Below.refl _ _).alloc (nL _) _
theorem BD (w:World) (n:Nat):(mk w n).heap.size=w.heap.size+1:=by unfold mk;simp
theorem D4' {w:World} {g n c m b B:Nat} {cs:List Nat} {A:Option Addr} {cb:Nat} (hr:AK' w g cs) (hn:n≤cs.length)
   (hb:Bk' w B (.slice A m cb) m b) (hm:m≤n) :
   ∃ w2,(∀ ty,(Builtin.copy_ #[33,33] ty #[.slice (some ⟨g,0,none⟩) n c,.slice A m cb]).run Tryz.prog w=.ok (goInt m) w2) ∧
     Az g w w2∧∃ cs',AK' w2 g cs'∧cs'.length=cs.length∧(∀ j,cs'.getD j 0=if j<m then word b j else cs.getD j 0):=by
 obtain ⟨A',cb',e,h1,h2,h3,h4⟩:=hb
 simp only [Value.slice.injEq,true_and] at e
 obtain ⟨rfl,rfl⟩:=e
 rcases Nat.eq_zero_or_pos m with h0 | h0
 · subst h0
   exact ⟨w,fun ty=>run_copy_none (P:=Tryz.prog) w _ _ ty _ _ _ _ _ _ _ Hm' If' (by simp),Az.refl _ _,cs,hr,rfl,fun j=>by simp⟩
 · obtain ⟨gb,ob,rfl,hg,hc⟩:=h4 h0
   have hmin:Nat.min m n=m:=Nat.min_eq_left hm
   have hrun:=fun (ty:TypeId)=>run_copy_row (P:=Tryz.prog) w 33 33 ty 101 g 0 n c ⟨gb,ob,none⟩ m cb (cs.map fun d=>Value.int .u64 (d:Nat)).toArray 101 ((List.range m).map fun j=>Value.int .u64 (word b j:Nat)) Hm' If' hr.1
       (by simp [hmin]) (fun j v hj=>by
         simp only [List.getElem?_map,Option.map_eq_some_iff] at hj
         obtain ⟨j',hj',rfl⟩:=hj
         have hlt:j<m:=by
           rcases Nat.lt_or_ge j m with h | h
           · exact h
           · rw [List.getElem?_eq_none (by simpa using h)] at hj';cases hj'
         rw [List.getElem?_range hlt] at hj'
         cases hj'
         rw [Addr.add_lit]
         exact hc j hlt) (by simp;omega) (by simp [Value.oneCell'])
   simp only [List.length_map,List.length_range] at hrun
   refine ⟨_,hrun,?_,((List.range m).map (word b)++cs.drop m),?_,?_,?_⟩
   · exact ⟨rfl,rfl,rfl,by simp [World.setRow],fun k _ hk=>setRow_other w g k _ (fun e=>hk (by simp [e]))⟩
   · refine ⟨?_,fun d hd=>?_⟩
     · rw [setRow_heap w g _ _ _ _ hr.1]
       congr 2
       apply Array.ext'
       simp [List.map_append,List.map_map,Function.comp_def]
     · rcases List.mem_append.1 hd with h | h
       · obtain ⟨j,_,rfl⟩:=List.mem_map.1 h;exact word_lt _ _
       · exact hr.2 d (List.mem_of_mem_drop h)
   · simp;omega
   · intro j
     simp only [List.getD_eq_getElem?_getD,List.getElem?_append,List.length_map,List.length_range]
     split
     · rename_i h;simp [List.getElem?_range h]
     · rename_i h
       rw [List.getElem?_drop,show m+(j - m)=j by omega]
theorem AW (n j:Nat):(List.replicate n 0).getD j 0=0:=by
 simp [List.getD_eq_getElem?_getD,List.getElem?_replicate];split <;> rfl
theorem CR {cs:List Nat} {m n b:Nat} (h:∀ j,cs.getD j 0=if j<m then word b j else (List.replicate n 0).getD j 0) (hm:len b≤m) (hn:m≤n):seg cs 0 n=b:=by
 rw [En' (x:=b),AY' (nT hm hn)]
 intro j _
 rw [Nat.zero_add,h j]
 split
 · rfl
 · rw [AW,Cv' (by omega)]
theorem Eo' {w:World} (x:Nat) (hx:x<W):Calls Tryz.prog 94 #[.int .u64 (x:Nat)] w (AI w x):=by
 rcases Nat.eq_zero_or_pos x with h0 | h0
 · subst h0
   go_enter Tryz.func94,Tryz.ntmps94
   go_wp2
   go_ret
   exact ⟨_,rfl,As'.zero _ _,Below.refl _ _⟩
 · have ht:(((x:Nat):Int)==0)=false:=by rw [beq_eq_false_iff_ne];omega
   go_enter Tryz.func94,Tryz.ntmps94
   go_wp2
   go_ret
   refine ⟨_,rfl,⟨_,1,by rw [BH h0 hx];rfl,by rw [BH h0 hx];omega,by omega,fun e=>by omega,fun _=>⟨w.heap.size,0,rfl,by simp,fun j hj=>?_⟩⟩,(Below.refl _ _).alloc (nL _) _⟩
   rw [BH h0 hx] at hj
   obtain rfl:j=0:=by omega
   rw [cR _ _ _ _ _ _ (hA_ w _)]
   simp [word,Nat.mod_eq_of_lt hx]
theorem Bd' {w:World} {x:Nat} {v:Value} (h:Nt w v x):Calls Tryz.prog 73 #[v] w (Bs w (.bool (decide (x=1)))):=by
 obtain ⟨A,c,rfl,hc1,hc2,hz,hp⟩:=h
 have hll:=@BC
 by_cases h1:len x=1
 · obtain ⟨g,o,rfl,hg,hcell⟩:=hp (Ak.1 (by omega))
   have hc:=hcell 0 (by omega)
   have hx:word x 0=x:=by unfold word;rw [Nat.pow_zero,Nat.div_one,Nat.mod_eq_of_lt];have:=Ao x;rwa [h1,Nat.pow_one] at this
   rw [hx,Nat.add_zero] at hc
   have hd:(((x:Nat):Int)==1)=decide (x=1):=by rw [Bool.eq_iff_iff];simp;omega
   have Hd:=hid hd;clear hd hx hll
   rw [h1]
   clear hcell
   go_enter Tryz.func73,Tryz.ntmps73
   go_wp2
   go_ret
   exact Eo Hd.out
 · have ht:(((len x:Nat):Int)==1)=false:=by rw [beq_eq_false_iff_ne];omega
   have hx:¬ x=1:=by intro e;subst e;exact h1 hll
   clear hll h1
   go_enter Tryz.func73,Tryz.ntmps73
   go_wp2
   go_ret
   exact Eo (by simp [hx])
def D5' (w:World) (x:Nat) (e:Ending) (w':World):Prop :=
  (x=0∧e=.returned (.slice none 0 0)∧w'=w) ∨
  (0<x∧∃ cs,e=.returned (.slice (some ⟨w.heap.size,0,none⟩) (len x) (len x))∧AK' w' w.heap.size cs∧cs.length=len x∧seg cs 0 (len x)=x∧Below w.heap.size w w')
theorem BM' {w:World} {x:Nat} {v:Value} (h:Nt w v x) (hs:len x≤17592186044416):Calls Tryz.prog 95 #[v] w (D5' w x):=by
 rcases Nat.eq_zero_or_pos x with h0 | h0
 · subst h0
   rw [As'.zero' h]
   go_enter Tryz.func95,Tryz.ntmps95
   go_wp2
   go_ret
   exact .inl ⟨rfl,rfl,rfl⟩
 · obtain ⟨A,c,rfl,hc1,hc2,hz,hp⟩:=h
   have hl:=Ak.2 h0
   have hlx:(((len x:Nat):Int)==0)=false:=by rw [beq_eq_false_iff_ne];omega
   have hb:Bk' (mk w (len x)) w.heap.size (.slice A (len x) c) (len x) x:=(As'.reads ⟨A,c,rfl,hc1,hc2,hz,hp⟩).mono (Ba' w _) (nL _)
   obtain ⟨w2,hcp,hw2,cs,hr2,hl2,hd2⟩:=D4' (c:=len x) (B7' w (len x)) (by simp) hb (nL _)
   have hseg:=CR hd2 (nL _) (nL _)
   have Hs:=hid hseg
   have Hd:=hid hd2
   have Hl:=hid hl2
   have hmk:=BV (len x) (len x) rfl hs
   clear hseg hd2 hl2 hp
   go_enter Tryz.func95,Tryz.ntmps95
   go_wp2
   go_ret
   exact .inr ⟨h0,cs,rfl,hr2,by rw [Hl.out];simp,Hs.out,(Ba' w _).trans (hw2.below (by rw [BD];omega) (nL _))⟩
theorem D5'.nat {w w':World} {x:Nat} {e:Ending} (h:D5' w x e w') (hs:len x≤17592186044416):AI w x e w':=by
 rcases h with ⟨rfl,rfl,rfl⟩ | ⟨h0,cs,rfl,hr,hl,hseg,hb⟩
 · exact ⟨_,rfl,Nt.zero _,Below.refl _ _⟩
 · refine ⟨_,rfl,⟨_,_,rfl,nL _,by omega,fun e=>by omega,fun _=>⟨w.heap.size,0,rfl,hr.lt,fun j hj=>?_⟩⟩,hb⟩
   rw [hr.cell (by omega),←ET hr.2 hj,hseg]
theorem DJ {w:World} {x:Nat} {v:Value} (h:Nt w v x) (hs:len x≤17592186044416):Calls Tryz.prog 95 #[v] w (AI w x) :=
 (BM' h hs).mono fun _ _ h=>h.nat hs
def CL (w:World) (g:Nat) (cs:List Nat) (o n:Nat) (R:Nat→Nat→Prop) (e:Ending) (w':World):Prop :=
  ∃ cs' k,e=.returned (.int .u64 (k:Nat))∧k<W∧Az g w w'∧AK' w' g cs'∧cs'.length=cs.length∧(∀ i,i<o∨o+n≤i→cs'.getD i 0=cs.getD i 0)∧R (seg cs' o n) k
def AJ (w:World) (g:Nat) (cs:List Nat) (o n:Nat) (R:Nat→Prop) (wr:World):Prop :=
  ∃ cs',Az g w wr∧AK' wr g cs'∧cs'.length=cs.length∧(∀ i,i<o∨o+n≤i→cs'.getD i 0=cs.getD i 0)∧R (seg cs' o n)
theorem AJ.start {w:World} {g o n:Nat} {cs:List Nat} {R:Nat→Prop} (h:AK' w g cs) (hR:R (seg cs o n)):AJ w g cs o n R w :=
 ⟨cs,Az.refl g w,h,rfl,fun _ _=>rfl,hR⟩
theorem AJ.step {w wr:World} {g o n i d:Nat} {cs cs':List Nat} {R:Nat→Prop} (hw:Az g w wr) (hr:AK' wr g cs') (hl:cs'.length=cs.length)
   (hs:∀ i,i<o∨o+n≤i→cs'.getD i 0=cs.getD i 0) (hi:i<n) (hn:o+n≤cs.length) (hd:d<W)
   (hR:∀ z,z+W^i*cs'.getD (o+i) 0=seg cs' o n+W^i*d→R z) :
   AJ w g cs o n R (wr.setCell ⟨g,o+i,none⟩ (.int .u64 (d:Nat))):=by
 refine ⟨cs'.set (o+i) d,hw.trans (Az.set _ _ _ _),hr.set hd,by simpa using hl,fun j hj=>?_,?_⟩
 · rw [getD_set,if_neg (by omega)];exact hs j hj
 · exact hR _ (CK' hi (by omega))
theorem Dy' {P z z' s bm bw d c k l h:Nat} (e1:z+P*c=s+bm) (e2:z'+P*d=z+P*l) (e3:l+W*h=d+bw+c) (hk:k=P*W) :
   z'+k*h=s+(bm+P*bw):=by
 subst hk
 have:=congrArg (P * ·) e3
 simp only [Nat.mul_add,←Nat.mul_assoc] at this
 omega
theorem BS' {w:World} {g o n c B:Nat} {cs:List Nat} {vb:Value} {b:Nat} (hr:AK' w g cs) (hon:o+n≤cs.length) (hlen:cs.length≤1125899906842624) (hb:As' w B vb b) (hB:B≤g) (hbn:len b≤n) :
   Calls Tryz.prog 130 #[.slice (some ⟨g,o,none⟩) n c,vb] w (CL w g cs o n fun z k=>z+W^n*k=seg cs o n+b∧k≤1):=by
 obtain ⟨A,cb,rfl,hc1,hc2,hz,hp⟩:=hb
 have hadd:=@EP'
 have hadd0:=@IK'
 go_enter Tryz.func130,Tryz.ntmps130
 go_wp2_with fail
 go_loopw [5,11] (fun cv i wr=>∃ k c:Nat,k≤len b∧i=.int .i64 k∧cv=.int .u64 c∧c≤1∧AJ w g cs o n (fun z=>z+W^k*c=seg cs o n+b%W^k) wr) (fun _ i _=>len b - (intOf i).toNat)
 case atStart=>exact ⟨0,0,by omega,rfl,rfl,by omega,AJ.start hr (by simp [Nat.mod_one])⟩
 case round =>
   obtain ⟨k,cy,hk,rfl,rfl,hcy,cs1,hw1,hr1,hl1,hs1,hR1⟩:=hrel
   by_cases hlt:k<len b
   · obtain ⟨gb,ob,rfl,hgb,hcell⟩:=hp (Ak.1 (by omega))
     have h1:wr.cell? ⟨gb,ob+k,none⟩=some (.int .u64 (word b k:Nat)):=(World.cell?_of_block (hw1.block gb (by have:=hr.lt;omega) (by simp;omega))).trans (hcell k hlt)
     have h2:=hr1.cell (i:=o+k) (by omega)
     have h3:=hr1.frozen (o+k)
     have hd:=hr1.getD_lt (o+k)
     generalize hdd:cs1.getD (o+k) 0=d at h2 hd
     have Hd:=hid hdd;clear hdd
     have HR:=hid hR1;clear hR1
     have HL:=hid hl1;clear hl1
     go_wp2_with fail
     go_roundw
     case rel =>
       refine ⟨k+1,hi (d+word b k+cy),by omega,by go_num,rfl,ET' hd (word_lt _ _) hcy,?_⟩
       refine AJ.step hw1 hr1 HL.out hs1 (by omega) hon (CE _) fun z hz=>?_
       rw [Hd.out] at hz
       rw [AB]
       exact Dy' HR.out hz (B5' _) (Nat.pow_succ ..)
     case measure=>simp [intOf];omega
   · obtain rfl:k=len b:=by omega
     have HR:=hid hR1;clear hR1
     have HL:=hid hl1;clear hl1
     go_wp2_with fail
     go_loopw [5,8] (fun cv i wr=>∃ k c:Nat,len b≤k∧k≤n∧i=.int .i64 k∧cv=.int .u64 c∧c≤1∧AJ w g cs o n (fun z=>z+W^k*c=seg cs o n+b) wr) (fun _ i _=>n - (intOf i).toNat)
     case atStart =>
       refine ⟨len b,cy,by omega,by omega,rfl,rfl,hcy,cs1,hw1,hr1,HL.out,hs1,?_⟩
       have:=HR.out
       rwa [AY' (nL _)] at this
     case round =>
       clear hw1 hr1 hs1 HR HL hcy
       obtain ⟨k,cy,hk1,hk2,rfl,rfl,hcy,cs1,hw1,hr1,hl1,hs1,hR1⟩:=hrel
       have h2:=fun (hh:k<n)=>hr1.cell (i:=o+k) (by omega)
       have h3:=hr1.frozen (o+k)
       have hd:=hr1.getD_lt (o+k)
       generalize hdd:cs1.getD (o+k) 0=d at h2 hd
       have Hd:=hid hdd;clear hdd
       have HR:=hid hR1;clear hR1
       have HL:=hid hl1;clear hl1
       by_cases hlt:k<n
       · have h2':=h2 hlt
         clear h2
         by_cases hne:cy=0
         · subst hne
           go_wp2_with fail
           go_ret
           exact ⟨cs1,0,rfl,W_pos,hw1,hr1,HL.out,hs1,by have:=HR.out;simpa using this,by omega⟩
         · have ht:((cy:Int) != 0)=true:=by rw [bne_iff_ne];omega
           go_wp2_with fail
           go_roundw
           case rel =>
             refine ⟨k+1,hi (d+0+cy),by omega,by omega,by go_num,rfl,ET' hd W_pos hcy,?_⟩
             refine AJ.step hw1 hr1 HL.out hs1 hlt hon (CE _) fun z hz=>?_
             rw [Hd.out] at hz
             have:=Dy' HR.out hz (B5' (d+0+cy)) (Nat.pow_succ ..)
             simpa using this
           case measure=>simp [intOf];omega
       · obtain rfl:k=n:=by omega
         clear h2
         go_wp2_with fail
         go_ret
         exact ⟨cs1,cy,rfl,by have:=BG';omega,hw1,hr1,HL.out,hs1,HR.out,hcy⟩
theorem EV' {w:World} {A:Option Addr} {c x:Nat} (n:Nat) (h:Nt w (.slice A (len x) c) x) (hn:len x≤n) :
   ∃ w2 cs,(∀ ty,(Builtin.copy_ #[33,33] ty #[.slice (some ⟨w.heap.size,0,none⟩) n n,.slice A (len x) c]).run Tryz.prog (mk w n)=.ok (goInt (len x)) w2) ∧
     AK' w2 w.heap.size cs∧Hid (cs.length=n)∧Hid (seg cs 0 n=x)∧Below w.heap.size w w2∧w.heap.size<w2.heap.size:=by
 have hb:=(As'.reads h).mono (Ba' w n) (nL _)
 obtain ⟨w2,hcp,hw2,cs,hr2,hl2,hd2⟩:=D4' (c:=n) (B7' w n) (by simp) hb hn
 exact ⟨w2,cs,hcp,hr2,by rw [hl2];exact List.length_replicate,CR hd2 (nL _) hn,(Ba' w _).trans (hw2.below (by rw [BD];omega) (nL _)),hr2.lt⟩
theorem Be.made {w w3 w4:World} {g z x:Nat} {e:Ending} (h:Be w3 (g+1) z e w4) (hb:Below w.heap.size w w3) (hg:g<w3.heap.size) (hz:z=x):AI w x e w4:=by
 obtain ⟨v,rfl,hv,rfl⟩:=h
 subst hz
 exact ⟨v,rfl,hv.more hg,hb⟩
theorem DJ' {z s b n k:Nat} (h:z+W^n*k=s+b) (hlt:s+b<W^n):z=s+b:=by
 rcases Nat.eq_zero_or_pos k with h0 | h0
 · subst h0;simpa using h
 · have:W^n*1≤W^n*k:=mL _ h0
   omega
theorem GA {a b n:Nat} (ha:len a≤n) (hb:len b≤n):a+b<W^(n+1) :=
 ltl (Ao _) (Nat.pow_le_pow_right W_pos (by have:=BM a b;omega))
theorem D6' {w:World} {a b:Nat} {va vb:Value} (ha:Nt w va a) (hb:Nt w vb b) (hs:len a≤8796093022208) (ht:len b≤8796093022208) :
   Calls Tryz.prog 96 #[va,vb] w (AI w (a+b)):=by
 obtain ⟨A,c,ea,_⟩:=id ha
 obtain ⟨A',c',eb,_⟩:=id hb
 subst ea
 subst eb
 by_cases h:len a<len b
 · obtain ⟨w2,cs,hcp,hr2,hl2,hseg,hb2,hlt2⟩:=EV' (len b+1) hb (by omega)
   have hmk:=BV (len b+1) (len b+1) rfl (by omega)
   go_enter Tryz.func96,Tryz.ntmps96
   go_wp2_with fail
   refine (BS' hr2 (by rw [hl2.out];omega) (by rw [hl2.out];omega) (As'.mono ha hb2 (nL _)) (nL _) (by omega)).mono ?_
   rintro e w3 ⟨cs3,k,rfl,hk,hw3,hr3,hl3,-,hz,hk1⟩
   rw [hseg.out] at hz
   have Hl:=hid hl3;have Hz:=hid hz;clear hl3 hz
   go_wp2_with fail
   refine (AV' (hr3.reads (o:=0) (by rw [Hl.out,hl2.out];omega) (nL _) (by omega))).mono ?_
   rintro e w4 ⟨v,rfl,hv,rfl⟩
   go_wp2_with fail
   go_ret
   refine Be.made ⟨v,rfl,hv,rfl⟩ (hb2.trans (hw3.below (by omega) (nL _))) hr3.lt ?_
   rw [Nat.add_comm a b]
   exact DJ' Hz.out (GA (nL _) (by omega))
 · obtain ⟨w2,cs,hcp,hr2,hl2,hseg,hb2,hlt2⟩:=EV' (len a+1) ha (by omega)
   have hmk:=BV (len a+1) (len a+1) rfl (by omega)
   go_enter Tryz.func96,Tryz.ntmps96
   go_wp2_with fail
   refine (BS' hr2 (by rw [hl2.out];omega) (by rw [hl2.out];omega) (As'.mono hb hb2 (nL _)) (nL _) (by omega)).mono ?_
   rintro e w3 ⟨cs3,k,rfl,hk,hw3,hr3,hl3,-,hz,hk1⟩
   rw [hseg.out] at hz
   have Hl:=hid hl3;have Hz:=hid hz;clear hl3 hz
   go_wp2_with fail
   refine (AV' (hr3.reads (o:=0) (by rw [Hl.out,hl2.out];omega) (nL _) (by omega))).mono ?_
   rintro e w4 ⟨v,rfl,hv,rfl⟩
   go_wp2_with fail
   go_ret
   refine Be.made ⟨v,rfl,hv,rfl⟩ (hb2.trans (hw3.below (by omega) (nL _))) hr3.lt ?_
   exact DJ' Hz.out (GA (nL _) (by omega))
end Go.Proofs.YtflopjfnppolgaaGreatDoor
