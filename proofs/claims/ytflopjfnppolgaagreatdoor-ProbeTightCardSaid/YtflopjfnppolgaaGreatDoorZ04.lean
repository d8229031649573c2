/-
  Contracts of the functions that the law calls, for every input (Bits Len Half).
-/
import Derived.Test.YtflopjfnppolgaaGreatDoorZ00
import Derived.Test.YtflopjfnppolgaaGreatDoorZ02
import Derived.Lib.Mul64
import Derived.Shelf.Bits.Mul64
import Derived.Laws.Bits64b
import Derived.Test.YtflopjfnppolgaaGreatDoorZ01
set_option linter.all false
set_option maxRecDepth 100000
set_option maxHeartbeats 40000000
namespace Go.Proofs.YtflopjfnppolgaaGreatDoor
open Lib (hid)
open Go.RowKit
open Vx
theorem C9' (x y:Nat) (hx':x<W) (hy':y<W) (w:World) :
   Calls Tryz.prog 136 #[.int .u64 (x:Nat),.int .u64 (y:Nat)] w (Bs w (.tuple #[.int .u64 (hi (x*y):Nat),.int .u64 (lo (x*y):Nat)])):=by
 have hx:x<18446744073709551616:=hx'
 have hy:y<18446744073709551616:=hy'
 clear hx' hy'
 obtain ⟨bd,bt,bw,hhi⟩:=Lib.mul64_hi x y hx hy
 have ba:=Lib.half_mul_le (a:=x / 4294967296) (b:=y / 4294967296) (by omega) (by omega)
 have bb:=Lib.half_mul_le (a:=x / 4294967296) (b:=y%4294967296) (by omega) (by omega)
 have bc:=Lib.half_mul_le (a:=x%4294967296) (b:=y / 4294967296) (by omega) (by omega)
 have ba':x / 4294967296*(y / 4294967296)<18446744073709551616:=by omega
 have bb':x / 4294967296*(y%4294967296)<18446744073709551616:=by omega
 have bc':x%4294967296*(y / 4294967296)<18446744073709551616:=by omega
 have bh1:x / 4294967296*(y / 4294967296)+(x / 4294967296*(y%4294967296)+x%4294967296*(y%4294967296) / 4294967296) / 4294967296<18446744073709551616:=by omega
 have hxy:x*y<18446744073709551616*18446744073709551616:=Nat.mul_lt_mul'' hx hy
 have bh:x / 4294967296*(y / 4294967296)+(x / 4294967296*(y%4294967296)+x%4294967296*(y%4294967296) / 4294967296) / 4294967296+((x / 4294967296*(y%4294967296)+x%4294967296*(y%4294967296) / 4294967296)%4294967296+x%4294967296*(y / 4294967296)) / 4294967296<18446744073709551616:=by
   rw [hhi];exact Nat.div_lt_of_lt_mul hxy
 go_enter Tryz.func136,Tryz.ntmps136
 go_wp2
 simp only [Mul64.maskN x hx,Mul64.maskN y hy,Mul64.divN,Mul64.mulN,Mul64.addN,Mul64.wrapN _ bd,Mul64.wrapN _ bb',Mul64.wrapN _ bt,Mul64.maskN _ bt,Mul64.wrapN _ bc',Mul64.wrapN _ bw,Mul64.wrapN _ ba',Mul64.wrapN _ bh1,Mul64.wrapN _ bh,Mul64.wrapM (x*y)]
 rw [hhi]
 go_ret2
 exact ⟨rfl,rfl⟩
def bitlen (x:Nat):Nat:=if x=0 then 0 else x.log2+1
theorem AL {x k:Nat} (h:2^k≤x):bitlen x=k+bitlen (x / 2^k):=by
 have hp:=Nat.two_pow_pos k
 have h1:0<x / 2^k:=Nat.div_pos h hp
 unfold bitlen
 rw [if_neg (by omega),if_neg (by omega)]
 have hx:x≠0:=by omega
 have e:(x / 2^k).log2=x.log2 - k:=by
   have hk:k≤x.log2:=(Nat.le_log2 hx).2 h
   rw [Nat.log2_eq_iff (by omega)]
   have g1:=Nat.log2_self_le hx
   have g2:=Nat.lt_log2_self (n:=x)
   generalize x.log2=L at *
   constructor
   · rw [Nat.le_div_iff_mul_le hp,←Nat.pow_add,show L - k+k=L by omega];exact g1
   · rw [Nat.div_lt_iff_lt_mul hp,←Nat.pow_add,show L - k+1+k=L+1 by omega];exact g2
 have hk:k≤x.log2:=(Nat.le_log2 hx).2 h
 rw [e]
 omega
theorem Bl' (t:ByteArray) (ht:∀ y,y<256→(t.data.toList.getD y 0).toNat=bitlen y) (hb:∀ y,y<256→bitlen y≤8) (x:Nat) (h:x<t.size) (hx:x<256) :
   wrap64 (((t[x]'h).toNat:Nat):Int)=((bitlen x:Nat):Int):=by
 have e:(t[x]'h).toNat=bitlen x:=by
   rw [←ht x hx]
   congr 1
   have:t[x]'h=t.data[x]'h:=rfl
   rw [this,List.getD_eq_getElem?_getD,Array.getElem?_toList,Array.getElem?_eq_getElem (show x<t.data.size from h)]
   rfl
 rw [e]
 have:=hb x hx
 exact IntWalk.wrap64_in _ ⟨by omega,by omega⟩
theorem AF':∀ y,y<256→bitlen y≤8:=by decide +kernel
theorem BY' {t b:Nat} (hb:b≤8) (ht:t≤64):wrap64 (((t:Nat):Int)+((b:Nat):Int))=((t+b:Nat):Int):=by
 rw [IntWalk.wrap64_in _ ⟨by omega,by omega⟩];omega
theorem GA' (x:Nat) (hx':x<18446744073709551616) (c32:4294967296≤x) (c16:65536≤(x / 4294967296)) (c8:256≤((x / 4294967296) / 65536)) (w:World):Calls Tryz.prog 129 #[.int .u64 (x:Nat)] w (Bs w (.int .i64 (bitlen x:Nat))):=by
 have e32:=AL (k:=32) (x:=x) (by omega)
 obtain ⟨z32,hz32⟩:=eX (x / 4294967296)
 have i32:((x:Nat):Int) / 4294967296=((z32:Nat):Int):=by omega
 have j32:(4294967296:Int)≤((x:Nat):Int):=by omega
 rw [show x / 2^32=z32 from hz32.symm] at e32
 have e16:=AL (k:=16) (x:=z32) (by omega)
 obtain ⟨z16,hz16⟩:=eX (z32 / 65536)
 have i16:((z32:Nat):Int) / 65536=((z16:Nat):Int):=by omega
 have j16:(65536:Int)≤((z32:Nat):Int):=by omega
 rw [show z32 / 2^16=z16 from hz16.symm] at e16
 have e8:=AL (k:=8) (x:=z16) (by omega)
 obtain ⟨z8,hz8⟩:=eX (z16 / 256)
 have i8:((z16:Nat):Int) / 256=((z8:Nat):Int):=by omega
 have j8:(256:Int)≤((z16:Nat):Int):=by omega
 rw [show z16 / 2^8=z8 from hz8.symm] at e8
 have hv:z8<256:=by omega
 have hvi:((z8:Nat):Int)<256:=by omega
 have E:bitlen x=56+bitlen z8:=by omega
 have hb:=AF' z8 hv
 have HE:=hid E
 clear E e32 e16 e8 hz32 hz16 hz8 c32 c16 c8
 go_enter Tryz.func129,Tryz.ntmps129
 go_wp2
 go_ret
 refine Bh' ?_
 rw [Bl' _ (by decide +kernel) AF' _ _ hv,HE.out]
 exact BY' (t:=56) hb (by decide)
theorem GB (x:Nat) (hx':x<18446744073709551616) (c32:4294967296≤x) (c16:65536≤(x / 4294967296)) (c8:((x / 4294967296) / 65536)<256) (w:World):Calls Tryz.prog 129 #[.int .u64 (x:Nat)] w (Bs w (.int .i64 (bitlen x:Nat))):=by
 have e32:=AL (k:=32) (x:=x) (by omega)
 obtain ⟨z32,hz32⟩:=eX (x / 4294967296)
 have i32:((x:Nat):Int) / 4294967296=((z32:Nat):Int):=by omega
 have j32:(4294967296:Int)≤((x:Nat):Int):=by omega
 rw [show x / 2^32=z32 from hz32.symm] at e32
 have e16:=AL (k:=16) (x:=z32) (by omega)
 obtain ⟨z16,hz16⟩:=eX (z32 / 65536)
 have i16:((z32:Nat):Int) / 65536=((z16:Nat):Int):=by omega
 have j16:(65536:Int)≤((z32:Nat):Int):=by omega
 rw [show z32 / 2^16=z16 from hz16.symm] at e16
 have j8:¬ (256:Int)≤((z16:Nat):Int):=by omega
 have hv:z16<256:=by omega
 have hvi:((z16:Nat):Int)<256:=by omega
 have E:bitlen x=48+bitlen z16:=by omega
 have hb:=AF' z16 hv
 have HE:=hid E
 clear E e32 e16 hz32 hz16 c32 c16 c8
 go_enter Tryz.func129,Tryz.ntmps129
 go_wp2
 go_ret
 refine Bh' ?_
 rw [Bl' _ (by decide +kernel) AF' _ _ hv,HE.out]
 exact BY' (t:=48) hb (by decide)
theorem GB' (x:Nat) (hx':x<18446744073709551616) (c32:4294967296≤x) (c16:(x / 4294967296)<65536) (c8:256≤(x / 4294967296)) (w:World):Calls Tryz.prog 129 #[.int .u64 (x:Nat)] w (Bs w (.int .i64 (bitlen x:Nat))):=by
 have e32:=AL (k:=32) (x:=x) (by omega)
 obtain ⟨z32,hz32⟩:=eX (x / 4294967296)
 have i32:((x:Nat):Int) / 4294967296=((z32:Nat):Int):=by omega
 have j32:(4294967296:Int)≤((x:Nat):Int):=by omega
 rw [show x / 2^32=z32 from hz32.symm] at e32
 have j16:¬ (65536:Int)≤((z32:Nat):Int):=by omega
 have e8:=AL (k:=8) (x:=z32) (by omega)
 obtain ⟨z8,hz8⟩:=eX (z32 / 256)
 have i8:((z32:Nat):Int) / 256=((z8:Nat):Int):=by omega
 have j8:(256:Int)≤((z32:Nat):Int):=by omega
 rw [show z32 / 2^8=z8 from hz8.symm] at e8
 have hv:z8<256:=by omega
 have hvi:((z8:Nat):Int)<256:=by omega
 have E:bitlen x=40+bitlen z8:=by omega
 have hb:=AF' z8 hv
 have HE:=hid E
 clear E e32 e8 hz32 hz8 c32 c16 c8
 go_enter Tryz.func129,Tryz.ntmps129
 go_wp2
 go_ret
 refine Bh' ?_
 rw [Bl' _ (by decide +kernel) AF' _ _ hv,HE.out]
 exact BY' (t:=40) hb (by decide)
theorem GC (x:Nat) (hx':x<18446744073709551616) (c32:4294967296≤x) (_c16:(x / 4294967296)<65536) (c8:(x / 4294967296)<256) (w:World):Calls Tryz.prog 129 #[.int .u64 (x:Nat)] w (Bs w (.int .i64 (bitlen x:Nat))):=by
 have e32:=AL (k:=32) (x:=x) (by omega)
 obtain ⟨z32,hz32⟩:=eX (x / 4294967296)
 have i32:((x:Nat):Int) / 4294967296=((z32:Nat):Int):=by omega
 have j32:(4294967296:Int)≤((x:Nat):Int):=by omega
 rw [show x / 2^32=z32 from hz32.symm] at e32
 have j16:¬ (65536:Int)≤((z32:Nat):Int):=by omega
 have j8:¬ (256:Int)≤((z32:Nat):Int):=by omega
 have hv:z32<256:=by omega
 have hvi:((z32:Nat):Int)<256:=by omega
 have E:bitlen x=32+bitlen z32:=by omega
 have hb:=AF' z32 hv
 have HE:=hid E
 clear E e32 hz32 c32 _c16 c8
 go_enter Tryz.func129,Tryz.ntmps129
 go_wp2
 go_ret
 refine Bh' ?_
 rw [Bl' _ (by decide +kernel) AF' _ _ hv,HE.out]
 exact BY' (t:=32) hb (by decide)
theorem GC' (x:Nat) (hx':x<18446744073709551616) (c32:x<4294967296) (c16:65536≤x) (c8:256≤(x / 65536)) (w:World):Calls Tryz.prog 129 #[.int .u64 (x:Nat)] w (Bs w (.int .i64 (bitlen x:Nat))):=by
 have j32:¬ (4294967296:Int)≤((x:Nat):Int):=by omega
 have e16:=AL (k:=16) (x:=x) (by omega)
 obtain ⟨z16,hz16⟩:=eX (x / 65536)
 have i16:((x:Nat):Int) / 65536=((z16:Nat):Int):=by omega
 have j16:(65536:Int)≤((x:Nat):Int):=by omega
 rw [show x / 2^16=z16 from hz16.symm] at e16
 have e8:=AL (k:=8) (x:=z16) (by omega)
 obtain ⟨z8,hz8⟩:=eX (z16 / 256)
 have i8:((z16:Nat):Int) / 256=((z8:Nat):Int):=by omega
 have j8:(256:Int)≤((z16:Nat):Int):=by omega
 rw [show z16 / 2^8=z8 from hz8.symm] at e8
 have hv:z8<256:=by omega
 have hvi:((z8:Nat):Int)<256:=by omega
 have E:bitlen x=24+bitlen z8:=by omega
 have hb:=AF' z8 hv
 have HE:=hid E
 clear E e16 e8 hz16 hz8 c32 c16 c8
 go_enter Tryz.func129,Tryz.ntmps129
 go_wp2
 go_ret
 refine Bh' ?_
 rw [Bl' _ (by decide +kernel) AF' _ _ hv,HE.out]
 exact BY' (t:=24) hb (by decide)
theorem GD (x:Nat) (hx':x<18446744073709551616) (c32:x<4294967296) (c16:65536≤x) (c8:(x / 65536)<256) (w:World):Calls Tryz.prog 129 #[.int .u64 (x:Nat)] w (Bs w (.int .i64 (bitlen x:Nat))):=by
 have j32:¬ (4294967296:Int)≤((x:Nat):Int):=by omega
 have e16:=AL (k:=16) (x:=x) (by omega)
 obtain ⟨z16,hz16⟩:=eX (x / 65536)
 have i16:((x:Nat):Int) / 65536=((z16:Nat):Int):=by omega
 have j16:(65536:Int)≤((x:Nat):Int):=by omega
 rw [show x / 2^16=z16 from hz16.symm] at e16
 have j8:¬ (256:Int)≤((z16:Nat):Int):=by omega
 have hv:z16<256:=by omega
 have hvi:((z16:Nat):Int)<256:=by omega
 have E:bitlen x=16+bitlen z16:=by omega
 have hb:=AF' z16 hv
 have HE:=hid E
 clear E e16 hz16 c32 c16 c8
 go_enter Tryz.func129,Tryz.ntmps129
 go_wp2
 go_ret
 refine Bh' ?_
 rw [Bl' _ (by decide +kernel) AF' _ _ hv,HE.out]
 exact BY' (t:=16) hb (by decide)
theorem GD' (x:Nat) (hx':x<18446744073709551616) (c32:x<4294967296) (c16:x<65536) (c8:256≤x) (w:World):Calls Tryz.prog 129 #[.int .u64 (x:Nat)] w (Bs w (.int .i64 (bitlen x:Nat))):=by
 have j32:¬ (4294967296:Int)≤((x:Nat):Int):=by omega
 have j16:¬ (65536:Int)≤((x:Nat):Int):=by omega
 have e8:=AL (k:=8) (x:=x) (by omega)
 obtain ⟨z8,hz8⟩:=eX (x / 256)
 have i8:((x:Nat):Int) / 256=((z8:Nat):Int):=by omega
 have j8:(256:Int)≤((x:Nat):Int):=by omega
 rw [show x / 2^8=z8 from hz8.symm] at e8
 have hv:z8<256:=by omega
 have hvi:((z8:Nat):Int)<256:=by omega
 have E:bitlen x=8+bitlen z8:=by omega
 have hb:=AF' z8 hv
 have HE:=hid E
 clear E e8 hz8 c32 c16 c8
 go_enter Tryz.func129,Tryz.ntmps129
 go_wp2
 go_ret
 refine Bh' ?_
 rw [Bl' _ (by decide +kernel) AF' _ _ hv,HE.out]
 exact BY' (t:=8) hb (by decide)
theorem GE (x:Nat) (hx':x<18446744073709551616) (c32:x<4294967296) (c16:x<65536) (c8:x<256) (w:World):Calls Tryz.prog 129 #[.int .u64 (x:Nat)] w (Bs w (.int .i64 (bitlen x:Nat))):=by
 have j32:¬ (4294967296:Int)≤((x:Nat):Int):=by omega
 have j16:¬ (65536:Int)≤((x:Nat):Int):=by omega
 have j8:¬ (256:Int)≤((x:Nat):Int):=by omega
 have hv:x<256:=by omega
 have hvi:((x:Nat):Int)<256:=by omega
 have E:bitlen x=0+bitlen x:=by omega
 have hb:=AF' x hv
 have HE:=hid E
 clear E c32 c16 c8
 go_enter Tryz.func129,Tryz.ntmps129
 go_wp2
 go_ret
 refine Bh' ?_
 rw [Bl' _ (by decide +kernel) AF' _ _ hv,HE.out]
 exact BY' hb (by omega)
theorem Da (x:Nat) (hx:x<W) (w:World):Calls Tryz.prog 129 #[.int .u64 (x:Nat)] w (Bs w (.int .i64 (bitlen x:Nat))):=by
 have hx':x<18446744073709551616:=hx
 rcases Nat.lt_or_ge (x) 4294967296 with c32 | c32
 · rcases Nat.lt_or_ge (x) 65536 with c16 | c16
   · rcases Nat.lt_or_ge (x) 256 with c8 | c8
     · exact GE x hx' (by omega) (by omega) (by omega) w
     · exact GD' x hx' (by omega) (by omega) (by omega) w
   · rcases Nat.lt_or_ge (x / 65536) 256 with c8 | c8
     · exact GD x hx' (by omega) (by omega) (by omega) w
     · exact GC' x hx' (by omega) (by omega) (by omega) w
 · rcases Nat.lt_or_ge (x / 4294967296) 65536 with c16 | c16
   · rcases Nat.lt_or_ge (x / 4294967296) 256 with c8 | c8
     · exact GC x hx' (by omega) (by omega) (by omega) w
     · exact GB' x hx' (by omega) (by omega) (by omega) w
   · rcases Nat.lt_or_ge ((x / 4294967296) / 65536) 256 with c8 | c8
     · exact GB x hx' (by omega) (by omega) (by omega) w
     · exact GA' x hx' (by omega) (by omega) (by omega) w
end Go.Proofs.YtflopjfnppolgaaGreatDoor
namespace Vx
theorem GE' {H u u1 y1 y0 q r:Nat} (hy:0<y1) (hH:0<H) (h:q*y1+r=u) (hge:(u*H+u1) / (y1*H+y0)≤q) (hle:q*y0≤r*H+u1) :
   q=(u*H+u1) / (y1*H+y0):=by
 have hpos:0<y1*H+y0:=by have:=Nat.mul_pos hy hH;omega
 have h1:q≤(u*H+u1) / (y1*H+y0):=by
   rw [Nat.le_div_iff_mul_le hpos]
   have h2:=congrArg (· * H) h
   simp only [Nat.add_mul] at h2
   rw [Nat.mul_add,←Nat.mul_assoc]
   omega
 omega
theorem Im {H u u1 y1 y0 q r:Nat} (hy:0<y1) (hH:0<H) (h:q*y1+r=u) (hgt:r*H+u1<q*y0) :
   0<q∧(u*H+u1) / (y1*H+y0)≤q - 1∧(q - 1)*y1+(r+y1)=u:=by
 have hpos:0<y1*H+y0:=by have:=Nat.mul_pos hy hH;omega
 have hq:0<q:=by
   rcases Nat.eq_zero_or_pos q with h0 | h0
   · subst h0;simp at hgt
   · exact h0
 refine ⟨hq,?_,?_⟩
 · have h1:(u*H+u1) / (y1*H+y0)<q:=by
     rw [Nat.div_lt_iff_lt_mul hpos]
     have h2:=congrArg (· * H) h
     simp only [Nat.add_mul] at h2
     rw [Nat.mul_add,←Nat.mul_assoc]
     omega
   omega
 · obtain ⟨s,rfl⟩:∃ s,q=s+1:=⟨q - 1,by omega⟩
   simp only [Nat.add_mul,Nat.one_mul,Nat.add_sub_cancel] at h ⊢
   omega
theorem FX' {H u u1 y1 y0:Nat} (hy:0<y1) (h1:u1<H):(u*H+u1) / (y1*H+y0)≤u / y1:=by
 rw [Nat.le_div_iff_mul_le hy]
 have h2:=Nat.div_mul_le_self (u*H+u1) (y1*H+y0)
 generalize (u*H+u1) / (y1*H+y0)=q at h2
 have h3:q*y1*H≤u*H+u1:=by
   rw [Nat.mul_add,←Nat.mul_assoc] at h2;omega
 have h4:q*y1<u+1:=by
   apply Nat.lt_of_mul_lt_mul_right (a:=H)
   rw [Nat.add_mul _ 1,Nat.one_mul];omega
 omega
theorem FY {u y1 y0:Nat} (hy:2147483648≤y1) (h0:y0<4294967296) (hu:u<y1*4294967296+y0):u / y1≤4294967297:=by
 have:u / y1<4294967298:=by
   rw [Nat.div_lt_iff_lt_mul (by omega)]
   omega
 omega
theorem D7' {H u u1 y1 y0:Nat} (hu:u<y1*H+y0) (h1:u1<H):(u*H+u1) / (y1*H+y0)<H:=by
 rw [Nat.div_lt_iff_lt_mul (by omega)]
 have:(u+1)*H≤(y1*H+y0)*H:=Nat.mul_le_mul_right _ hu
 rw [Nat.add_mul,Nat.one_mul] at this
 rw [Nat.mul_comm H]
 omega
theorem Im' {H u u1 u0 y:Nat} (hy:0<y) :
   (u*H*H+u1*H+u0) / y=(u*H+u1) / y*H+((u*H+u1)%y*H+u0) / y∧(u*H*H+u1*H+u0)%y=((u*H+u1)%y*H+u0)%y:=by
 have e:=Nat.div_add_mod (u*H+u1) y
 generalize (u*H+u1) / y=q at e ⊢
 generalize (u*H+u1)%y=r at e ⊢
 have e2:u*H*H+u1*H+u0=r*H+u0+y*(q*H):=by
   rw [←Nat.add_mul,←e,Nat.add_mul,Nat.mul_assoc];omega
 rw [e2,Nat.add_mul_div_left _ _ hy,Nat.add_mul_mod_self_left]
 exact ⟨by omega,rfl⟩
theorem GF {a y p:Nat} (hp:0<p):a*p / (y*p)=a / y∧a*p%(y*p) / p=a%y:=by
 refine ⟨Nat.mul_div_mul_right _ _ hp,?_⟩
 rw [Nat.mul_mod_mul_right,Nat.mul_div_cancel _ hp]
theorem GF' {h l y s:Nat} (hh:h<y) (hl:l<18446744073709551616) (hy:y*2^s<18446744073709551616) (hy2:9223372036854775808≤y*2^s) (hs:s≤63) :
   ∃ y1 y0 u u1 u0:Nat,y*2^s=y1*4294967296+y0∧y0<4294967296∧2147483648≤y1∧y1<4294967296∧(h*18446744073709551616+l) / 2^(64 - s)=u ∧
     u<y1*4294967296+y0∧l*2^s%18446744073709551616=u1*4294967296+u0∧u1<4294967296∧u0<4294967296 ∧
     (h*18446744073709551616+l)*2^s=u*4294967296*4294967296+u1*4294967296+u0:=by
 have hW:18446744073709551616=2^s*2^(64 - s):=by rw [←Nat.pow_add,show s+(64 - s)=64 by omega]
 refine ⟨y*2^s / 4294967296,y*2^s%4294967296,_,l*2^s%18446744073709551616 / 4294967296,l*2^s%18446744073709551616%4294967296,by omega,by omega,by omega,by omega,rfl,?_,by omega,by omega,by omega,?_⟩
 · rw [show y*2^s / 4294967296*4294967296+y*2^s%4294967296=y*2^s by omega,Nat.div_lt_iff_lt_mul (Nat.two_pow_pos _),Nat.mul_assoc,←hW]
   have:=Nat.mul_le_mul_right 18446744073709551616 hh
   rw [Nat.succ_mul] at this
   omega
 · have e1:(h*18446744073709551616+l)*2^s=(h*18446744073709551616+l) / 2^(64 - s)*18446744073709551616+(h*18446744073709551616+l)%2^(64 - s)*2^s:=by
     have:=Nat.div_add_mod (h*18446744073709551616+l) (2^(64 - s))
     generalize (h*18446744073709551616+l) / 2^(64 - s)=q at this ⊢
     generalize (h*18446744073709551616+l)%2^(64 - s)=r at this ⊢
     rw [←this,Nat.add_mul]
     congr 1
     have h1:2^(64 - s)*q*2^s=q*(2^s*2^(64 - s)):=by rw [Nat.mul_comm (2^(64 - s)) q,Nat.mul_assoc,Nat.mul_comm (2^(64 - s))]
     rw [h1,←hW]
   have e2:(h*18446744073709551616+l)%2^(64 - s)=l%2^(64 - s):=by
     have h1:h*18446744073709551616=2^(64 - s)*(h*2^s):=by
       rw [Nat.mul_left_comm (2^(64 - s)) h,Nat.mul_comm (2^(64 - s)),←hW]
     rw [h1,Nat.mul_add_mod]
   have e3:l*2^s%18446744073709551616=l%2^(64 - s)*2^s:=by
     have h1:(18446744073709551616:Nat)=2^(64 - s)*2^s:=by rw [Nat.mul_comm];exact hW
     have h2:=Nat.mul_mod_mul_right (2^s) l (2^(64 - s))
     rw [←h1] at h2
     exact h2
   rw [e1,e2,←e3]
   omega
end Vx
