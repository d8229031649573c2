/-
  Contracts of the functions that the law calls, for every input (Vd).
-/
import Derived.Test.YtfppimacnhcflaaGreatDoorS01
import Derived.Deep.LoopGhost
set_option linter.all false
set_option maxRecDepth 100000
set_option maxHeartbeats 40000000
namespace Go.Proofs.YtfppimacnhcflaaGreatDoor.Rf
open Lib (hid)
open Go.RowKit
open Rx
open Vx (siz siz_num siz_den)
open List renaming getElem?_toArray → lg, getElem?_cons_zero → lz, getElem?_cons_succ → ls, setIfInBounds_toArray → lt, set_cons_zero → ly, set_cons_succ → lu
theorem nat_rat {w : World} {vn vo : Value} {N : Nat} (hn : IsBig w vn N) (ho : IsBig w vo 1) : IsRat w (.agg #[.bool false, vn, vo]) ((N : Nat) : Rat) :=
  ⟨vn, vo, rfl, hn, ho⟩
theorem nat_siz (N : Nat) : siz ((N : Nat) : Rat) ≤ max (Vx.len N) 1 := siz_nat N
theorem fits_any {w : World} {vn vx vy : Value} {N : Nat} {p g : Rat} {r : Bool} (hr : decide ((((N : Nat) : Rat) * g) * (((N : Nat) : Rat) * g) ≤ p) = r) (hn : IsBig w vn N) (hx : IsRat w vx p) (hy : IsRat w vy g) (sN : Vx.len N ≤ 20000) (sp : siz p ≤ 10000) (sg : siz g ≤ 10000) :
    Calls Tryz.prog 168 #[vn, vx, vy] w (BoolRet w r) := by
  obtain ⟨q, hq⟩ : ∃ z : Rat, ((N : Nat) : Rat) = z := ⟨_, rfl⟩
  obtain ⟨m, em⟩ : ∃ z : Rat, q * g = z := ⟨_, rfl⟩
  obtain ⟨s, es⟩ : ∃ z : Rat, m * m = z := ⟨_, rfl⟩
  obtain ⟨c, ec⟩ : ∃ z : Int, cmpQ s p = z := ⟨_, rfl⟩
  have d1 : decide (c ≤ 0) = r := by rw [← hr, hq, em, es, ← ec]; exact decide_eq_decide.2 cmpQ_le0
  have z1 : siz q ≤ 20001 := by rw [← hq]; have := nat_siz N; omega
  have z2 : siz m ≤ 40000 := by rw [← em]; have := Vx.siz_mul q g; omega
  have z3 : siz s ≤ 80000 := by rw [← es]; have := Vx.siz_mul m m; omega
  have tq : siz q ≤ 268435456 := by omega
  have tm : siz m ≤ 268435456 := by omega
  have ts : siz s ≤ 268435456 := by omega
  have tp : siz p ≤ 268435456 := by omega
  have tg : siz g ≤ 268435456 := by omega
  obtain ⟨An, cn, rfl, -, -, -, -⟩ := id hn
  obtain ⟨ln, hln⟩ : ∃ z, len N = z := ⟨_, rfl⟩
  have hn0 := hn
  rw [hln] at hn ⊢
  replace hln := hid hln
  clear z1 z2 z3 hr hn0 sp sg sN
  replace hq := hid hq
  replace em := hid em
  replace es := hid es
  replace ec := hid ec
  replace tq := hid tq
  replace tm := hid tm
  replace ts := hid ts
  replace tp := hid tp
  replace tg := hid tg
  replace hn := hid hn
  obtain ⟨C1, j1, C2, j2, rfl, -, -⟩ := id hx.opened
  replace hx := hid hx
  obtain ⟨C3, j3, C4, j4, rfl, -, -⟩ := id hy.opened
  replace hy := hid hy
  obtain ⟨w1, hw1⟩ : ∃ u, u = ((w.alloc (.cells #[.bool (decide (p.num < 0)), .slice C1 (len p.num.natAbs) j1, .slice C2 (len p.den) j2] 33)).alloc (.cells #[.bool (decide (g.num < 0)), .slice C3 (len g.num.natAbs) j3, .slice C4 (len g.den) j4] 33)) := ⟨_, rfl⟩
  obtain ⟨b1, g1, g2⟩ := news2' hw1
  replace g1 := hid g1
  replace g2 := hid g2
  replace b1 := hid b1
  go_enter Tryz.func168, Tryz.ntmps168
  go_upto_region 1 with fail
  rw [← hw1]
  clear hw1
  obtain ⟨zy0, zy1, zy2⟩ := cells3 (at_keep g2.out (alloc_below w1 (.cells #[.int .i64 1] 3)))
  go_wp2_with fail
  clear zy0 zy1 zy2
  obtain ⟨w2, hw2⟩ : ∃ u, u = w1.alloc (.cells #[.int .i64 1] 3) := ⟨_, rfl⟩
  have b2 : Hid (Below w1.heap.size w1 w2) := hid (by rw [hw2]; exact alloc_below _ _)
  have ho2 : IsBig w2 (.slice (some ⟨w1.heap.size, 0, none⟩) 1 1) 1 := by rw [hw2]; exact big_one w1
  rw [← hw2]
  clear hw2
  have HQ := hid (show IsRat w2 _ q by rw [← hq.out]; exact nat_rat (hn.out.keep (Below.step b1.out b2.out)) ho2)
  have HX := hid (mulR_val em.out HQ.out (hy.out.keep (Below.step b1.out b2.out)) tq.out tg.out)
  refine (HX.out).mono ?_
  rintro e w3 ⟨v3, rfl, hv3, b3⟩
  obtain ⟨C5, j5, C6, j6, rfl, -, -⟩ := id hv3.opened
  replace hv3 := hid hv3
  replace b3 := hid b3
  clear HX
  clear ho2 HQ
  go_upto_region 2 with fail
  obtain ⟨w4, hw4⟩ : ∃ u, u = w3.alloc (.cells #[.bool (decide (m.num < 0)), .slice C5 (len m.num.natAbs) j5, .slice C6 (len m.den) j6] 33) := ⟨_, rfl⟩
  have b4 : Hid (Below w3.heap.size w3 w4) := by rw [hw4]; exact (Below.refl _ _).alloc (Nat.le_refl _) _
  have L4 : Hid (w4.heap[w3.heap.size]? = some (.cells #[.bool (decide (m.num < 0)), .slice C5 (len m.num.natAbs) j5, .slice C6 (len m.den) j6] 33 (0, 0))) := by rw [hw4]; exact heap_alloc_new w3 _
  rw [← hw4]
  clear hw4
  go_wp2_with fail
  obtain ⟨NNa, hNN⟩ : ∃ n : Nat, w4.heap.size = n := ⟨_, rfl⟩
  have HSZa : Hid (w4.heap.size = NNa) := hNN
  have hg : w4.heap[w3.heap.size]? = some (.cells #[.bool (decide (m.num < 0)), .slice C5 (len m.num.natAbs) j5, .slice C6 (len m.den) j6] 33 (0, 0)) := ((Below.refl _ w4).block _ (Array.getElem?_eq_some_iff.1 L4.out).1).trans L4.out
  obtain ⟨z_m_0, z_m_1, z_m_2⟩ := cells3 hg
  clear hg
  have hlta_m : w3.heap.size < NNa := Nat.lt_of_lt_of_eq (World.block_lt_of_cell? _ _ z_m_0) hNN
  have hg : w4.heap[w.heap.size]? = some (.cells #[.bool (decide (p.num < 0)), .slice C1 (len p.num.natAbs) j1, .slice C2 (len p.den) j2] 33 (0, 0)) := ((Below.step (Below.step b2.out b3.out) b4.out).block _ (Array.getElem?_eq_some_iff.1 g1.out).1).trans g1.out
  obtain ⟨z_x_0, z_x_1, z_x_2⟩ := cells3 hg
  clear hg
  have hlta_x : w.heap.size < NNa := Nat.lt_of_lt_of_eq (World.block_lt_of_cell? _ _ z_x_0) hNN
  have H0 := Held0.start w4 NNa
  have H0' := H0
  unfold Held0 at H0'
  refine wp_region_held_drew (S := (fun w' => (∀ b o, b < NNa → w'.cell? ⟨b, o, none⟩ = w4.cell? ⟨b, o, none⟩) ∧ Below (NNa) w4 w' ∧ Stay w4 w')) (by kernel_rfl) ?_ (fun hHeld => ?_)
  · (try dsimp only)
    exact H0'
  obtain ⟨w5, hw5⟩ : ∃ u, u = w4.drew := ⟨_, rfl⟩
  have b5 : Hid (Below w4.heap.size w4 w5) := by rw [hw5]; exact ⟨rfl, rfl, rfl, Nat.le_refl _, fun _ _ => rfl⟩
  rw [← hw5] at hHeld H0 ⊢
  clear hw5 H0' hNN
  refine tk (i := 0) (h := ?_)
  try simp only [Act.put, lt, ly, lu]
  refine tk (i := 1) (h := ?_)
  try simp only [Act.put, lt, ly, lu]
  refine tk (i := 3) (h := ?_)
  try simp only [Act.put, lt, ly, lu]
  refine wpAnyH_ready (rs := [2]) (by kernel_rfl) (by simp) (AllReadyH.cons (o := ?oq4) ?eq4 ?kq4 AllReadyH.nil)
  case eq4 => simp only [lg, lz, ls]; rfl
  intro K hK; go_simp; go_at_call 28
  refine (mulR_val es.out (hv3.out.keep (Below.step b4.out b5.out)) (hv3.out.keep (Below.step b4.out b5.out)) tm.out tm.out).mono ?_
  rintro e w6 ⟨v6, rfl, hv6, b6⟩
  obtain ⟨C7, j7, C8, j8, rfl, -, -⟩ := id hv6.opened
  replace hv6 := hid hv6
  replace b6 := hid b6
  have hk6 := hcall H0 HSZa b6.out; have hk6' := hk6; unfold Held0 at hk6'; clear hHeld H0
  refine hK.out _ _ ?_ (fun hHeld => ?_)
  · (try dsimp only); with_reducible exact hk6'
  clear hK K hk6'; try simp only [Act.put, lt, ly, lu]
  refine wpAnyH_ready (rs := [4]) (by kernel_rfl) (by simp) (AllReadyH.cons (o := ?oq5) ?eq5 ?kq5 AllReadyH.nil)
  case eq5 => simp only [lg, lz, ls]; rfl
  intro K hK; go_simp; go_at_call 30
  refine (cmpR_val ec.out hv6.out (hx.out.keep (Below.step (Below.step (Below.step (Below.step (Below.step b1.out b2.out) b3.out) b4.out) b5.out) b6.out)) ts.out tp.out).mono ?_
  rintro e w7 ⟨rfl, b7⟩
  replace b7 := hid b7
  have hk7 := hcall hk6 HSZa b7.out; have hk7' := hk7; unfold Held0 at hk7'; clear hHeld hk6
  refine hK.out _ _ ?_ (fun hHeld => ?_)
  · (try dsimp only); with_reducible exact hk7'
  clear hK K hk7'; try simp only [Act.put, lt, ly, lu]
  refine tk (i := 5) (h := ?_)
  try simp only [Act.put, lt, ly, lu]
  refine tk (i := 6) (h := ?_)
  try simp only [Act.put, lt, ly, lu]
  have HE := hid (Below.step (Below.step (Below.step (Below.step (Below.step (Below.step b1.out b2.out) b3.out) b4.out) b5.out) b6.out) b7.out)
  refine wpAnyH_done (by kernel_rfl) ?_ _
  clear hHeld
  go_wp2_with fail
  go_ret
  exact ⟨rfl, HE.out⟩
def RtAt (w : World) (cx cg : Array Value) (p g : Rat) (wr : World) : Prop :=
  wr.heap[w.heap.size]? = some (.cells cx 33 (0, 0)) ∧ wr.heap[w.heap.size + 1]? = some (.cells cg 33 (0, 0)) ∧ wr.heap[w.heap.size + 2]? = some (.cells #[.bool false, .slice none 0 0, .slice none 0 0] 33 (0, 0)) ∧ IsRat wr (.agg cx) p ∧ IsRat wr (.agg cg) g ∧ Below w.heap.size w wr
theorem RtAt.keep {w : World} {cx cg : Array Value} {p g : Rat} {u v : World} (h : RtAt w cx cg p g u) (hb : Below u.heap.size u v) : RtAt w cx cg p g v :=
  ⟨at_keep h.1 hb, at_keep h.2.1 hb, at_keep h.2.2.1 hb, h.2.2.2.1.keep hb, h.2.2.2.2.1.keep hb, chain h.2.2.2.2.2 hb⟩
theorem belowR_any {w : World} {vx vy : Value} {p g q : Rat} (hq : lowRt p g = q) (hp0 : 0 ≤ p) (hg0 : 0 < g) (hx : IsRat w vx p) (hy : IsRat w vy g) (sp : siz p ≤ 4100) (sg : siz g ≤ 4100) :
    Calls Tryz.prog 129 #[vx, vy] w (RatRet w q) := by
  have HF := hid (fun N => @fits_le p g N hg0 hp0)
  obtain ⟨r, hrk⟩ : ∃ z, rootk p g = z := ⟨_, rfl⟩
  have hlr : Vx.len r ≤ 12300 := by rw [← hrk]; have := len_rootk (x := p) (g := g) (A := 4100) (G := 4100) sp sg; omega
  have HL := hid (fun n (h : n ≤ 4 * r + 4) => show Vx.len n ≤ 20000 from Nat.le_trans (len_up hlr h) (by omega))
  have HL2 := hid (fun n (h : n ≤ 4 * r + 4) => show len n ≤ 1099511627776 from Nat.le_trans (rlen_le n) (by have := len_up hlr h; omega))
  have hq2 : ((r : Nat) : Rat) * g = q := by rw [← hrk, low_rootk]; exact hq
  rw [hrk] at HF
  have sp2 : siz p ≤ 10000 := by omega
  have sg2 : siz g ≤ 10000 := by omega
  have sg3 : siz g ≤ 268435456 := by omega
  have sr : siz ((r : Nat) : Rat) ≤ 268435456 := by have := nat_siz r; omega
  clear hq hrk hlr sp sg hp0 hg0
  replace hq2 := hid hq2
  replace sp2 := hid sp2
  replace sg2 := hid sg2
  replace sg3 := hid sg3
  replace sr := hid sr
  obtain ⟨C1, j1, C2, j2, rfl, -, -⟩ := id hx.opened
  replace hx := hid hx
  obtain ⟨C3, j3, C4, j4, rfl, -, -⟩ := id hy.opened
  replace hy := hid hy
  obtain ⟨w1, hw1⟩ : ∃ u, u = (((w.alloc (.cells #[.bool (decide (p.num < 0)), .slice C1 (len p.num.natAbs) j1, .slice C2 (len p.den) j2] 33)).alloc (.cells #[.bool (decide (g.num < 0)), .slice C3 (len g.num.natAbs) j3, .slice C4 (len g.den) j4] 33)).alloc (.cells #[.bool false, .slice none 0 0, .slice none 0 0] 33)) := ⟨_, rfl⟩
  obtain ⟨b1, g1, g2, g3⟩ := news3' hw1
  replace g1 := hid g1
  replace g2 := hid g2
  replace g3 := hid g3
  replace b1 := hid b1
  go_enter Tryz.func129, Tryz.ntmps129
  go_upto_region 1 with fail
  rw [← hw1]
  clear hw1
  have HR0 : Hid (RtAt w (#[.bool (decide (p.num < 0)), .slice C1 (len p.num.natAbs) j1, .slice C2 (len p.den) j2]) (#[.bool (decide (g.num < 0)), .slice C3 (len g.num.natAbs) j3, .slice C4 (len g.den) j4]) p g w1) := hid ⟨g1.out, g2.out, g3.out, hx.out.keep b1.out, hy.out.keep b1.out, b1.out⟩
  clear g1 g2 g3 b1 hx hy
  go_wp2_with fail
  obtain ⟨w2, hw2⟩ : ∃ u, u = ((w1.alloc (.cells #[] 3)).alloc (.cells #[.int .i64 1] 3)) := ⟨_, rfl⟩
  have b2 : Below w1.heap.size w1 w2 := by rw [hw2]; exact (Below.refl _ _).alloc (Nat.le_refl _) _ |>.alloc (by simp) _
  have ho : IsBig w2 (.slice (some ⟨w1.heap.size + 1, 0, none⟩) 1 1) 1 := by
    have := big_one (w1.alloc (.cells #[] 3))
    rw [World.size_alloc] at this
    rw [hw2]; exact this
  have hz : IsBig w2 (.slice (some ⟨w1.heap.size, 0, none⟩) 0 0) 0 := ⟨some ⟨w1.heap.size, 0, none⟩, 0, by rw [len_zero], by rw [len_zero]; omega, by omega, by rw [len_zero]; decide, fun h => by rw [len_zero] at h; exact absurd h (by omega)⟩
  have HR2 := hid (HR0.out.keep b2)
  rw [← hw2]
  clear hw2 b2 HR0
  replace ho := hid ho
  replace hz := hid hz
  go_loopg [6] r (fun gk hv wr => ∃ h : Nat, 1 ≤ h ∧ gk = r + 1 - h ∧ h ≤ 2 * r + 2 ∧ (∃ j, h = 2 ^ j) ∧ Hid (IsBig wr hv h ∧ IsBig wr (.slice (some ⟨w1.heap.size, 0, none⟩) 0 0) 0) ∧ Hid (RtAt w (#[.bool (decide (p.num < 0)), .slice C1 (len p.num.natAbs) j1, .slice C2 (len p.den) j2]) (#[.bool (decide (g.num < 0)), .slice C3 (len g.num.natAbs) j3, .slice C4 (len g.den) j4]) p g wr))
  case atStart => exact ⟨1, Nat.le_refl _, by omega, by omega, ⟨0, rfl⟩, hid ⟨ho.out, hz.out⟩, HR2⟩
  case round =>
    obtain ⟨h, h1, hgk, h2, hj, hv, HR⟩ := hrel
    clear HR2 ho hz
    obtain ⟨A, c, rfl, -, -, -, -⟩ := id hv.out.1
    obtain ⟨G1, G2, G3, Gx, Gg, Gb⟩ := HR.out
    obtain ⟨x0, x1, x2⟩ := cells3 G1
    obtain ⟨y0, y1, y2⟩ := cells3 G2
    obtain ⟨b, hb⟩ : ∃ b, decide (h ≤ r) = b := ⟨_, rfl⟩
    have HX := hid (fits_any (hb ▸ HF.out h) hv.out.1 Gx Gg (HL.out h (by omega)) sp2.out sg2.out)
    obtain ⟨lh, hlh⟩ : ∃ z, len h = z := ⟨_, rfl⟩
    replace hlh := hid hlh
    clear G1 G2 G3 Gx Gg Gb
    rcases b with _ | _
    · have hb2 : r < h := by have := of_decide_eq_false hb; omega
      replace hgk := hid hgk
      replace hj := hid hj
      clear hb
      go_wp2_with fail
      refine (HX.out).mono ?_
      rintro e w3 ⟨rfl, b3⟩
      replace HR := hid (HR.out.keep b3)
      replace hv := hid (And.intro (hv.out.1.keep b3) (hv.out.2.keep b3))
      clear HX b3 x0 x1 x2 y0 y1 y2
      obtain ⟨j0, hj0⟩ := hj.out
      replace hj0 := hid hj0
      clear hj hgk
      go_wp2_with fail
      go_loopg [5, 6] (j0 + 1) (fun gc kv hw wq => ∃ k m : Nat, k ≤ r ∧ Hid ((m = 0 ∧ k = r ∧ gc = 0) ∨ (∃ j, m = 2 ^ j ∧ gc = j + 1 ∧ r < k + 2 * m ∧ m ≤ 2 * r + 2)) ∧ Hid (IsBig wq kv k ∧ IsBig wq hw m) ∧ Hid (RtAt w (#[.bool (decide (p.num < 0)), .slice C1 (len p.num.natAbs) j1, .slice C2 (len p.den) j2]) (#[.bool (decide (g.num < 0)), .slice C3 (len g.num.natAbs) j3, .slice C4 (len g.den) j4]) p g wq))
      case atStart => exact ⟨0, h, Nat.zero_le _, hid (.inr ⟨j0, hj0.out, rfl, by omega, h2⟩), hid ⟨hv.out.2, hv.out.1⟩, HR⟩
      case round => 
        obtain ⟨k, m, hk, hcase, hkm, HR⟩ := hrel
        clear hv hlh hb2 h1 h2 hj0
        obtain ⟨Ak, ck, rfl, -, -, -, -⟩ := id hkm.out.1
        obtain ⟨Am, cm, rfl, -, -, -, -⟩ := id hkm.out.2
        obtain ⟨G1, G2, G3, Gx, Gg, Gb⟩ := HR.out
        rcases hcase.out with ⟨hm0, hkr, hgc⟩ | ⟨j, hmj, hgc, hr1, hm2⟩
        · clear hcase
          subst hm0 hkr hgc
          rw [len_zero] at hkm ⊢
          have hlk : IsBig wr (.slice Ak (len k) ck) k := hkm.out.1
          obtain ⟨lk, hll⟩ : ∃ z, len k = z := ⟨_, rfl⟩
          rw [hll] at hlk ⊢
          obtain ⟨u1, hu1⟩ : ∃ u, u = wr.alloc (.cells #[.int .i64 1] 3) := ⟨_, rfl⟩
          have bu : Below wr.heap.size wr u1 := by rw [hu1]; exact alloc_below _ _
          have ho1 : IsBig u1 (.slice (some ⟨wr.heap.size, 0, none⟩) 1 1) 1 := by rw [hu1]; exact big_one wr
          have HR1 := hid (HR.out.keep bu)
          obtain ⟨Q, hQ⟩ : ∃ z : Rat, ((k : Nat) : Rat) = z := ⟨_, rfl⟩
          rw [hQ] at hq2 sr
          have hQr : IsRat u1 (.agg #[.bool false, .slice Ak lk ck, .slice (some ⟨wr.heap.size, 0, none⟩) 1 1]) Q := by rw [← hQ]; exact nat_rat (hlk.keep bu) ho1
          obtain ⟨y0, y1, y2⟩ := cells3 (HR1.out.2.1)
          rw [hu1] at y0 y1 y2
          have HX := hid (mulR_val hq2.out hQr HR1.out.2.2.2.2.1 sr.out sg3.out)
          replace hll := hid hll
          replace hQ := hid hQ
          replace hu1 := hid hu1
          clear G1 G2 G3 Gx Gg Gb HR HF HL HL2 hk hkm hlk hQr ho1 bu
          go_wp2_with fail
          rw [← hu1.out]
          refine (HX.out).mono ?_
          rintro e u2 ⟨v2, rfl, hv2, b2⟩
          obtain ⟨Q1, i1, Q2, i2, rfl, -, -⟩ := id hv2.opened
          have HR2 := HR1.out.keep b2
          clear y0 y1 y2 HX HR1 b2 hu1
          obtain ⟨-, -, DR, -, -, DB⟩ := HR2
          have q0 := cell_of_row _ _ 0 _ _ _ DR
          have q1 := cell_of_row _ _ 1 _ _ _ DR
          have q2 := cell_of_row _ _ 2 _ _ _ DR
          have F0 := frozen_of_row u2 (w.heap.size + 2) 0 _ _ DR
          have F1 := frozen_of_row u2 (w.heap.size + 2) 1 _ _ DR
          have F2 := frozen_of_row u2 (w.heap.size + 2) 2 _ _ DR
          simp only [lg, lz, ls] at q0 q1 q2
          obtain ⟨ue, hw⟩ : ∃ z, z = (((u2.setCell ⟨(w.heap.size + 2), 0, none⟩ (.bool (decide (q.num < 0)))).setCell ⟨(w.heap.size + 2), 1, none⟩ (.slice Q1 (len q.num.natAbs) i1)).setCell ⟨(w.heap.size + 2), 2, none⟩ (.slice Q2 (len q.den) i2)) := ⟨_, rfl⟩
          obtain ⟨E, -, LV, BL⟩ := stored3 DR hw
          have FE := hid (LV.rat hv2)
          have FB := hid (BL _ _ (by omega) DB)
          replace E := hid E
          replace hw := hid hw
          clear BL LV hv2 DR DB
          go_wp2_with fail
          rw [← hw.out]
          obtain ⟨r0, r1, r2⟩ := cells3 E.out
          refine bodyPost_ret (v := .agg #[.bool (decide (q.num < 0)), .slice Q1 (len q.num.natAbs) i1, .slice Q2 (len q.den) i2]) ?_ rfl ⟨_, rfl, FE.out, FB.out⟩
          simp [results, Tryz.results129, go_sem, r0, r1, r2]
        · clear hcase
          have hmp : 0 < m := by rw [hmj]; exact Nat.pow_pos (by decide)
          have hmj2 := hid hmj
          clear hmj
          have hlp : 0 < len m := len_pos.2 hmp
          have d1 : decide (((len m : Nat) : Int) > 0) = true := decide_eq_true (by omega)
          have HP := hid (plus_any hkm.out.1 hkm.out.2 (HL2.out k (by omega)) (HL2.out m (by omega)))
          replace hgc := hid hgc
          clear G1 G2 G3 Gx Gg Gb
          go_wp2_with fail
          refine (HP.out).mono ?_
          rintro e u1 ⟨v1, rfl, hv1, b1⟩
          obtain ⟨An, cn, rfl, -, -, -, -⟩ := id hv1
          replace HR := hid (HR.out.keep b1)
          replace hkm := hid (And.intro (hkm.out.1.keep b1) (hkm.out.2.keep b1))
          replace hv1 := hid hv1
          clear HP b1 hlp d1
          obtain ⟨G1, G2, G3, Gx, Gg, Gb⟩ := HR.out
          obtain ⟨x0, x1, x2⟩ := cells3 G1
          obtain ⟨y0, y1, y2⟩ := cells3 G2
          obtain ⟨b, hb⟩ : ∃ b, decide (k + m ≤ r) = b := ⟨_, rfl⟩
          have HX := hid (fits_any (hb ▸ HF.out (k + m)) hv1.out Gx Gg (HL.out (k + m) (by omega)) sp2.out sg2.out)
          obtain ⟨n, hn⟩ : ∃ n, k + m = n := ⟨_, rfl⟩
          rw [hn] at hb HX hv1 ⊢
          have hbr : (b = true → n ≤ r) ∧ (b = false → r < n) := ⟨fun e => of_decide_eq_true (hb.trans e), fun e => by have := of_decide_eq_false (hb.trans e); omega⟩
          replace hbr := hid hbr
          replace hn := hid hn
          clear G1 G2 G3 Gx Gg Gb hb
          rcases b with _ | _
          all_goals
            go_wp2_with fail
            refine (HX.out).mono ?_
            rintro e u2 ⟨rfl, b2⟩
            have HH := hid (half_any (hkm.out.2.keep b2) (HL2.out m (by omega)))
            replace HR := hid (HR.out.keep b2)
            replace hkm := hid (hkm.out.1.keep b2)
            replace hv1 := hid (hv1.out.keep b2)
            clear HX b2 x0 x1 x2 y0 y1 y2
            go_wp2_with fail
            refine (HH.out).mono ?_
            rintro e u3 ⟨v3, rfl, hv3, b3⟩
            replace HR := hid (HR.out.keep b3)
            replace hkm := hid (hkm.out.keep b3)
            replace hv1 := hid (hv1.out.keep b3)
            replace hv3 := hid hv3
            clear HH b3
            go_wp2_with fail
            go_roundg j
            case measure => rw [hgc.out]; omega
            case rel =>
              have e1 := hn.out
              have e2 := hbr.out
              have e3 := hmj2.out
              rcases j with _ | j
              · have e4 : m = 1 := e3
                subst e4
                first
                  | exact ⟨n, 0, e2.1 (by simp), hid (.inl ⟨rfl, by have := e2.1 (by simp); omega, rfl⟩), hid ⟨hv1.out, hv3.out⟩, HR⟩
                  | exact ⟨k, 0, hk, hid (.inl ⟨rfl, by have := e2.2 (by simp); omega, rfl⟩), hid ⟨hkm.out, hv3.out⟩, HR⟩
              · have e4 : m / 2 = 2 ^ j := by rw [e3, Nat.pow_succ]; omega
                have e5 : m = 2 * (m / 2) := by rw [e4, e3, Nat.pow_succ]; omega
                first
                  | exact ⟨n, m / 2, e2.1 (by simp), hid (.inr ⟨j, e4, rfl, by have := e2.1 (by simp); omega, by omega⟩), hid ⟨hv1.out, hv3.out⟩, HR⟩
                  | exact ⟨k, m / 2, hk, hid (.inr ⟨j, e4, rfl, by have := e2.2 (by simp); omega, by omega⟩), hid ⟨hkm.out, hv3.out⟩, HR⟩
    · have hb2 : h ≤ r := of_decide_eq_true hb
      clear hb
      go_wp2_with fail
      refine (HX.out).mono ?_
      rintro e w3 ⟨rfl, b3⟩
      have HD := hid (double_any (hv.out.1.keep b3) (b := 0) (by omega) (HL2.out h (by omega)))
      replace HR := hid (HR.out.keep b3)
      replace hv := hid (hv.out.2.keep b3)
      clear HX b3 x0 x1 x2 y0 y1 y2
      go_wp2_with fail
      refine (HD.out).mono ?_
      rintro e w4 ⟨v4, rfl, hv4, b4⟩
      replace HR := hid (HR.out.keep b4)
      replace hv := hid (hv.out.keep b4)
      replace hv4 := hid hv4
      clear HD b4
      go_wp2_with fail
      go_roundg (r + 1 - 2 * h)
      case measure => omega
      case rel =>
        obtain ⟨j, hj⟩ := hj
        exact ⟨2 * h, by omega, rfl, by omega, ⟨j + 1, by rw [Nat.pow_succ, ← hj]; omega⟩, hid ⟨hv4.out, hv.out⟩, HR⟩
end Go.Proofs.YtfppimacnhcflaaGreatDoor.Rf
