/-
  Contracts of the functions that the law calls, for every input (End).
-/
import Derived.Test.YtlffafddmmhbmaaGreatDoorH32
set_option linter.all false
namespace Go.Proofs.YtlffafddmmhbmaaGreatDoor
open Go.RowKit
open Vx
open Lib (hid)
open List renaming getElem?_toArray → lg, getElem?_cons_zero → lz, getElem?_cons_succ → ls, setIfInBounds_toArray → lt, set_cons_zero → ly, set_cons_succ → lu

theorem tk {P : Program} {ops : Array Oper} {Q : Exit → Act → World → Prop} {md : Region.Mode} {S : World → Prop} {i : Nat} {oi : Oper} {v : Value} {fuel : Nat} {listed : Array Bool} {a : Act} {w : World} (hi : ops[i]? = some oi := by simp only [lg, lz, ls]; rfl)
    (hb : (Region.noSelect ops && (Region.free md ops listed i && (Region.ready md ops listed).contains i)) = true := by kernel_rfl) (hQ : ∀ c a w, Q (.panic c) (a.put oi.dst v) w → Q (.panic c) a w := by exact fun _ _ _ h => h) (hS : S w := by assumption) (hy : YieldsIf P ops S oi v a := by refine Or.inl ⟨by rfl, ?_⟩; intro w hSw; (try dsimp only at hSw); go_simp; try with_reducible rfl)
    (h : wpAnyH P md ops Q S fuel (listed.setIfInBounds i true) (a.put oi.dst v) w) : wpAnyH P md ops Q S (fuel + 1) listed a w := by
  rw [Bool.and_eq_true, Bool.and_eq_true] at hb
  exact wpAnyH_take hi hb.1 hb.2.1 hb.2.2 hQ hy hS h
def anyEq (l : List Rat) (p : Rat) : Bool := l.any (fun z => decide (z = p))
theorem anyEq_step {l : List Rat} {k : Nat} {z p : Rat} (h : l[k]? = some z) : anyEq (l.take (k + 1)) p = (anyEq (l.take k) p || decide (z = p)) := by
  unfold anyEq
  rw [List.take_add_one, h, List.any_append]
  simp
theorem wp_letter' {P : Program} {c : Code} {Q : Exit → Act → World → Prop} {a : Act} {w : World} (h : ∀ A0, a = A0 → c.wp P Q A0 w) : c.wp P Q a w := h _ rfl
theorem num_eq {P : Program} {f : Nat} {ar : Array Value} {w : World} {q z : Rat} (h : Calls P f ar w (NumRet w q)) (e : q = z) : Calls P f ar w (NumRet w z) := e ▸ h
theorem equal_val {w : World} {vx vy : Value} {x y : Rat} {r : Bool} (hr : decide (x = y) = r) (hx : IsNum w vx x) (hy : IsNum w vy y) (hs : siz x ≤ 536870912) (hs2 : siz y ≤ 536870912) (hT : TabAt 0 Lib.deBruijn64tab w) :
    Calls Tryz.prog 13 #[vx, vy] w (BoolRet w r) := by rw [← hr]; exact equal_any hx hy hs hs2 hT
theorem k_letter {K : Act → World → Prop} {a : Act} {w : World} (h : ∀ A0, a = A0 → K A0 w) : K a w := h _ rfl
theorem round_of {k : Nat} {a b c d z0 z1 z2 z3 : Rat} {op : Rat → Rat → Rat} (hk : k < 4) (e0 : op a c = z0) (e1 : op b c = z1) (e2 : op a d = z2) (e3 : op b d = z3) :
    ∃ x y z : Rat, (k % 2 = 1 → x = b) ∧ (k % 2 ≠ 1 → x = a) ∧ (2 ≤ k → y = d) ∧ (k < 2 → y = c) ∧ op x y = z ∧ [z0, z1, z2, z3][k]? = some z ∧ (x = a ∨ x = b) ∧ (y = c ∨ y = d) ∧ z ∈ [z0, z1, z2, z3] := by
  match k, hk with
  | 0, _ => exact ⟨a, c, z0, by omega, fun _ => rfl, by omega, fun _ => rfl, e0, rfl, Or.inl rfl, Or.inl rfl, by simp⟩
  | 1, _ => exact ⟨b, c, z1, fun _ => rfl, by omega, by omega, fun _ => rfl, e1, rfl, Or.inr rfl, Or.inl rfl, by simp⟩
  | 2, _ => exact ⟨a, d, z2, by omega, fun _ => rfl, fun _ => rfl, by omega, e2, rfl, Or.inl rfl, Or.inr rfl, by simp⟩
  | 3, _ => exact ⟨b, d, z3, fun _ => rfl, by omega, fun _ => rfl, by omega, e3, rfl, Or.inr rfl, Or.inr rfl, by simp⟩

set_option maxRecDepth 100000 in
set_option maxHeartbeats 40000000 in
theorem ended_any {w : World} {v1 v2 v3 : Value} {p q a b c d z0 z1 z2 z3 : Rat} {f : Nat} {op : Rat → Rat → Rat} {mx : Int} (hr : IsBox w v1 p q) (hs : IsBox w v2 a b) (ht : IsBox w v3 c d)
    (sa : siz a ≤ 536870912) (sb : siz b ≤ 536870912) (sc : siz c ≤ 536870912) (sd : siz d ≤ 536870912) (sp : siz p ≤ 536870912) (sq : siz q ≤ 536870912) (hz : ∀ z ∈ [z0, z1, z2, z3], siz z ≤ 536870912)
    (e0 : op a c = z0) (e1 : op b c = z1) (e2 : op a d = z2) (e3 : op b d = z3)
    (hf : ∀ (w' : World) (vx vy : Value) (x y : Rat), (x = a ∨ x = b) → (y = c ∨ y = d) → IsNum w' vx x → IsNum w' vy y → Calls Tryz.prog f #[vx, vy] w' (NumRet w' (op x y)))
    (hcf : ∀ (ar : Array Value) (u : World), (callFunc f ar).run Tryz.prog u = .ok (.enter f ar) u)
    (hM : w.cell? ⟨1, 0, none⟩ = some (.int .i64 mx)) (hT : TabAt 0 Lib.deBruijn64tab w) :
    Calls Tryz.prog 42 #[v1, v2, v3, .func (.func f) #[] #[]] w (BoolRet w (anyEq [z0, z1, z2, z3] p && anyEq [z0, z1, z2, z3] q)) := by
  have hse : Hid (∀ z ∈ [z0, z1, z2, z3], siz z ≤ 536870912) := hz
  obtain ⟨zl, ezl⟩ : ∃ l : List Rat, [z0, z1, z2, z3] = l := ⟨_, rfl⟩
  obtain ⟨res, eres⟩ : ∃ b : Bool, (anyEq [z0, z1, z2, z3] p && anyEq [z0, z1, z2, z3] q) = b := ⟨_, rfl⟩
  rw [eres]
  rw [ezl] at eres hse
  have hl4 : zl.length = 4 := by rw [← ezl]; rfl
  have z_a : Hid (siz a ≤ 536870912) := sa
  have z_b : Hid (siz b ≤ 536870912) := sb
  have z_c : Hid (siz c ≤ 536870912) := sc
  have z_d : Hid (siz d ≤ 536870912) := sd
  have z_p : Hid (siz p ≤ 536870912) := sp
  have z_q : Hid (siz q ≤ 536870912) := sq
  replace hM := hid hM
  replace hT := hid hT
  replace hf := hid hf
  replace hcf := hid hcf
  replace e0 := hid e0
  replace e1 := hid e1
  replace e2 := hid e2
  replace e3 := hid e3
  replace ezl := hid ezl
  replace eres := hid eres
  replace hl4 := hid hl4
  obtain ⟨R1, r1, R2, r2, R3, r3, R4, r4, rfl, -, -⟩ := id hr.opened
  obtain ⟨S1, s1, S2, s2, S3, s3, S4, s4, rfl, -, -⟩ := id hs.opened
  obtain ⟨T1, t1, T2, t2, T3, t3, T4, t4, rfl, -, -⟩ := id ht.opened
  clear hz sa sb sc sd sp sq
  obtain ⟨w1, hw1⟩ : ∃ u, u = ((w.alloc (.cells #[.bool (decide (p.num < 0)), .slice R1 (len p.num.natAbs) r1, .slice R2 (len (below p.den)) r2, .bool (decide (q.num < 0)), .slice R3 (len q.num.natAbs) r3, .slice R4 (len (below q.den)) r4] 53)).alloc (.cells #[.bool (decide (a.num < 0)), .slice S1 (len a.num.natAbs) s1, .slice S2 (len (below a.den)) s2, .bool (decide (b.num < 0)), .slice S3 (len b.num.natAbs) s3, .slice S4 (len (below b.den)) s4] 53)).alloc (.cells #[.bool (decide (c.num < 0)), .slice T1 (len c.num.natAbs) t1, .slice T2 (len (below c.den)) t2, .bool (decide (d.num < 0)), .slice T3 (len d.num.natAbs) t3, .slice T4 (len (below d.den)) t4] 53) := ⟨_, rfl⟩
  obtain ⟨b1, LR, LS, LT⟩ := news3 w (.cells #[.bool (decide (p.num < 0)), .slice R1 (len p.num.natAbs) r1, .slice R2 (len (below p.den)) r2, .bool (decide (q.num < 0)), .slice R3 (len q.num.natAbs) r3, .slice R4 (len (below q.den)) r4] 53) (.cells #[.bool (decide (a.num < 0)), .slice S1 (len a.num.natAbs) s1, .slice S2 (len (below a.den)) s2, .bool (decide (b.num < 0)), .slice S3 (len b.num.natAbs) s3, .slice S4 (len (below b.den)) s4] 53) (.cells #[.bool (decide (c.num < 0)), .slice T1 (len c.num.natAbs) t1, .slice T2 (len (below c.den)) t2, .bool (decide (d.num < 0)), .slice T3 (len d.num.natAbs) t3, .slice T4 (len (below d.den)) t4] 53)
  rw [← hw1] at b1 LR LS LT
  have hR := hid (hr.keep b1)
  have hS := hid (hs.keep b1)
  have hTT := hid (ht.keep b1)
  replace b1 := hid b1
  replace LR := hid LR
  replace LS := hid LS
  replace LT := hid LT
  clear hr hs ht
  go_enter Tryz.func42, Tryz.ntmps42
  go_upto_region 1 with fail
  rw [← hw1]
  clear hw1
  have HMB1 := hid (cell_keep hM.out b1.out)
  have HTB1 := hid (tab_keep hT.out b1.out)
  have HBB1 := hid b1.out
  clear hM hT b1
  go_wp2_with fail
  go_loopw [9, 10, 11] (fun lo hi i wr => ∃ k : Nat, k ≤ 4 ∧ lo = .bool (anyEq (zl.take k) p) ∧ hi = .bool (anyEq (zl.take k) q) ∧ i = .int .i64 k ∧ Hid (Below w1.heap.size w1 wr)) (fun _ _ i _ => 4 - (intOf i).toNat)
  case atStart => exact ⟨0, Nat.zero_le _, rfl, rfl, rfl, Below.refl _ _⟩
  case round =>
    obtain ⟨k, hk, rfl, rfl, rfl, hbr⟩ := hrel
    obtain ⟨w2, hw2⟩ : ∃ z, z = wr := ⟨_, rfl⟩
    rw [← hw2] at hbr ⊢
    clear hw2
    have b2 := hbr
    clear hbr
    have hbase := b2
    have hRr2 := hid (hR.out.keep b2.out)
    have hRs2 := hid (hS.out.keep b2.out)
    have hRt2 := hid (hTT.out.keep b2.out)
    have LRr2 : Hid (w2.heap[w.heap.size]? = some (.cells #[.bool (decide (p.num < 0)), .slice R1 (len p.num.natAbs) r1, .slice R2 (len (below p.den)) r2, .bool (decide (q.num < 0)), .slice R3 (len q.num.natAbs) r3, .slice R4 (len (below q.den)) r4] 53 (0, 0))) := (b2.out.block _ (Array.getElem?_eq_some_iff.1 LR.out).1).trans LR.out
    have LRs2 : Hid (w2.heap[w.heap.size + 1]? = some (.cells #[.bool (decide (a.num < 0)), .slice S1 (len a.num.natAbs) s1, .slice S2 (len (below a.den)) s2, .bool (decide (b.num < 0)), .slice S3 (len b.num.natAbs) s3, .slice S4 (len (below b.den)) s4] 53 (0, 0))) := (b2.out.block _ (Array.getElem?_eq_some_iff.1 LS.out).1).trans LS.out
    have LRt2 : Hid (w2.heap[w.heap.size + 2]? = some (.cells #[.bool (decide (c.num < 0)), .slice T1 (len c.num.natAbs) t1, .slice T2 (len (below c.den)) t2, .bool (decide (d.num < 0)), .slice T3 (len d.num.natAbs) t3, .slice T4 (len (below d.den)) t4] 53 (0, 0))) := (b2.out.block _ (Array.getElem?_eq_some_iff.1 LT.out).1).trans LT.out
    have HMB2 := hid (cell_keep HMB1.out b2.out)
    have HTB2 := hid (tab_keep HTB1.out b2.out)
    have HBB2 := hid (Below.step HBB1.out b2.out)
    clear hR hS hTT LR LS LT HMB1 HTB1 HBB1 b2
    rcases Nat.lt_or_ge k 4 with hlt | hge
    · obtain ⟨x, y, z, hxo, hxe, hyo, hye, ez, hzk, hxm, hym, hzm⟩ := round_of hlt e0.out e1.out e2.out e3.out
      have z_z := hse.out z (by rw [← ezl.out]; exact hzm)
      rw [ezl.out] at hzk
      have st1 := anyEq_step (p := p) hzk
      have st2 := anyEq_step (p := q) hzk
      have z_x : Hid (siz x ≤ 536870912) := by rcases hxm with h | h <;> rw [h]; exact z_a; exact z_b
      have z_y : Hid (siz y ≤ 536870912) := by rcases hym with h | h <;> rw [h]; exact z_c; exact z_d
      obtain ⟨lo, elo⟩ : ∃ v : Bool, anyEq (zl.take k) p = v := ⟨_, rfl⟩
      obtain ⟨hi, ehi⟩ : ∃ v : Bool, anyEq (zl.take k) q = v := ⟨_, rfl⟩
      rw [elo, ehi]
      rw [elo] at st1
      rw [ehi] at st2
      have dlt : decide (((k : Nat) : Int) < 4) = true := decide_eq_true (by omega)
      obtain ⟨m, hm⟩ : ∃ m : Nat, m = k % 2 := ⟨_, rfl⟩
      have hmi : Int.tmod ((k : Nat) : Int) 2 = ((m : Nat) : Int) := by rw [hm, Int.tmod_eq_emod_of_nonneg (by omega)]; omega
      have hmi2 : ((k : Nat) : Int) % 2 = ((m : Nat) : Int) := by omega
      clear hzm hzk elo ehi
      replace hxo := hid hxo
      replace hxe := hid hxe
      replace hyo := hid hyo
      replace hye := hid hye
      replace ez := hid ez
      replace hxm := hid hxm
      replace hym := hid hym
      replace z_z := hid z_z
      replace st1 := hid st1
      replace st2 := hid st2
      replace hm := hid hm
      go_wp2_with fail
      obtain ⟨NN5, hNN⟩ : ∃ n : Nat, w2.heap.size = n := ⟨_, rfl⟩
      have HSZ5 : Hid (w2.heap.size = NN5) := hNN
      have hg : w2.heap[w.heap.size + 1]? = some (.cells #[.bool (decide (a.num < 0)), .slice S1 (len a.num.natAbs) s1, .slice S2 (len (below a.den)) s2, .bool (decide (b.num < 0)), .slice S3 (len b.num.natAbs) s3, .slice S4 (len (below b.den)) s4] 53 (0, 0)) := ((Below.refl _ w2).block _ (Array.getElem?_eq_some_iff.1 LRs2.out).1).trans LRs2.out
      obtain ⟨z_s_0, z_s_1, z_s_2, z_s_3, z_s_4, z_s_5⟩ := cells6 hg
      clear hg
      have hlt5_s : w.heap.size + 1 < NN5 := Nat.lt_of_lt_of_eq (World.block_lt_of_cell? _ _ z_s_0) hNN
      have hg : w2.heap[w.heap.size + 2]? = some (.cells #[.bool (decide (c.num < 0)), .slice T1 (len c.num.natAbs) t1, .slice T2 (len (below c.den)) t2, .bool (decide (d.num < 0)), .slice T3 (len d.num.natAbs) t3, .slice T4 (len (below d.den)) t4] 53 (0, 0)) := ((Below.refl _ w2).block _ (Array.getElem?_eq_some_iff.1 LRt2.out).1).trans LRt2.out
      obtain ⟨z_t_0, z_t_1, z_t_2, z_t_3, z_t_4, z_t_5⟩ := cells6 hg
      clear hg
      have hlt5_t : w.heap.size + 2 < NN5 := Nat.lt_of_lt_of_eq (World.block_lt_of_cell? _ _ z_t_0) hNN
      have H0 := Held0.start w2 NN5
      refine wp_region_held_drew (S := (fun w' => (∀ b o, b < NN5 → w'.cell? ⟨b, o, none⟩ = w2.cell? ⟨b, o, none⟩))) (by kernel_rfl) ?_ (fun hHeld => ?_)
      · (try dsimp only)
        exact H0.1
      obtain ⟨wd5, hwd⟩ : ∃ u, u = w2.drew := ⟨_, rfl⟩
      rw [← hwd] at hHeld H0 ⊢
      clear hwd hNN
      refine tk (i := 0) (h := ?_)
      try simp only [Act.put, lt, ly, lu]
      refine tk (i := 2) (h := ?_)
      try simp only [Act.put, lt, ly, lu]
      generalize hF5 : wpAnyH _ _ _ _ _ = F5
      replace hF5 := hid hF5
      refine letters ?_
      intro A5 hA5
      replace hA5 := hid hA5
      have H0h := hid H0
      clear H0 hHeld
      have st5_2_1213 : ∀ (L : Array Bool) (u : World) (v20 v22 : Value) (n12 n13 : Nat), L = #[true, true, true, true, true, true, false, false] → Hid (Held0 w2 NN5 w2 u) → Hid (IsNum u v20 a) → Hid (IsNum u v22 c) → Hid (Zero3 u n12) → NN5 ≤ n12 → Hid (Zero3 u n13) → NN5 ≤ n13 → n12 ≠ n13 → F5 2 L (Act.put (Act.put (Act.put (Act.put A5 (some 12) (.pointer (some ⟨n12, 0, none⟩))) (some 13) (.pointer (some ⟨n13, 0, none⟩))) (some 20) v20) (some 22) v22) u := by
       intro L u v20 v22 n12 n13 hLL HK I20 I22 Z12 g12 Z13 g13 ne12_13
       subst hLL
       rw [← hF5.out, ← hA5.out]
       try simp only [Act.put, lt, ly, lu]
       clear H0h z_s_0 z_s_1 z_s_2 z_s_3 z_s_4 z_s_5 z_t_0 z_t_1 z_t_2 z_t_3 z_t_4 z_t_5 hlt5_s hlt5_t
       obtain ⟨B12x0, b12x0, B12x1, b12x1, rfl, -, -⟩ := id I20.out.opened
       obtain ⟨B13x0, b13x0, B13x1, b13x1, rfl, -, -⟩ := id I22.out.opened
       refine wpAnyH_ready (rs := [6]) (by kernel_rfl) (by simp) ?_
       refine AllReadyH.cons (o := ?oq3) ?eq3 ?kq3 AllReadyH.nil
       case eq3 => simp only [lg, lz, ls]; rfl
       intro K hK
       have q0 : u.cell? ⟨n12, 0, none⟩ = some (.bool false) := cell_of_row _ _ _ _ _ _ Z12.out
       have F0 : u.frozen? ⟨n12, 0, none⟩ = false := frozen_of_row u n12 0 _ _ Z12.out
       have q1 : u.cell? ⟨n12, 1, none⟩ = some (.slice none 0 0) := cell_of_row _ _ _ _ _ _ Z12.out
       have F1 : u.frozen? ⟨n12, 1, none⟩ = false := frozen_of_row u n12 1 _ _ Z12.out
       have q2 : u.cell? ⟨n12, 2, none⟩ = some (.slice none 0 0) := cell_of_row _ _ _ _ _ _ Z12.out
       have F2 : u.frozen? ⟨n12, 2, none⟩ = false := frozen_of_row u n12 2 _ _ Z12.out
       go_simp
       clear q0 F0 q1 F1 q2 F2
       obtain ⟨us5_12, hw⟩ : ∃ z, z = (((u.setCell ⟨n12, 0, none⟩ (.bool (decide (a.num < 0)))).setCell ⟨n12, 1, none⟩ (.slice B12x0 (len a.num.natAbs) b12x0)).setCell ⟨n12, 2, none⟩ (.slice B12x1 (len (below a.den)) b12x1)) := ⟨_, rfl⟩
       obtain ⟨HK12, ZZ12, II12, OT, OB, ON⟩ := put3_all hw HK.out Z12.out g12 I20.out
       rw [← hw]
       clear hw
       replace HK12 := hid HK12
       replace ZZ12 := hid ZZ12
       replace II12 := hid II12
       have ZZ13_12 := hid (OT _ _ (Ne.symm ne12_13) Z13.out)
       have II13_12 := hid (ON _ _ I22.out)
       refine hK.out _ _ ?_ (fun hHeld => ?_)
       · (try dsimp only)
         exact HK12.out.1
       clear hK K hHeld OT OB ON HK Z12 I20 Z13 I22
       try simp only [Act.put, lt, ly, lu]
       refine wpAnyH_ready (rs := [7]) (by kernel_rfl) (by simp) ?_
       refine AllReadyH.cons (o := ?oq4) ?eq4 ?kq4 AllReadyH.nil
       case eq4 => simp only [lg, lz, ls]; rfl
       intro K hK
       have q0 : us5_12.cell? ⟨n13, 0, none⟩ = some (.bool false) := cell_of_row _ _ _ _ _ _ ZZ13_12.out
       have F0 : us5_12.frozen? ⟨n13, 0, none⟩ = false := frozen_of_row us5_12 n13 0 _ _ ZZ13_12.out
       have q1 : us5_12.cell? ⟨n13, 1, none⟩ = some (.slice none 0 0) := cell_of_row _ _ _ _ _ _ ZZ13_12.out
       have F1 : us5_12.frozen? ⟨n13, 1, none⟩ = false := frozen_of_row us5_12 n13 1 _ _ ZZ13_12.out
       have q2 : us5_12.cell? ⟨n13, 2, none⟩ = some (.slice none 0 0) := cell_of_row _ _ _ _ _ _ ZZ13_12.out
       have F2 : us5_12.frozen? ⟨n13, 2, none⟩ = false := frozen_of_row us5_12 n13 2 _ _ ZZ13_12.out
       go_simp
       clear q0 F0 q1 F1 q2 F2
       obtain ⟨us5_13, hw⟩ : ∃ z, z = (((us5_12.setCell ⟨n13, 0, none⟩ (.bool (decide (c.num < 0)))).setCell ⟨n13, 1, none⟩ (.slice B13x0 (len c.num.natAbs) b13x0)).setCell ⟨n13, 2, none⟩ (.slice B13x1 (len (below c.den)) b13x1)) := ⟨_, rfl⟩
       obtain ⟨HK13, ZZ13, II13, OT, OB, ON⟩ := put3_all hw HK12.out ZZ13_12.out g13 II13_12.out
       rw [← hw]
       clear hw
       replace HK13 := hid HK13
       replace ZZ13 := hid ZZ13
       replace II13 := hid II13
       have ZZ12_13 := hid (OT _ _ ne12_13 ZZ12.out)
       have II12_13 := hid (ON _ _ II12.out)
       refine hK.out _ _ ?_ (fun hHeld => ?_)
       · (try dsimp only)
         exact HK13.out.1
       clear hK K hHeld OT OB ON HK12 ZZ13_12 II13_12 ZZ12 II12
       try simp only [Act.put, lt, ly, lu]
       refine wpAnyH_done (by kernel_rfl) ?_ _
       obtain ⟨w3, hwq⟩ : ∃ z, z = us5_13 := ⟨_, rfl⟩
       rw [← hwq] at HK13 ZZ12_13 ZZ13 II12_13 II13 ⊢
       clear hwq hF5 hA5
       have b3 : Hid (Below w2.heap.size w2 w3) := below_eq HK13.out.2.1 HSZ5.out
       go_upto_region 6 with fail
       rename_i K8 hK8 Kb hKb
       replace hK8 := hid hK8
       refine wp_letter' ?_
       intro A8 hA8
       replace hA8 := hid hA8
       have rest8 : ∀ (u : World) (X1 X2 : Option Addr) (x1 x2 : Nat) (y23 y24 y25 y26 y27 : Value), Hid (Held0 w2 NN5 w2 u) → Hid (IsNum u (.agg #[.bool (decide (x.num < 0)), .slice X1 (len x.num.natAbs) x1, .slice X2 (len (below x.den)) x2]) x) → Hid (u.heap[n12]? = some (.cells #[.bool (decide (x.num < 0)), .slice X1 (len x.num.natAbs) x1, .slice X2 (len (below x.den)) x2] 27 (0, 0))) → Hid (IsNum u (.agg #[.bool (decide (c.num < 0)), .slice B13x0 (len c.num.natAbs) b13x0, .slice B13x1 (len (below c.den)) b13x1]) c) → Hid (u.heap[n13]? = some (.cells #[.bool (decide (c.num < 0)), .slice B13x0 (len c.num.natAbs) b13x0, .slice B13x1 (len (below c.den)) b13x1] 27 (0, 0))) → K8 (Act.put (Act.put (Act.put (Act.put (Act.put A8 (some 23) y23) (some 24) y24) (some 25) y25) (some 26) y26) (some 27) y27) u := by
        intro u X1 X2 x1 x2 y23 y24 y25 y26 y27 HKr8 IX8 ZX8 IY8 ZY8
        refine hK8.out _ _ ?_
        rw [← hA8.out]
        simp only [Act.put, lt, ly, lu]
        clear hK8 hA8 Kb hKb II12_13 II13 ZZ12_13 ZZ13 HK13 b3
        obtain ⟨w3, hwq⟩ : ∃ z, z = u := ⟨_, rfl⟩
        rw [← hwq] at HKr8 IX8 ZX8 IY8 ZY8 ⊢
        clear hwq
        have b3 : Hid (Below w2.heap.size w2 w3) := below_eq HKr8.out.2.1 HSZ5.out
        go_upto_region 8 with fail
        rename_i K10 hK10 Kb hKb
        replace hK10 := hid hK10
        refine wp_letter' ?_
        intro A10 hA10
        replace hA10 := hid hA10
        have rest10 : ∀ (u : World) (Y1 Y2 : Option Addr) (y1 y2 : Nat) (y28 y29 y30 y31 : Value), Hid (Held0 w2 NN5 w2 u) → Hid (IsNum u (.agg #[.bool (decide (x.num < 0)), .slice X1 (len x.num.natAbs) x1, .slice X2 (len (below x.den)) x2]) x) → Hid (u.heap[n12]? = some (.cells #[.bool (decide (x.num < 0)), .slice X1 (len x.num.natAbs) x1, .slice X2 (len (below x.den)) x2] 27 (0, 0))) → Hid (IsNum u (.agg #[.bool (decide (y.num < 0)), .slice Y1 (len y.num.natAbs) y1, .slice Y2 (len (below y.den)) y2]) y) → Hid (u.heap[n13]? = some (.cells #[.bool (decide (y.num < 0)), .slice Y1 (len y.num.natAbs) y1, .slice Y2 (len (below y.den)) y2] 27 (0, 0))) → K10 (Act.put (Act.put (Act.put (Act.put A10 (some 28) y28) (some 29) y29) (some 30) y30) (some 31) y31) u := by
         intro u Y1 Y2 y1 y2 y28 y29 y30 y31 HKr10 IX10 ZX10 IY10 ZY10
         refine hK10.out _ _ ?_
         rw [← hA10.out]
         simp only [Act.put, lt, ly, lu]
         clear hK10 hA10 Kb hKb HKr8 IX8 ZX8 IY8 ZY8 b3
         obtain ⟨w3, hwq⟩ : ∃ z, z = u := ⟨_, rfl⟩
         rw [← hwq] at HKr10 IX10 ZX10 IY10 ZY10 ⊢
         clear hwq
         have b3 : Hid (Below w2.heap.size w2 w3) := below_eq HKr10.out.2.1 HSZ5.out
         have hg : w3.heap[n12]? = some (.cells #[.bool (decide (x.num < 0)), .slice X1 (len x.num.natAbs) x1, .slice X2 (len (below x.den)) x2] 27 (0, 0)) := ((Below.refl _ w3).block _ (Array.getElem?_eq_some_iff.1 ZX10.out).1).trans ZX10.out
         obtain ⟨z_x_0, z_x_1, z_x_2⟩ := cells3 hg
         clear hg
         have hg : w3.heap[n13]? = some (.cells #[.bool (decide (y.num < 0)), .slice Y1 (len y.num.natAbs) y1, .slice Y2 (len (below y.den)) y2] 27 (0, 0)) := ((Below.refl _ w3).block _ (Array.getElem?_eq_some_iff.1 ZY10.out).1).trans ZY10.out
         obtain ⟨z_y_0, z_y_1, z_y_2⟩ := cells3 hg
         clear hg
         have HX := hid (num_eq (hf.out _ _ _ _ _ hxm.out hym.out IX10.out IY10.out) ez.out)
         go_wp2_with fail
         rw [hcf.out]
         dsimp only [Oper.upon]
         refine (HX.out).mono ?_
         rintro e w4 ⟨v4, rfl, hv4, b4⟩
         obtain ⟨C1, j1, C2, j2, rfl, -, -⟩ := id hv4.opened
         replace hv4 := hid hv4
         replace b4 := hid b4
         clear HX
         clear z_x_0 z_x_1 z_x_2 z_y_0 z_y_1 z_y_2
         go_upto_region 11 with fail
         obtain ⟨w5, hw5⟩ : ∃ u, u = w4.alloc (.cells #[.bool (decide (z.num < 0)), .slice C1 (len z.num.natAbs) j1, .slice C2 (len (below z.den)) j2] 27) := ⟨_, rfl⟩
         have b5 : Hid (Below w4.heap.size w4 w5) := by rw [hw5]; exact (Below.refl _ _).alloc (Nat.le_refl _) _
         have L5 : Hid (w5.heap[w4.heap.size]? = some (.cells #[.bool (decide (z.num < 0)), .slice C1 (len z.num.natAbs) j1, .slice C2 (len (below z.den)) j2] 27 (0, 0))) := by rw [hw5]; exact heap_alloc_new w4 _
         rw [← hw5]
         clear hw5
         obtain ⟨f1, ef1⟩ : ∃ v : Bool, decide (z = p) = v := ⟨_, rfl⟩
         obtain ⟨f2, ef2⟩ : ∃ v : Bool, decide (z = q) = v := ⟨_, rfl⟩
         replace ef1 := hid ef1
         replace ef2 := hid ef2
         cases lo
         · cases hi
           · go_wp2_with fail
             obtain ⟨NN11, hNN⟩ : ∃ n : Nat, w5.heap.size = n := ⟨_, rfl⟩
             have HSZ11 : Hid (w5.heap.size = NN11) := hNN
             have hg : w5.heap[w.heap.size]? = some (.cells #[.bool (decide (p.num < 0)), .slice R1 (len p.num.natAbs) r1, .slice R2 (len (below p.den)) r2, .bool (decide (q.num < 0)), .slice R3 (len q.num.natAbs) r3, .slice R4 (len (below q.den)) r4] 53 (0, 0)) := ((Below.step (Below.step b3.out b4.out) b5.out).block _ (Array.getElem?_eq_some_iff.1 LRr2.out).1).trans LRr2.out
             obtain ⟨z_r_0, z_r_1, z_r_2, z_r_3, z_r_4, z_r_5⟩ := cells6 hg
             clear hg
             have hlt11_r : w.heap.size < NN11 := Nat.lt_of_lt_of_eq (World.block_lt_of_cell? _ _ z_r_0) hNN
             have hg : w5.heap[w4.heap.size]? = some (.cells #[.bool (decide (z.num < 0)), .slice C1 (len z.num.natAbs) j1, .slice C2 (len (below z.den)) j2] 27 (0, 0)) := ((Below.refl _ w5).block _ (Array.getElem?_eq_some_iff.1 L5.out).1).trans L5.out
             obtain ⟨z_z_0, z_z_1, z_z_2⟩ := cells3 hg
             clear hg
             have hlt11_z : w4.heap.size < NN11 := Nat.lt_of_lt_of_eq (World.block_lt_of_cell? _ _ z_z_0) hNN
             have H0 := Held0.start w5 NN11
             have H0' := H0
             unfold Held0 at H0'
             refine wp_region_held_drew (S := (fun w' => (∀ b o, b < NN11 → w'.cell? ⟨b, o, none⟩ = w5.cell? ⟨b, o, none⟩) ∧ Below (NN11) w5 w' ∧ Stay w5 w')) (by kernel_rfl) ?_ (fun hHeld => ?_)
             · (try dsimp only)
               exact H0'
             obtain ⟨w6, hw6⟩ : ∃ u, u = w5.drew := ⟨_, rfl⟩
             have b6 : Hid (Below w5.heap.size w5 w6) := by rw [hw6]; exact ⟨rfl, rfl, rfl, Nat.le_refl _, fun _ _ => rfl⟩
             rw [← hw6] at hHeld H0 ⊢
             clear hw6 H0' hNN
             as_aux_lemma =>
              refine tk (i := 0) (h := ?_)
              try simp only [Act.put, lt, ly, lu]
              refine tk (i := 1) (h := ?_)
              try simp only [Act.put, lt, ly, lu]
              refine tk (i := 2) (h := ?_)
              try simp only [Act.put, lt, ly, lu]
              refine tk (i := 3) (h := ?_)
              try simp only [Act.put, lt, ly, lu]
              refine tk (i := 7) (h := ?_)
              try simp only [Act.put, lt, ly, lu]
              refine wpAnyH_ready (rs := [4]) (by kernel_rfl) (by simp) (AllReadyH.cons (o := ?oq10) ?eq10 ?kq10 AllReadyH.nil)
              case eq10 => simp only [lg, lz, ls]; rfl
              intro K hK; go_simp; go_at_call 40
              refine (lo_val (hRr2.out.keep (Below.step (Below.step (Below.step b3.out b4.out) b5.out) b6.out)) z_p.out).mono ?_
              rintro e w7 ⟨v7, rfl, hv7, b7⟩
              obtain ⟨C3, j3, C4, j4, rfl, -, -⟩ := id hv7.opened; replace hv7 := hid hv7
              replace b7 := hid b7; have hk7 := hcall H0 HSZ11 b7.out; have hk7' := hk7; unfold Held0 at hk7'; clear hHeld H0
              refine hK.out _ _ ?_ (fun hHeld => ?_)
              · (try dsimp only); with_reducible exact hk7'
              clear hK K hk7'; try simp only [Act.put, lt, ly, lu]
              refine wpAnyH_ready (rs := [5]) (by kernel_rfl) (by simp) (AllReadyH.cons (o := ?oq11) ?eq11 ?kq11 AllReadyH.nil)
              case eq11 => simp only [lg, lz, ls]; rfl
              intro K hK; go_simp; go_at_call 13
              refine (equal_val ef1.out (hv4.out.keep (Below.step (Below.step b5.out b6.out) b7.out)) hv7.out z_z.out z_p.out (tab_keep HTB2.out (Below.step (Below.step (Below.step (Below.step b3.out b4.out) b5.out) b6.out) b7.out))).mono ?_
              rintro e w8 ⟨rfl, b8⟩
              replace b8 := hid b8; have hk8 := hcall hk7 HSZ11 b8.out; have hk8' := hk8; unfold Held0 at hk8'; clear hHeld hk7
              refine hK.out _ _ ?_ (fun hHeld => ?_)
              · (try dsimp only); with_reducible exact hk8'
              clear hK K hk8'; try simp only [Act.put, lt, ly, lu]
              refine tk (i := 6) (h := ?_)
              try simp only [Act.put, lt, ly, lu]
              refine tk (i := 8) (h := ?_)
              try simp only [Act.put, lt, ly, lu]
              refine tk (i := 9) (h := ?_)
              try simp only [Act.put, lt, ly, lu]
              refine tk (i := 10) (h := ?_)
              try simp only [Act.put, lt, ly, lu]
              refine wpAnyH_ready (rs := [11]) (by kernel_rfl) (by simp) (AllReadyH.cons (o := ?oq16) ?eq16 ?kq16 AllReadyH.nil)
              case eq16 => simp only [lg, lz, ls]; rfl
              intro K hK; go_simp; go_at_call 41
              refine (hi_val (hRr2.out.keep (Below.step (Below.step (Below.step (Below.step (Below.step b3.out b4.out) b5.out) b6.out) b7.out) b8.out)) z_q.out).mono ?_
              rintro e w9 ⟨v9, rfl, hv9, b9⟩
              obtain ⟨C5, j5, C6, j6, rfl, -, -⟩ := id hv9.opened; replace hv9 := hid hv9
              replace b9 := hid b9; have hk9 := hcall hk8 HSZ11 b9.out; have hk9' := hk9; unfold Held0 at hk9'; clear hHeld hk8
              refine hK.out _ _ ?_ (fun hHeld => ?_)
              · (try dsimp only); with_reducible exact hk9'
              clear hK K hk9'; try simp only [Act.put, lt, ly, lu]
              as_aux_lemma =>
               refine wpAnyH_ready (rs := [12]) (by kernel_rfl) (by simp) (AllReadyH.cons (o := ?oq17) ?eq17 ?kq17 AllReadyH.nil)
               case eq17 => simp only [lg, lz, ls]; rfl
               intro K hK; go_simp; go_at_call 13
               refine (equal_val ef2.out (hv4.out.keep (Below.step (Below.step (Below.step (Below.step b5.out b6.out) b7.out) b8.out) b9.out)) hv9.out z_z.out z_q.out (tab_keep HTB2.out (Below.step (Below.step (Below.step (Below.step (Below.step (Below.step b3.out b4.out) b5.out) b6.out) b7.out) b8.out) b9.out))).mono ?_
               rintro e w10 ⟨rfl, b10⟩
               replace b10 := hid b10; have hk10 := hcall hk9 HSZ11 b10.out; have hk10' := hk10; unfold Held0 at hk10'; clear hHeld hk9
               refine hK.out _ _ ?_ (fun hHeld => ?_)
               · (try dsimp only); with_reducible exact hk10'
               clear hK K hk10'; try simp only [Act.put, lt, ly, lu]
               refine tk (i := 13) (h := ?_)
               try simp only [Act.put, lt, ly, lu]
               refine tk (i := 14) (h := ?_)
               try simp only [Act.put, lt, ly, lu]
               refine tk (i := 15) (h := ?_)
               try simp only [Act.put, lt, ly, lu]
               have HE := hid (Below.step hbase.out (Below.step (Below.step (Below.step (Below.step (Below.step (Below.step (Below.step b3.out b4.out) b5.out) b6.out) b7.out) b8.out) b9.out) b10.out))
               refine wpAnyH_done (by kernel_rfl) ?_ _
               clear hHeld
               go_wp2_with fail
               go_roundw
               case rel => exact ⟨k + 1, by omega, by rw [st1.out, ef1.out]; rfl, by rw [st2.out, ef2.out]; rfl, by simp, HE⟩
               case measure => simp [intOf]; omega
           · go_wp2_with fail
             obtain ⟨NN11, hNN⟩ : ∃ n : Nat, w5.heap.size = n := ⟨_, rfl⟩
             have HSZ11 : Hid (w5.heap.size = NN11) := hNN
             have hg : w5.heap[w.heap.size]? = some (.cells #[.bool (decide (p.num < 0)), .slice R1 (len p.num.natAbs) r1, .slice R2 (len (below p.den)) r2, .bool (decide (q.num < 0)), .slice R3 (len q.num.natAbs) r3, .slice R4 (len (below q.den)) r4] 53 (0, 0)) := ((Below.step (Below.step b3.out b4.out) b5.out).block _ (Array.getElem?_eq_some_iff.1 LRr2.out).1).trans LRr2.out
             obtain ⟨z_r_0, z_r_1, z_r_2, z_r_3, z_r_4, z_r_5⟩ := cells6 hg
             clear hg
             have hlt11_r : w.heap.size < NN11 := Nat.lt_of_lt_of_eq (World.block_lt_of_cell? _ _ z_r_0) hNN
             have hg : w5.heap[w4.heap.size]? = some (.cells #[.bool (decide (z.num < 0)), .slice C1 (len z.num.natAbs) j1, .slice C2 (len (below z.den)) j2] 27 (0, 0)) := ((Below.refl _ w5).block _ (Array.getElem?_eq_some_iff.1 L5.out).1).trans L5.out
             obtain ⟨z_z_0, z_z_1, z_z_2⟩ := cells3 hg
             clear hg
             have hlt11_z : w4.heap.size < NN11 := Nat.lt_of_lt_of_eq (World.block_lt_of_cell? _ _ z_z_0) hNN
             have H0 := Held0.start w5 NN11
             have H0' := H0
             unfold Held0 at H0'
             refine wp_region_held_drew (S := (fun w' => (∀ b o, b < NN11 → w'.cell? ⟨b, o, none⟩ = w5.cell? ⟨b, o, none⟩) ∧ Below (NN11) w5 w' ∧ Stay w5 w')) (by kernel_rfl) ?_ (fun hHeld => ?_)
             · (try dsimp only)
               exact H0'
             obtain ⟨w6, hw6⟩ : ∃ u, u = w5.drew := ⟨_, rfl⟩
             have b6 : Hid (Below w5.heap.size w5 w6) := by rw [hw6]; exact ⟨rfl, rfl, rfl, Nat.le_refl _, fun _ _ => rfl⟩
             rw [← hw6] at hHeld H0 ⊢
             clear hw6 H0' hNN
             as_aux_lemma =>
              refine tk (i := 0) (h := ?_)
              try simp only [Act.put, lt, ly, lu]
              refine tk (i := 1) (h := ?_)
              try simp only [Act.put, lt, ly, lu]
              refine tk (i := 2) (h := ?_)
              try simp only [Act.put, lt, ly, lu]
              refine tk (i := 3) (h := ?_)
              try simp only [Act.put, lt, ly, lu]
              refine tk (i := 7) (h := ?_)
              try simp only [Act.put, lt, ly, lu]
              refine wpAnyH_ready (rs := [4]) (by kernel_rfl) (by simp) (AllReadyH.cons (o := ?oq26) ?eq26 ?kq26 AllReadyH.nil)
              case eq26 => simp only [lg, lz, ls]; rfl
              intro K hK; go_simp; go_at_call 40
              refine (lo_val (hRr2.out.keep (Below.step (Below.step (Below.step b3.out b4.out) b5.out) b6.out)) z_p.out).mono ?_
              rintro e w7 ⟨v7, rfl, hv7, b7⟩
              obtain ⟨C3, j3, C4, j4, rfl, -, -⟩ := id hv7.opened; replace hv7 := hid hv7
              replace b7 := hid b7; have hk7 := hcall H0 HSZ11 b7.out; have hk7' := hk7; unfold Held0 at hk7'; clear hHeld H0
              refine hK.out _ _ ?_ (fun hHeld => ?_)
              · (try dsimp only); with_reducible exact hk7'
              clear hK K hk7'; try simp only [Act.put, lt, ly, lu]
              refine wpAnyH_ready (rs := [5]) (by kernel_rfl) (by simp) (AllReadyH.cons (o := ?oq27) ?eq27 ?kq27 AllReadyH.nil)
              case eq27 => simp only [lg, lz, ls]; rfl
              intro K hK; go_simp; go_at_call 13
              refine (equal_val ef1.out (hv4.out.keep (Below.step (Below.step b5.out b6.out) b7.out)) hv7.out z_z.out z_p.out (tab_keep HTB2.out (Below.step (Below.step (Below.step (Below.step b3.out b4.out) b5.out) b6.out) b7.out))).mono ?_
              rintro e w8 ⟨rfl, b8⟩
              replace b8 := hid b8; have hk8 := hcall hk7 HSZ11 b8.out; have hk8' := hk8; unfold Held0 at hk8'; clear hHeld hk7
              refine hK.out _ _ ?_ (fun hHeld => ?_)
              · (try dsimp only); with_reducible exact hk8'
              clear hK K hk8'; try simp only [Act.put, lt, ly, lu]
              refine tk (i := 6) (h := ?_)
              try simp only [Act.put, lt, ly, lu]
              refine tk (i := 8) (h := ?_)
              try simp only [Act.put, lt, ly, lu]
              refine tk (i := 9) (v := undef) (hy := by exact Or.inr ⟨by rfl, rfl⟩) (h := ?_)
              try simp only [Act.put, lt, ly, lu]
              refine tk (i := 10) (v := undef) (hy := by exact Or.inr ⟨by rfl, rfl⟩) (h := ?_)
              try simp only [Act.put, lt, ly, lu]
              refine wpAnyH_ready (rs := [11]) (by kernel_rfl) (by simp) (AllReadyH.cons (o := ?oq32) ?eq32 ?kq32 AllReadyH.nil)
              case eq32 => simp only [lg, lz, ls]; rfl
              intro K hK; go_simp
              refine hK.out _ _ ?_ (fun hHeld2 => ?_)
              · (try dsimp only); exact hHeld
              clear hK K hHeld
              try simp only [Act.put, lt, ly, lu]
              have hHeld := hHeld2
              clear hHeld2
              as_aux_lemma =>
               refine wpAnyH_ready (rs := [12]) (by kernel_rfl) (by simp) (AllReadyH.cons (o := ?oq33) ?eq33 ?kq33 AllReadyH.nil)
               case eq33 => simp only [lg, lz, ls]; rfl
               intro K hK; go_simp
               refine hK.out _ _ ?_ (fun hHeld2 => ?_)
               · (try dsimp only); exact hHeld
               clear hK K hHeld
               try simp only [Act.put, lt, ly, lu]
               have hHeld := hHeld2
               clear hHeld2
               refine tk (i := 13) (h := ?_)
               try simp only [Act.put, lt, ly, lu]
               refine tk (i := 14) (h := ?_)
               try simp only [Act.put, lt, ly, lu]
               refine tk (i := 15) (h := ?_)
               try simp only [Act.put, lt, ly, lu]
               have HE := hid (Below.step hbase.out (Below.step (Below.step (Below.step (Below.step (Below.step b3.out b4.out) b5.out) b6.out) b7.out) b8.out))
               refine wpAnyH_done (by kernel_rfl) ?_ _
               clear hHeld
               go_wp2_with fail
               go_roundw
               case rel => exact ⟨k + 1, by omega, by rw [st1.out, ef1.out]; rfl, by rw [st2.out]; rfl, by simp, HE⟩
               case measure => simp [intOf]; omega
         · cases hi
           · go_wp2_with fail
             obtain ⟨NN11, hNN⟩ : ∃ n : Nat, w5.heap.size = n := ⟨_, rfl⟩
             have HSZ11 : Hid (w5.heap.size = NN11) := hNN
             have hg : w5.heap[w.heap.size]? = some (.cells #[.bool (decide (p.num < 0)), .slice R1 (len p.num.natAbs) r1, .slice R2 (len (below p.den)) r2, .bool (decide (q.num < 0)), .slice R3 (len q.num.natAbs) r3, .slice R4 (len (below q.den)) r4] 53 (0, 0)) := ((Below.step (Below.step b3.out b4.out) b5.out).block _ (Array.getElem?_eq_some_iff.1 LRr2.out).1).trans LRr2.out
             obtain ⟨z_r_0, z_r_1, z_r_2, z_r_3, z_r_4, z_r_5⟩ := cells6 hg
             clear hg
             have hlt11_r : w.heap.size < NN11 := Nat.lt_of_lt_of_eq (World.block_lt_of_cell? _ _ z_r_0) hNN
             have hg : w5.heap[w4.heap.size]? = some (.cells #[.bool (decide (z.num < 0)), .slice C1 (len z.num.natAbs) j1, .slice C2 (len (below z.den)) j2] 27 (0, 0)) := ((Below.refl _ w5).block _ (Array.getElem?_eq_some_iff.1 L5.out).1).trans L5.out
             obtain ⟨z_z_0, z_z_1, z_z_2⟩ := cells3 hg
             clear hg
             have hlt11_z : w4.heap.size < NN11 := Nat.lt_of_lt_of_eq (World.block_lt_of_cell? _ _ z_z_0) hNN
             have H0 := Held0.start w5 NN11
             have H0' := H0
             unfold Held0 at H0'
             refine wp_region_held_drew (S := (fun w' => (∀ b o, b < NN11 → w'.cell? ⟨b, o, none⟩ = w5.cell? ⟨b, o, none⟩) ∧ Below (NN11) w5 w' ∧ Stay w5 w')) (by kernel_rfl) ?_ (fun hHeld => ?_)
             · (try dsimp only)
               exact H0'
             obtain ⟨w6, hw6⟩ : ∃ u, u = w5.drew := ⟨_, rfl⟩
             have b6 : Hid (Below w5.heap.size w5 w6) := by rw [hw6]; exact ⟨rfl, rfl, rfl, Nat.le_refl _, fun _ _ => rfl⟩
             rw [← hw6] at hHeld H0 ⊢
             clear hw6 H0' hNN
             as_aux_lemma =>
              refine tk (i := 0) (h := ?_)
              try simp only [Act.put, lt, ly, lu]
              refine tk (i := 1) (h := ?_)
              try simp only [Act.put, lt, ly, lu]
              refine tk (i := 2) (v := undef) (hy := by exact Or.inr ⟨by rfl, rfl⟩) (h := ?_)
              try simp only [Act.put, lt, ly, lu]
              refine tk (i := 3) (v := undef) (hy := by exact Or.inr ⟨by rfl, rfl⟩) (h := ?_)
              try simp only [Act.put, lt, ly, lu]
              refine tk (i := 7) (h := ?_)
              try simp only [Act.put, lt, ly, lu]
              refine wpAnyH_ready (rs := [4]) (by kernel_rfl) (by simp) (AllReadyH.cons (o := ?oq42) ?eq42 ?kq42 AllReadyH.nil)
              case eq42 => simp only [lg, lz, ls]; rfl
              intro K hK; go_simp
              refine hK.out _ _ ?_ (fun hHeld2 => ?_)
              · (try dsimp only); exact hHeld
              clear hK K hHeld
              try simp only [Act.put, lt, ly, lu]
              have hHeld := hHeld2
              clear hHeld2
              refine wpAnyH_ready (rs := [5]) (by kernel_rfl) (by simp) (AllReadyH.cons (o := ?oq43) ?eq43 ?kq43 AllReadyH.nil)
              case eq43 => simp only [lg, lz, ls]; rfl
              intro K hK; go_simp
              refine hK.out _ _ ?_ (fun hHeld2 => ?_)
              · (try dsimp only); exact hHeld
              clear hK K hHeld
              try simp only [Act.put, lt, ly, lu]
              have hHeld := hHeld2
              clear hHeld2
              refine tk (i := 6) (h := ?_)
              try simp only [Act.put, lt, ly, lu]
              refine tk (i := 8) (h := ?_)
              try simp only [Act.put, lt, ly, lu]
              refine tk (i := 9) (h := ?_)
              try simp only [Act.put, lt, ly, lu]
              refine tk (i := 10) (h := ?_)
              try simp only [Act.put, lt, ly, lu]
              refine wpAnyH_ready (rs := [11]) (by kernel_rfl) (by simp) (AllReadyH.cons (o := ?oq48) ?eq48 ?kq48 AllReadyH.nil)
              case eq48 => simp only [lg, lz, ls]; rfl
              intro K hK; go_simp; go_at_call 41
              refine (hi_val (hRr2.out.keep (Below.step (Below.step (Below.step b3.out b4.out) b5.out) b6.out)) z_q.out).mono ?_
              rintro e w7 ⟨v7, rfl, hv7, b7⟩
              obtain ⟨C3, j3, C4, j4, rfl, -, -⟩ := id hv7.opened; replace hv7 := hid hv7
              replace b7 := hid b7; have hk7 := hcall H0 HSZ11 b7.out; have hk7' := hk7; unfold Held0 at hk7'; clear hHeld H0
              refine hK.out _ _ ?_ (fun hHeld => ?_)
              · (try dsimp only); with_reducible exact hk7'
              clear hK K hk7'; try simp only [Act.put, lt, ly, lu]
              as_aux_lemma =>
               refine wpAnyH_ready (rs := [12]) (by kernel_rfl) (by simp) (AllReadyH.cons (o := ?oq49) ?eq49 ?kq49 AllReadyH.nil)
               case eq49 => simp only [lg, lz, ls]; rfl
               intro K hK; go_simp; go_at_call 13
               refine (equal_val ef2.out (hv4.out.keep (Below.step (Below.step b5.out b6.out) b7.out)) hv7.out z_z.out z_q.out (tab_keep HTB2.out (Below.step (Below.step (Below.step (Below.step b3.out b4.out) b5.out) b6.out) b7.out))).mono ?_
               rintro e w8 ⟨rfl, b8⟩
               replace b8 := hid b8; have hk8 := hcall hk7 HSZ11 b8.out; have hk8' := hk8; unfold Held0 at hk8'; clear hHeld hk7
               refine hK.out _ _ ?_ (fun hHeld => ?_)
               · (try dsimp only); with_reducible exact hk8'
               clear hK K hk8'; try simp only [Act.put, lt, ly, lu]
               refine tk (i := 13) (h := ?_)
               try simp only [Act.put, lt, ly, lu]
               refine tk (i := 14) (h := ?_)
               try simp only [Act.put, lt, ly, lu]
               refine tk (i := 15) (h := ?_)
               try simp only [Act.put, lt, ly, lu]
               have HE := hid (Below.step hbase.out (Below.step (Below.step (Below.step (Below.step (Below.step b3.out b4.out) b5.out) b6.out) b7.out) b8.out))
               refine wpAnyH_done (by kernel_rfl) ?_ _
               clear hHeld
               go_wp2_with fail
               go_roundw
               case rel => exact ⟨k + 1, by omega, by rw [st1.out]; rfl, by rw [st2.out, ef2.out]; rfl, by simp, HE⟩
               case measure => simp [intOf]; omega
           · go_wp2_with fail
             obtain ⟨NN11, hNN⟩ : ∃ n : Nat, w5.heap.size = n := ⟨_, rfl⟩
             have HSZ11 : Hid (w5.heap.size = NN11) := hNN
             have hg : w5.heap[w.heap.size]? = some (.cells #[.bool (decide (p.num < 0)), .slice R1 (len p.num.natAbs) r1, .slice R2 (len (below p.den)) r2, .bool (decide (q.num < 0)), .slice R3 (len q.num.natAbs) r3, .slice R4 (len (below q.den)) r4] 53 (0, 0)) := ((Below.step (Below.step b3.out b4.out) b5.out).block _ (Array.getElem?_eq_some_iff.1 LRr2.out).1).trans LRr2.out
             obtain ⟨z_r_0, z_r_1, z_r_2, z_r_3, z_r_4, z_r_5⟩ := cells6 hg
             clear hg
             have hlt11_r : w.heap.size < NN11 := Nat.lt_of_lt_of_eq (World.block_lt_of_cell? _ _ z_r_0) hNN
             have hg : w5.heap[w4.heap.size]? = some (.cells #[.bool (decide (z.num < 0)), .slice C1 (len z.num.natAbs) j1, .slice C2 (len (below z.den)) j2] 27 (0, 0)) := ((Below.refl _ w5).block _ (Array.getElem?_eq_some_iff.1 L5.out).1).trans L5.out
             obtain ⟨z_z_0, z_z_1, z_z_2⟩ := cells3 hg
             clear hg
             have hlt11_z : w4.heap.size < NN11 := Nat.lt_of_lt_of_eq (World.block_lt_of_cell? _ _ z_z_0) hNN
             have H0 := Held0.start w5 NN11
             have H0' := H0
             unfold Held0 at H0'
             refine wp_region_held_drew (S := (fun w' => (∀ b o, b < NN11 → w'.cell? ⟨b, o, none⟩ = w5.cell? ⟨b, o, none⟩) ∧ Below (NN11) w5 w' ∧ Stay w5 w')) (by kernel_rfl) ?_ (fun hHeld => ?_)
             · (try dsimp only)
               exact H0'
             obtain ⟨w6, hw6⟩ : ∃ u, u = w5.drew := ⟨_, rfl⟩
             have b6 : Hid (Below w5.heap.size w5 w6) := by rw [hw6]; exact ⟨rfl, rfl, rfl, Nat.le_refl _, fun _ _ => rfl⟩
             rw [← hw6] at hHeld H0 ⊢
             clear hw6 H0' hNN
             as_aux_lemma =>
              refine tk (i := 0) (h := ?_)
              try simp only [Act.put, lt, ly, lu]
              refine tk (i := 1) (h := ?_)
              try simp only [Act.put, lt, ly, lu]
              refine tk (i := 2) (v := undef) (hy := by exact Or.inr ⟨by rfl, rfl⟩) (h := ?_)
              try simp only [Act.put, lt, ly, lu]
              refine tk (i := 3) (v := undef) (hy := by exact Or.inr ⟨by rfl, rfl⟩) (h := ?_)
              try simp only [Act.put, lt, ly, lu]
              refine tk (i := 7) (h := ?_)
              try simp only [Act.put, lt, ly, lu]
              refine wpAnyH_ready (rs := [4]) (by kernel_rfl) (by simp) (AllReadyH.cons (o := ?oq58) ?eq58 ?kq58 AllReadyH.nil)
              case eq58 => simp only [lg, lz, ls]; rfl
              intro K hK; go_simp
              refine hK.out _ _ ?_ (fun hHeld2 => ?_)
              · (try dsimp only); exact hHeld
              clear hK K hHeld
              try simp only [Act.put, lt, ly, lu]
              have hHeld := hHeld2
              clear hHeld2
              refine wpAnyH_ready (rs := [5]) (by kernel_rfl) (by simp) (AllReadyH.cons (o := ?oq59) ?eq59 ?kq59 AllReadyH.nil)
              case eq59 => simp only [lg, lz, ls]; rfl
              intro K hK; go_simp
              refine hK.out _ _ ?_ (fun hHeld2 => ?_)
              · (try dsimp only); exact hHeld
              clear hK K hHeld
              try simp only [Act.put, lt, ly, lu]
              have hHeld := hHeld2
              clear hHeld2
              refine tk (i := 6) (h := ?_)
              try simp only [Act.put, lt, ly, lu]
              refine tk (i := 8) (h := ?_)
              try simp only [Act.put, lt, ly, lu]
              refine tk (i := 9) (v := undef) (hy := by exact Or.inr ⟨by rfl, rfl⟩) (h := ?_)
              try simp only [Act.put, lt, ly, lu]
              refine tk (i := 10) (v := undef) (hy := by exact Or.inr ⟨by rfl, rfl⟩) (h := ?_)
              try simp only [Act.put, lt, ly, lu]
              refine wpAnyH_ready (rs := [11]) (by kernel_rfl) (by simp) (AllReadyH.cons (o := ?oq64) ?eq64 ?kq64 AllReadyH.nil)
              case eq64 => simp only [lg, lz, ls]; rfl
              intro K hK; go_simp
              refine hK.out _ _ ?_ (fun hHeld2 => ?_)
              · (try dsimp only); exact hHeld
              clear hK K hHeld
              try simp only [Act.put, lt, ly, lu]
              have hHeld := hHeld2
              clear hHeld2
              as_aux_lemma =>
               refine wpAnyH_ready (rs := [12]) (by kernel_rfl) (by simp) (AllReadyH.cons (o := ?oq65) ?eq65 ?kq65 AllReadyH.nil)
               case eq65 => simp only [lg, lz, ls]; rfl
               intro K hK; go_simp
               refine hK.out _ _ ?_ (fun hHeld2 => ?_)
               · (try dsimp only); exact hHeld
               clear hK K hHeld
               try simp only [Act.put, lt, ly, lu]
               have hHeld := hHeld2
               clear hHeld2
               refine tk (i := 13) (h := ?_)
               try simp only [Act.put, lt, ly, lu]
               refine tk (i := 14) (h := ?_)
               try simp only [Act.put, lt, ly, lu]
               refine tk (i := 15) (h := ?_)
               try simp only [Act.put, lt, ly, lu]
               have HE := hid (Below.step hbase.out (Below.step (Below.step (Below.step b3.out b4.out) b5.out) b6.out))
               refine wpAnyH_done (by kernel_rfl) ?_ _
               clear hHeld
               go_wp2_with fail
               go_roundw
               case rel => exact ⟨k + 1, by omega, by rw [st1.out]; rfl, by rw [st2.out]; rfl, by simp, HE⟩
               case measure => simp [intOf]; omega
        simp only [← hA10.out, Act.put, lt, ly, lu] at rest10
        replace rest10 := hid rest10
        have HA := hA10.out
        subst HA
        clear hK10
        rcases Decidable.em (2 ≤ k) with h2 | h2
        · have dge : decide (((k : Nat) : Int) ≥ 2) = true := decide_eq_true (by omega)
          have hyd := hyo.out h2
          clear h2
          have hg : w3.heap[w.heap.size + 2]? = some (.cells #[.bool (decide (c.num < 0)), .slice T1 (len c.num.natAbs) t1, .slice T2 (len (below c.den)) t2, .bool (decide (d.num < 0)), .slice T3 (len d.num.natAbs) t3, .slice T4 (len (below d.den)) t4] 53 (0, 0)) := (b3.out.block _ (Array.getElem?_eq_some_iff.1 LRt2.out).1).trans LRt2.out
          obtain ⟨z_t_0, z_t_1, z_t_2, z_t_3, z_t_4, z_t_5⟩ := cells6 hg
          clear hg
          have HX := hid (hi_val (hRt2.out.keep b3.out) z_d.out)
          go_wp2_with fail
          refine (HX.out).mono ?_
          rintro e w4 ⟨v4, rfl, hv4, b4⟩
          obtain ⟨C1, j1, C2, j2, rfl, -, -⟩ := id hv4.opened
          replace hv4 := hid hv4
          replace b4 := hid b4
          clear HX
          clear z_t_0 z_t_1 z_t_2 z_t_3 z_t_4 z_t_5
          have Lq : Loc w4 n13 ⟨decide (c.num < 0), B13x0, len c.num.natAbs, b13x0, B13x1, len (below c.den), b13x1⟩ := (at_keep ZY8.out b4.out)
          have q0 := Lq.c0
          have q1 := Lq.c1'
          have q2 := Lq.c2'
          have F0 := Lq.fr 0
          have F1 := Lq.fr 1
          have F2 := Lq.fr 2
          go_wp2_with fail
          obtain ⟨w5, hw⟩ : ∃ z, z = (((w4.setCell ⟨n13, 0, none⟩ (.bool (decide (d.num < 0)))).setCell ⟨n13, 1, none⟩ (.slice C1 (len d.num.natAbs) j1)).setCell ⟨n13, 2, none⟩ (.slice C2 (len (below d.den)) j2)) := ⟨_, rfl⟩
          have hw' : w5 = put3 w4 n13 ⟨decide (d.num < 0), C1, len d.num.natAbs, j1, C2, len (below d.den), j2⟩ := hw
          rw [← hw]
          clear q0 q1 q2 F0 F1 F2
          have HKs : Hid (Held0 w2 NN5 w2 w5) := by rw [hw']; exact Held0.put3 (hcall HKr8.out HSZ5 b4.out) Lq g13
          have IN : Hid (IsNum w5 (.agg #[.bool (decide (d.num < 0)), .slice C1 (len d.num.natAbs) j1, .slice C2 (len (below d.den)) j2]) d) := by rw [hw']; exact IsNum.put3 hv4.out Lq
          have ZN : Hid (w5.heap[n13]? = some (.cells #[.bool (decide (d.num < 0)), .slice C1 (len d.num.natAbs) j1, .slice C2 (len (below d.den)) j2] 27 (0, 0))) := by rw [hw']; exact Lq.put3 (q := ⟨decide (d.num < 0), C1, len d.num.natAbs, j1, C2, len (below d.den), j2⟩)
          have Lo : Loc w4 n12 ⟨decide (x.num < 0), X1, len x.num.natAbs, x1, X2, len (below x.den), x2⟩ := (at_keep ZX8.out b4.out)
          have IO : Hid (IsNum w5 (.agg #[.bool (decide (x.num < 0)), .slice X1 (len x.num.natAbs) x1, .slice X2 (len (below x.den)) x2]) x) := by rw [hw']; exact IsNum.put3 (IX8.out.keep b4.out) Lq
          have ZO : Hid (w5.heap[n12]? = some (.cells #[.bool (decide (x.num < 0)), .slice X1 (len x.num.natAbs) x1, .slice X2 (len (below x.den)) x2] 27 (0, 0))) := by rw [hw']; exact Lo.put3o ne12_13
          clear hw hw' Lq Lo
          have hy2 : d = y := hyd.symm
          subst hy2
          exact rest10.out _ _ _ _ _ _ _ _ _ HKs IO ZO IN ZN
        · have dge : decide (((k : Nat) : Int) ≥ 2) = false := decide_eq_false (by omega)
          have hyc : c = y := (hye.out (by omega)).symm
          clear h2
          go_wp2_with fail
          subst hyc
          exact rest10.out _ _ _ _ _ _ _ _ _ HKr8 IX8 ZX8 IY8 ZY8
       simp only [← hA8.out, Act.put, lt, ly, lu] at rest8
       replace rest8 := hid rest8
       have HA := hA8.out
       subst HA
       clear hK8
       rcases Decidable.em (m = 1) with h1 | h1
       · have deq : (((m : Nat) : Int) == 1) = true := by rw [h1]; rfl
         have hxb := hxo.out (by rw [← hm.out]; exact h1)
         clear h1
         have hg : w3.heap[w.heap.size + 1]? = some (.cells #[.bool (decide (a.num < 0)), .slice S1 (len a.num.natAbs) s1, .slice S2 (len (below a.den)) s2, .bool (decide (b.num < 0)), .slice S3 (len b.num.natAbs) s3, .slice S4 (len (below b.den)) s4] 53 (0, 0)) := (b3.out.block _ (Array.getElem?_eq_some_iff.1 LRs2.out).1).trans LRs2.out
         obtain ⟨z_s_0, z_s_1, z_s_2, z_s_3, z_s_4, z_s_5⟩ := cells6 hg
         clear hg
         have HX := hid (hi_val (hRs2.out.keep b3.out) z_b.out)
         go_wp2_with fail
         refine (HX.out).mono ?_
         rintro e w4 ⟨v4, rfl, hv4, b4⟩
         obtain ⟨C1, j1, C2, j2, rfl, -, -⟩ := id hv4.opened
         replace hv4 := hid hv4
         replace b4 := hid b4
         clear HX
         clear z_s_0 z_s_1 z_s_2 z_s_3 z_s_4 z_s_5
         have Lq : Loc w4 n12 ⟨decide (a.num < 0), B12x0, len a.num.natAbs, b12x0, B12x1, len (below a.den), b12x1⟩ := (at_keep ZZ12_13.out b4.out)
         have q0 := Lq.c0
         have q1 := Lq.c1'
         have q2 := Lq.c2'
         have F0 := Lq.fr 0
         have F1 := Lq.fr 1
         have F2 := Lq.fr 2
         go_wp2_with fail
         obtain ⟨w5, hw⟩ : ∃ z, z = (((w4.setCell ⟨n12, 0, none⟩ (.bool (decide (b.num < 0)))).setCell ⟨n12, 1, none⟩ (.slice C1 (len b.num.natAbs) j1)).setCell ⟨n12, 2, none⟩ (.slice C2 (len (below b.den)) j2)) := ⟨_, rfl⟩
         have hw' : w5 = put3 w4 n12 ⟨decide (b.num < 0), C1, len b.num.natAbs, j1, C2, len (below b.den), j2⟩ := hw
         rw [← hw]
         clear q0 q1 q2 F0 F1 F2
         have HKs : Hid (Held0 w2 NN5 w2 w5) := by rw [hw']; exact Held0.put3 (hcall HK13.out HSZ5 b4.out) Lq g12
         have IN : Hid (IsNum w5 (.agg #[.bool (decide (b.num < 0)), .slice C1 (len b.num.natAbs) j1, .slice C2 (len (below b.den)) j2]) b) := by rw [hw']; exact IsNum.put3 hv4.out Lq
         have ZN : Hid (w5.heap[n12]? = some (.cells #[.bool (decide (b.num < 0)), .slice C1 (len b.num.natAbs) j1, .slice C2 (len (below b.den)) j2] 27 (0, 0))) := by rw [hw']; exact Lq.put3 (q := ⟨decide (b.num < 0), C1, len b.num.natAbs, j1, C2, len (below b.den), j2⟩)
         have Lo : Loc w4 n13 ⟨decide (c.num < 0), B13x0, len c.num.natAbs, b13x0, B13x1, len (below c.den), b13x1⟩ := (at_keep ZZ13.out b4.out)
         have IO : Hid (IsNum w5 (.agg #[.bool (decide (c.num < 0)), .slice B13x0 (len c.num.natAbs) b13x0, .slice B13x1 (len (below c.den)) b13x1]) c) := by rw [hw']; exact IsNum.put3 (II13.out.keep b4.out) Lq
         have ZO : Hid (w5.heap[n13]? = some (.cells #[.bool (decide (c.num < 0)), .slice B13x0 (len c.num.natAbs) b13x0, .slice B13x1 (len (below c.den)) b13x1] 27 (0, 0))) := by rw [hw']; exact Lo.put3o (Ne.symm ne12_13)
         clear hw hw' Lq Lo
         have hx2 : b = x := hxb.symm
         subst hx2
         exact rest8.out _ _ _ _ _ _ _ _ _ _ HKs IN ZN IO ZO
       · have deq : (((m : Nat) : Int) == 1) = false := beq_eq_false_iff_ne.2 (by omega)
         have hxa : a = x := (hxe.out (by rw [← hm.out]; exact h1)).symm
         clear h1
         go_wp2_with fail
         subst hxa
         exact rest8.out _ _ _ _ _ _ _ _ _ _ HK13 II12_13 ZZ12_13 II13 ZZ13
      try simp only [← hA5.out, Act.put, lt, ly, lu] at st5_2_1213
      replace st5_2_1213 := hid st5_2_1213
      have st5_2_12 : ∀ (L : Array Bool) (u : World) (v20 v22 : Value) (n12 : Nat), L = #[true, true, true, true, true, false, false, false] → Hid (Held0 w2 NN5 w2 u) → Hid (IsNum u v20 a) → Hid (IsNum u v22 c) → Hid (Zero3 u n12) → NN5 ≤ n12 → F5 3 L (Act.put (Act.put (Act.put A5 (some 12) (.pointer (some ⟨n12, 0, none⟩))) (some 20) v20) (some 22) v22) u := by
       intro L u v20 v22 n12 hLL HK I20 I22 Z12 g12
       subst hLL
       rw [← hF5.out, ← hA5.out]
       try simp only [Act.put, lt, ly, lu]
       refine wpAnyH_ready (rs := [5]) (by kernel_rfl) (by simp) (AllReadyH.cons (o := ?o5q69) ?e5q69 ?k5q69 AllReadyH.nil)
       case e5q69 => simp only [lg, lz, ls] <;> rfl
       case k5q69 =>
        intro K hK
        go_simp
        have hb2 := zero_below u
        have Z2 := zero3_at u
        have hsz := hgrow HK.out HSZ5
        have HK2 := hcall HK.out HSZ5 hb2
        refine hK.out _ _ ?_ (fun hHeld => ?_)
        · (try dsimp only); exact HK2.1
        clear hK K; try simp only [Act.put, lt, ly, lu]
        rw [hF5.out]
        exact st5_2_1213.out _ _ v20 v22 n12 u.heap.size (by kernel_rfl) HK2 (I20.out.keep hb2) (I22.out.keep hb2) (at_keep Z12.out hb2) g12 Z2 hsz (Nat.ne_of_lt (at_lt Z12.out))
      try simp only [← hA5.out, Act.put, lt, ly, lu] at st5_2_12
      replace st5_2_12 := hid st5_2_12
      have st5_2_13 : ∀ (L : Array Bool) (u : World) (v20 v22 : Value) (n13 : Nat), L = #[true, true, true, true, false, true, false, false] → Hid (Held0 w2 NN5 w2 u) → Hid (IsNum u v20 a) → Hid (IsNum u v22 c) → Hid (Zero3 u n13) → NN5 ≤ n13 → F5 3 L (Act.put (Act.put (Act.put A5 (some 13) (.pointer (some ⟨n13, 0, none⟩))) (some 20) v20) (some 22) v22) u := by
       intro L u v20 v22 n13 hLL HK I20 I22 Z13 g13
       subst hLL
       rw [← hF5.out, ← hA5.out]
       try simp only [Act.put, lt, ly, lu]
       refine wpAnyH_ready (rs := [4]) (by kernel_rfl) (by simp) (AllReadyH.cons (o := ?o4q70) ?e4q70 ?k4q70 AllReadyH.nil)
       case e4q70 => simp only [lg, lz, ls] <;> rfl
       case k4q70 =>
        intro K hK
        go_simp
        have hb2 := zero_below u
        have Z2 := zero3_at u
        have hsz := hgrow HK.out HSZ5
        have HK2 := hcall HK.out HSZ5 hb2
        refine hK.out _ _ ?_ (fun hHeld => ?_)
        · (try dsimp only); exact HK2.1
        clear hK K; try simp only [Act.put, lt, ly, lu]
        rw [hF5.out]
        exact st5_2_1213.out _ _ v20 v22 u.heap.size n13 (by kernel_rfl) HK2 (I20.out.keep hb2) (I22.out.keep hb2) Z2 hsz (at_keep Z13.out hb2) g13 (Nat.ne_of_gt (at_lt Z13.out))
      try simp only [← hA5.out, Act.put, lt, ly, lu] at st5_2_13
      replace st5_2_13 := hid st5_2_13
      have st5_2_n : ∀ (L : Array Bool) (u : World) (v20 v22 : Value), L = #[true, true, true, true, false, false, false, false] → Hid (Held0 w2 NN5 w2 u) → Hid (IsNum u v20 a) → Hid (IsNum u v22 c) → F5 4 L (Act.put (Act.put A5 (some 20) v20) (some 22) v22) u := by
       intro L u v20 v22 hLL HK I20 I22
       subst hLL
       rw [← hF5.out, ← hA5.out]
       try simp only [Act.put, lt, ly, lu]
       refine wpAnyH_ready (rs := [4, 5]) (by kernel_rfl) (by simp) (AllReadyH.cons (o := ?o4q71) ?e4q71 ?k4q71 (AllReadyH.cons (o := ?o5q71) ?e5q71 ?k5q71 AllReadyH.nil))
       case e4q71 => simp only [lg, lz, ls] <;> rfl
       case e5q71 => simp only [lg, lz, ls] <;> rfl
       case k4q71 =>
        intro K hK
        go_simp
        have hb2 := zero_below u
        have Z2 := zero3_at u
        have hsz := hgrow HK.out HSZ5
        have HK2 := hcall HK.out HSZ5 hb2
        refine hK.out _ _ ?_ (fun hHeld => ?_)
        · (try dsimp only); exact HK2.1
        clear hK K; try simp only [Act.put, lt, ly, lu]
        rw [hF5.out]
        exact st5_2_12.out _ _ v20 v22 u.heap.size (by kernel_rfl) HK2 (I20.out.keep hb2) (I22.out.keep hb2) Z2 hsz
       case k5q71 =>
        intro K hK
        go_simp
        have hb2 := zero_below u
        have Z2 := zero3_at u
        have hsz := hgrow HK.out HSZ5
        have HK2 := hcall HK.out HSZ5 hb2
        refine hK.out _ _ ?_ (fun hHeld => ?_)
        · (try dsimp only); exact HK2.1
        clear hK K; try simp only [Act.put, lt, ly, lu]
        rw [hF5.out]
        exact st5_2_13.out _ _ v20 v22 u.heap.size (by kernel_rfl) HK2 (I20.out.keep hb2) (I22.out.keep hb2) Z2 hsz
      try simp only [← hA5.out, Act.put, lt, ly, lu] at st5_2_n
      replace st5_2_n := hid st5_2_n
      have st5_1_1213 : ∀ (L : Array Bool) (u : World) (v20 : Value) (n12 n13 : Nat), L = #[true, true, true, false, true, true, false, false] → Hid (Held0 w2 NN5 w2 u) → Hid (IsNum u v20 a) → Hid (Zero3 u n12) → NN5 ≤ n12 → Hid (Zero3 u n13) → NN5 ≤ n13 → n12 ≠ n13 → F5 3 L (Act.put (Act.put (Act.put A5 (some 12) (.pointer (some ⟨n12, 0, none⟩))) (some 13) (.pointer (some ⟨n13, 0, none⟩))) (some 20) v20) u := by
       intro L u v20 n12 n13 hLL HK I20 Z12 g12 Z13 g13 ne12_13
       subst hLL
       rw [← hF5.out, ← hA5.out]
       try simp only [Act.put, lt, ly, lu]
       refine wpAnyH_ready (rs := [3]) (by kernel_rfl) (by simp) (AllReadyH.cons (o := ?o3q72) ?e3q72 ?k3q72 AllReadyH.nil)
       case e3q72 => simp only [lg, lz, ls] <;> rfl
       case k3q72 =>
        intro K hK
        go_simp
        go_at_call 40
        refine (lo_val (HK.out.2.2.box hRt2.out) z_c.out).mono ?_
        rintro e u2 ⟨v2, rfl, hv2, hb2⟩
        have HK2 := hcall HK.out HSZ5 hb2
        refine hK.out _ _ ?_ (fun hHeld => ?_)
        · (try dsimp only); exact HK2.1
        clear hK K; try simp only [Act.put, lt, ly, lu]
        rw [hF5.out]
        exact st5_2_1213.out _ _ v20 v2 n12 n13 (by kernel_rfl) HK2 (I20.out.keep hb2) hv2 (at_keep Z12.out hb2) g12 (at_keep Z13.out hb2) g13 ne12_13
      try simp only [← hA5.out, Act.put, lt, ly, lu] at st5_1_1213
      replace st5_1_1213 := hid st5_1_1213
      have st5_1_12 : ∀ (L : Array Bool) (u : World) (v20 : Value) (n12 : Nat), L = #[true, true, true, false, true, false, false, false] → Hid (Held0 w2 NN5 w2 u) → Hid (IsNum u v20 a) → Hid (Zero3 u n12) → NN5 ≤ n12 → F5 4 L (Act.put (Act.put A5 (some 12) (.pointer (some ⟨n12, 0, none⟩))) (some 20) v20) u := by
       intro L u v20 n12 hLL HK I20 Z12 g12
       subst hLL
       rw [← hF5.out, ← hA5.out]
       try simp only [Act.put, lt, ly, lu]
       refine wpAnyH_ready (rs := [3, 5]) (by kernel_rfl) (by simp) (AllReadyH.cons (o := ?o3q73) ?e3q73 ?k3q73 (AllReadyH.cons (o := ?o5q73) ?e5q73 ?k5q73 AllReadyH.nil))
       case e3q73 => simp only [lg, lz, ls] <;> rfl
       case e5q73 => simp only [lg, lz, ls] <;> rfl
       case k3q73 =>
        intro K hK
        go_simp
        go_at_call 40
        refine (lo_val (HK.out.2.2.box hRt2.out) z_c.out).mono ?_
        rintro e u2 ⟨v2, rfl, hv2, hb2⟩
        have HK2 := hcall HK.out HSZ5 hb2
        refine hK.out _ _ ?_ (fun hHeld => ?_)
        · (try dsimp only); exact HK2.1
        clear hK K; try simp only [Act.put, lt, ly, lu]
        rw [hF5.out]
        exact st5_2_12.out _ _ v20 v2 n12 (by kernel_rfl) HK2 (I20.out.keep hb2) hv2 (at_keep Z12.out hb2) g12
       case k5q73 =>
        intro K hK
        go_simp
        have hb2 := zero_below u
        have Z2 := zero3_at u
        have hsz := hgrow HK.out HSZ5
        have HK2 := hcall HK.out HSZ5 hb2
        refine hK.out _ _ ?_ (fun hHeld => ?_)
        · (try dsimp only); exact HK2.1
        clear hK K; try simp only [Act.put, lt, ly, lu]
        rw [hF5.out]
        exact st5_1_1213.out _ _ v20 n12 u.heap.size (by kernel_rfl) HK2 (I20.out.keep hb2) (at_keep Z12.out hb2) g12 Z2 hsz (Nat.ne_of_lt (at_lt Z12.out))
      try simp only [← hA5.out, Act.put, lt, ly, lu] at st5_1_12
      replace st5_1_12 := hid st5_1_12
      have st5_1_13 : ∀ (L : Array Bool) (u : World) (v20 : Value) (n13 : Nat), L = #[true, true, true, false, false, true, false, false] → Hid (Held0 w2 NN5 w2 u) → Hid (IsNum u v20 a) → Hid (Zero3 u n13) → NN5 ≤ n13 → F5 4 L (Act.put (Act.put A5 (some 13) (.pointer (some ⟨n13, 0, none⟩))) (some 20) v20) u := by
       intro L u v20 n13 hLL HK I20 Z13 g13
       subst hLL
       rw [← hF5.out, ← hA5.out]
       try simp only [Act.put, lt, ly, lu]
       refine wpAnyH_ready (rs := [3, 4]) (by kernel_rfl) (by simp) (AllReadyH.cons (o := ?o3q74) ?e3q74 ?k3q74 (AllReadyH.cons (o := ?o4q74) ?e4q74 ?k4q74 AllReadyH.nil))
       case e3q74 => simp only [lg, lz, ls] <;> rfl
       case e4q74 => simp only [lg, lz, ls] <;> rfl
       case k3q74 =>
        intro K hK
        go_simp
        go_at_call 40
        refine (lo_val (HK.out.2.2.box hRt2.out) z_c.out).mono ?_
        rintro e u2 ⟨v2, rfl, hv2, hb2⟩
        have HK2 := hcall HK.out HSZ5 hb2
        refine hK.out _ _ ?_ (fun hHeld => ?_)
        · (try dsimp only); exact HK2.1
        clear hK K; try simp only [Act.put, lt, ly, lu]
        rw [hF5.out]
        exact st5_2_13.out _ _ v20 v2 n13 (by kernel_rfl) HK2 (I20.out.keep hb2) hv2 (at_keep Z13.out hb2) g13
       case k4q74 =>
        intro K hK
        go_simp
        have hb2 := zero_below u
        have Z2 := zero3_at u
        have hsz := hgrow HK.out HSZ5
        have HK2 := hcall HK.out HSZ5 hb2
        refine hK.out _ _ ?_ (fun hHeld => ?_)
        · (try dsimp only); exact HK2.1
        clear hK K; try simp only [Act.put, lt, ly, lu]
        rw [hF5.out]
        exact st5_1_1213.out _ _ v20 u.heap.size n13 (by kernel_rfl) HK2 (I20.out.keep hb2) Z2 hsz (at_keep Z13.out hb2) g13 (Nat.ne_of_gt (at_lt Z13.out))
      try simp only [← hA5.out, Act.put, lt, ly, lu] at st5_1_13
      replace st5_1_13 := hid st5_1_13
      have st5_1_n : ∀ (L : Array Bool) (u : World) (v20 : Value), L = #[true, true, true, false, false, false, false, false] → Hid (Held0 w2 NN5 w2 u) → Hid (IsNum u v20 a) → F5 5 L (Act.put A5 (some 20) v20) u := by
       intro L u v20 hLL HK I20
       subst hLL
       rw [← hF5.out, ← hA5.out]
       try simp only [Act.put, lt, ly, lu]
       refine wpAnyH_ready (rs := [3, 4, 5]) (by kernel_rfl) (by simp) (AllReadyH.cons (o := ?o3q75) ?e3q75 ?k3q75 (AllReadyH.cons (o := ?o4q75) ?e4q75 ?k4q75 (AllReadyH.cons (o := ?o5q75) ?e5q75 ?k5q75 AllReadyH.nil)))
       case e3q75 => simp only [lg, lz, ls] <;> rfl
       case e4q75 => simp only [lg, lz, ls] <;> rfl
       case e5q75 => simp only [lg, lz, ls] <;> rfl
       case k3q75 =>
        intro K hK
        go_simp
        go_at_call 40
        refine (lo_val (HK.out.2.2.box hRt2.out) z_c.out).mono ?_
        rintro e u2 ⟨v2, rfl, hv2, hb2⟩
        have HK2 := hcall HK.out HSZ5 hb2
        refine hK.out _ _ ?_ (fun hHeld => ?_)
        · (try dsimp only); exact HK2.1
        clear hK K; try simp only [Act.put, lt, ly, lu]
        rw [hF5.out]
        exact st5_2_n.out _ _ v20 v2 (by kernel_rfl) HK2 (I20.out.keep hb2) hv2
       case k4q75 =>
        intro K hK
        go_simp
        have hb2 := zero_below u
        have Z2 := zero3_at u
        have hsz := hgrow HK.out HSZ5
        have HK2 := hcall HK.out HSZ5 hb2
        refine hK.out _ _ ?_ (fun hHeld => ?_)
        · (try dsimp only); exact HK2.1
        clear hK K; try simp only [Act.put, lt, ly, lu]
        rw [hF5.out]
        exact st5_1_12.out _ _ v20 u.heap.size (by kernel_rfl) HK2 (I20.out.keep hb2) Z2 hsz
       case k5q75 =>
        intro K hK
        go_simp
        have hb2 := zero_below u
        have Z2 := zero3_at u
        have hsz := hgrow HK.out HSZ5
        have HK2 := hcall HK.out HSZ5 hb2
        refine hK.out _ _ ?_ (fun hHeld => ?_)
        · (try dsimp only); exact HK2.1
        clear hK K; try simp only [Act.put, lt, ly, lu]
        rw [hF5.out]
        exact st5_1_13.out _ _ v20 u.heap.size (by kernel_rfl) HK2 (I20.out.keep hb2) Z2 hsz
      try simp only [← hA5.out, Act.put, lt, ly, lu] at st5_1_n
      replace st5_1_n := hid st5_1_n
      have st5_0_1213 : ∀ (L : Array Bool) (u : World) (n12 n13 : Nat), L = #[true, false, true, false, true, true, false, false] → Hid (Held0 w2 NN5 w2 u) → Hid (Zero3 u n12) → NN5 ≤ n12 → Hid (Zero3 u n13) → NN5 ≤ n13 → n12 ≠ n13 → F5 4 L (Act.put (Act.put A5 (some 12) (.pointer (some ⟨n12, 0, none⟩))) (some 13) (.pointer (some ⟨n13, 0, none⟩))) u := by
       intro L u n12 n13 hLL HK Z12 g12 Z13 g13 ne12_13
       subst hLL
       rw [← hF5.out, ← hA5.out]
       try simp only [Act.put, lt, ly, lu]
       refine wpAnyH_ready (rs := [1]) (by kernel_rfl) (by simp) (AllReadyH.cons (o := ?o1q76) ?e1q76 ?k1q76 AllReadyH.nil)
       case e1q76 => simp only [lg, lz, ls] <;> rfl
       case k1q76 =>
        intro K hK
        go_simp
        go_at_call 40
        refine (lo_val (HK.out.2.2.box hRs2.out) z_a.out).mono ?_
        rintro e u2 ⟨v2, rfl, hv2, hb2⟩
        have HK2 := hcall HK.out HSZ5 hb2
        refine hK.out _ _ ?_ (fun hHeld => ?_)
        · (try dsimp only); exact HK2.1
        clear hK K; try simp only [Act.put, lt, ly, lu]
        rw [hF5.out]
        exact st5_1_1213.out _ _ v2 n12 n13 (by kernel_rfl) HK2 hv2 (at_keep Z12.out hb2) g12 (at_keep Z13.out hb2) g13 ne12_13
      try simp only [← hA5.out, Act.put, lt, ly, lu] at st5_0_1213
      replace st5_0_1213 := hid st5_0_1213
      have st5_0_12 : ∀ (L : Array Bool) (u : World) (n12 : Nat), L = #[true, false, true, false, true, false, false, false] → Hid (Held0 w2 NN5 w2 u) → Hid (Zero3 u n12) → NN5 ≤ n12 → F5 5 L (Act.put A5 (some 12) (.pointer (some ⟨n12, 0, none⟩))) u := by
       intro L u n12 hLL HK Z12 g12
       subst hLL
       rw [← hF5.out, ← hA5.out]
       try simp only [Act.put, lt, ly, lu]
       refine wpAnyH_ready (rs := [1, 5]) (by kernel_rfl) (by simp) (AllReadyH.cons (o := ?o1q77) ?e1q77 ?k1q77 (AllReadyH.cons (o := ?o5q77) ?e5q77 ?k5q77 AllReadyH.nil))
       case e1q77 => simp only [lg, lz, ls] <;> rfl
       case e5q77 => simp only [lg, lz, ls] <;> rfl
       case k1q77 =>
        intro K hK
        go_simp
        go_at_call 40
        refine (lo_val (HK.out.2.2.box hRs2.out) z_a.out).mono ?_
        rintro e u2 ⟨v2, rfl, hv2, hb2⟩
        have HK2 := hcall HK.out HSZ5 hb2
        refine hK.out _ _ ?_ (fun hHeld => ?_)
        · (try dsimp only); exact HK2.1
        clear hK K; try simp only [Act.put, lt, ly, lu]
        rw [hF5.out]
        exact st5_1_12.out _ _ v2 n12 (by kernel_rfl) HK2 hv2 (at_keep Z12.out hb2) g12
       case k5q77 =>
        intro K hK
        go_simp
        have hb2 := zero_below u
        have Z2 := zero3_at u
        have hsz := hgrow HK.out HSZ5
        have HK2 := hcall HK.out HSZ5 hb2
        refine hK.out _ _ ?_ (fun hHeld => ?_)
        · (try dsimp only); exact HK2.1
        clear hK K; try simp only [Act.put, lt, ly, lu]
        rw [hF5.out]
        exact st5_0_1213.out _ _ n12 u.heap.size (by kernel_rfl) HK2 (at_keep Z12.out hb2) g12 Z2 hsz (Nat.ne_of_lt (at_lt Z12.out))
      try simp only [← hA5.out, Act.put, lt, ly, lu] at st5_0_12
      replace st5_0_12 := hid st5_0_12
      have st5_0_13 : ∀ (L : Array Bool) (u : World) (n13 : Nat), L = #[true, false, true, false, false, true, false, false] → Hid (Held0 w2 NN5 w2 u) → Hid (Zero3 u n13) → NN5 ≤ n13 → F5 5 L (Act.put A5 (some 13) (.pointer (some ⟨n13, 0, none⟩))) u := by
       intro L u n13 hLL HK Z13 g13
       subst hLL
       rw [← hF5.out, ← hA5.out]
       try simp only [Act.put, lt, ly, lu]
       refine wpAnyH_ready (rs := [1, 4]) (by kernel_rfl) (by simp) (AllReadyH.cons (o := ?o1q78) ?e1q78 ?k1q78 (AllReadyH.cons (o := ?o4q78) ?e4q78 ?k4q78 AllReadyH.nil))
       case e1q78 => simp only [lg, lz, ls] <;> rfl
       case e4q78 => simp only [lg, lz, ls] <;> rfl
       case k1q78 =>
        intro K hK
        go_simp
        go_at_call 40
        refine (lo_val (HK.out.2.2.box hRs2.out) z_a.out).mono ?_
        rintro e u2 ⟨v2, rfl, hv2, hb2⟩
        have HK2 := hcall HK.out HSZ5 hb2
        refine hK.out _ _ ?_ (fun hHeld => ?_)
        · (try dsimp only); exact HK2.1
        clear hK K; try simp only [Act.put, lt, ly, lu]
        rw [hF5.out]
        exact st5_1_13.out _ _ v2 n13 (by kernel_rfl) HK2 hv2 (at_keep Z13.out hb2) g13
       case k4q78 =>
        intro K hK
        go_simp
        have hb2 := zero_below u
        have Z2 := zero3_at u
        have hsz := hgrow HK.out HSZ5
        have HK2 := hcall HK.out HSZ5 hb2
        refine hK.out _ _ ?_ (fun hHeld => ?_)
        · (try dsimp only); exact HK2.1
        clear hK K; try simp only [Act.put, lt, ly, lu]
        rw [hF5.out]
        exact st5_0_1213.out _ _ u.heap.size n13 (by kernel_rfl) HK2 Z2 hsz (at_keep Z13.out hb2) g13 (Nat.ne_of_gt (at_lt Z13.out))
      try simp only [← hA5.out, Act.put, lt, ly, lu] at st5_0_13
      replace st5_0_13 := hid st5_0_13
      have st5_0_n : ∀ (L : Array Bool) (u : World), L = #[true, false, true, false, false, false, false, false] → Hid (Held0 w2 NN5 w2 u) → F5 6 L A5 u := by
       intro L u  hLL HK
       subst hLL
       rw [← hF5.out, ← hA5.out]
       try simp only [Act.put, lt, ly, lu]
       refine wpAnyH_ready (rs := [1, 4, 5]) (by kernel_rfl) (by simp) (AllReadyH.cons (o := ?o1q79) ?e1q79 ?k1q79 (AllReadyH.cons (o := ?o4q79) ?e4q79 ?k4q79 (AllReadyH.cons (o := ?o5q79) ?e5q79 ?k5q79 AllReadyH.nil)))
       case e1q79 => simp only [lg, lz, ls] <;> rfl
       case e4q79 => simp only [lg, lz, ls] <;> rfl
       case e5q79 => simp only [lg, lz, ls] <;> rfl
       case k1q79 =>
        intro K hK
        go_simp
        go_at_call 40
        refine (lo_val (HK.out.2.2.box hRs2.out) z_a.out).mono ?_
        rintro e u2 ⟨v2, rfl, hv2, hb2⟩
        have HK2 := hcall HK.out HSZ5 hb2
        refine hK.out _ _ ?_ (fun hHeld => ?_)
        · (try dsimp only); exact HK2.1
        clear hK K; try simp only [Act.put, lt, ly, lu]
        rw [hF5.out]
        exact st5_1_n.out _ _ v2 (by kernel_rfl) HK2 hv2
       case k4q79 =>
        intro K hK
        go_simp
        have hb2 := zero_below u
        have Z2 := zero3_at u
        have hsz := hgrow HK.out HSZ5
        have HK2 := hcall HK.out HSZ5 hb2
        refine hK.out _ _ ?_ (fun hHeld => ?_)
        · (try dsimp only); exact HK2.1
        clear hK K; try simp only [Act.put, lt, ly, lu]
        rw [hF5.out]
        exact st5_0_12.out _ _ u.heap.size (by kernel_rfl) HK2 Z2 hsz
       case k5q79 =>
        intro K hK
        go_simp
        have hb2 := zero_below u
        have Z2 := zero3_at u
        have hsz := hgrow HK.out HSZ5
        have HK2 := hcall HK.out HSZ5 hb2
        refine hK.out _ _ ?_ (fun hHeld => ?_)
        · (try dsimp only); exact HK2.1
        clear hK K; try simp only [Act.put, lt, ly, lu]
        rw [hF5.out]
        exact st5_0_13.out _ _ u.heap.size (by kernel_rfl) HK2 Z2 hsz
      try simp only [← hA5.out, Act.put, lt, ly, lu] at st5_0_n
      replace st5_0_n := hid st5_0_n
      have HA := hA5.out
      subst HA
      exact st5_0_n.out _ _ (by kernel_rfl) H0h
    · have hk4 : k = 4 := by omega
      subst hk4
      have hfin := eres.out
      have htk : zl.take 4 = zl := List.take_of_length_le (by rw [hl4.out]; exact Nat.le_refl _)
      rw [← ezl.out] at htk
      rw [← ezl.out, htk]
      obtain ⟨lo, elo⟩ : ∃ v : Bool, anyEq [z0, z1, z2, z3] p = v := ⟨_, rfl⟩
      obtain ⟨hi, ehi⟩ : ∃ v : Bool, anyEq [z0, z1, z2, z3] q = v := ⟨_, rfl⟩
      rw [← ezl.out, elo, ehi] at hfin
      rw [elo, ehi]
      subst hfin
      clear elo ehi htk hge hk
      have HE := hid HBB2.out
      cases lo
      · go_wp2_with fail
        go_ret
        exact ⟨rfl, HE.out⟩
      · cases hi
        · go_wp2_with fail
          go_ret
          exact ⟨rfl, HE.out⟩
        · go_wp2_with fail
          go_ret
          exact ⟨rfl, HE.out⟩
end Go.Proofs.YtlffafddmmhbmaaGreatDoor
