/-
  Contracts of the functions that the law calls, for every input (Row SqF BoxJ BoxI LawC).
-/
import Derived.Test.YtpfnckhfklgoaaaGreatDoorJ27
import Derived.Test.YtpfnckhfklgoaaaGreatDoorTie
import Derived.Test.YtpfnckhfklgoaaaGreatDoorCards
import Derived.ProofKit
import Derived.LaidMore
import Derived.OpenShut
import Derived.Lay
import Derived.Lib.LaidTab
import Derived.Shelf.Vars
import Derived.SevenTiedAt
import Derived.Stop.Joined
import Derived.Test.YtpfnckhfklgoaaaGreatDoorJ26
import Derived.Test.YtpfnckhfklgoaaaGreatDoorJ22
set_option linter.all false
namespace Go.Proofs.YtpfnckhfklgoaaaGreatDoor
open Go.ChangeShapes Go.WideShapes Go.ChangeAt Go.RowKit
open Go.ChangeMaps (open_string shut_string)

/-- What the rows list. -/
def listed : List (String × DataW Unit) := Rows.exactFieldRow.laid
theorem own : ownKnob Tryz.prog.godebug = none := by kernel_rfl
/-- MaxLen holds some number. -/
theorem maxLen_of {W : World} (h : W.ShapedOpen Tryz.prog) : ∃ m, W.cell? ⟨1, 0, none⟩ = some (.int .i64 m) :=
  cell_of_shapedOpen_int (t := 3) (zero := #[.int .i64 0]) h (of_decide_eq_true (by kernel_rfl)) (by kernel_rfl) rfl (by kernel_rfl) (by kernel_rfl) (by kernel_rfl)
/-- The table lies where it is looked up. -/
theorem tab_of {W : World} (h : laidMetH Tryz.prog listed W) : TabAt 0 Lib.deBruijn64tab W := by
  rw [MakeChecks.laidMetH_plain _ _ _ (by kernel_rfl)] at h
  have e : Rows.laid_math_bits_deBruijn64tab (H := Unit) = Lib.tabData .u8 (Lib.deBruijn64tab.map fun n : Nat => (n : Int)) := by kernel_rfl
  unfold listed Rows.exactFieldRow at h
  dsimp only at h
  rw [e] at h
  have ht := Lib.tabIs_of_head (g := 0) (t := ((Tryz.prog.globals[0]?).map (·.type)).getD 0) (e := 5) (n := 64) (by kernel_rfl) (by kernel_rfl) (by kernel_rfl) (by kernel_rfl) (by kernel_rfl) (by kernel_rfl) h
  intro j hj
  have hc := ht.cell (g := 0) (by kernel_rfl) j (by rw [List.length_map]; exact hj)
  rw [hc]
  simp only [List.getD_eq_getElem?_getD, List.getElem?_map, List.getElem?_eq_getElem hj, Option.map_some, Option.getD_some]
end Go.Proofs.YtpfnckhfklgoaaaGreatDoor
namespace Go.Proofs.YtpfnckhfklgoaaaGreatDoor
open Vx

theorem flr_floor (x : Rat) : flr x = (x.floor : Rat) := by
  unfold flr
  rw [Rat.floor_def, Rat.mkRat_one]
theorem flr_le (x : Rat) : flr x ≤ x := by rw [flr_floor]; exact Rat.floor_le x
theorem lt_flr (x : Rat) : x < flr x + 1 := by
  have h := Rat.lt_floor_add_one x
  rw [Rat.intCast_add] at h
  rw [flr_floor]; exact h
theorem div_mul_pos {a g : Rat} (hg : 0 < g) : a / g * g = a := Rat.div_mul_cancel (by intro h; rw [h] at hg; exact absurd hg (by decide))
theorem out_low {a g : Rat} (hg : 0 < g) : flr (a / g) * g ≤ a := by
  have h := Rat.mul_le_mul_of_nonneg_right (flr_le (a / g)) (Rat.le_of_lt hg)
  rw [div_mul_pos hg] at h; exact h
theorem out_low2 {a g : Rat} (hg : 0 < g) : a < flr (a / g) * g + g := by
  have h := Rat.mul_lt_mul_of_pos_right (lt_flr (a / g)) hg
  rw [div_mul_pos hg] at h
  rw [Rat.add_mul, Rat.one_mul] at h; exact h
theorem out_high {b g : Rat} (hg : 0 < g) : b ≤ -flr (-(b / g)) * g := by
  have h := Rat.mul_le_mul_of_nonneg_right (flr_le (-(b / g))) (Rat.le_of_lt hg)
  have e := div_mul_pos (a := b) hg
  grind
theorem out_high2 {b g : Rat} (hg : 0 < g) : -flr (-(b / g)) * g - g < b := by
  have h := Rat.mul_lt_mul_of_pos_right (lt_flr (-(b / g))) hg
  have e := div_mul_pos (a := b) hg
  grind
/-- floor and ceiling of what is not negative are naturals -/
theorem flr_nat {x : Rat} (h : 0 ≤ x) : flr x = (((flr x).num.natAbs : Nat) : Rat) := by
  have h1 : 0 ≤ x.floor := by rw [Rat.le_floor_iff]; exact h
  rw [flr_floor, Rat.num_intCast]
  obtain ⟨n, hn⟩ := Int.eq_ofNat_of_zero_le h1
  rw [hn]; simp [Rat.intCast_natCast]
theorem ceil_nat {x : Rat} (h : 0 ≤ x) : -flr (-x) = (((-flr (-x)).num.natAbs : Nat) : Rat) := by
  have h2 : (-x).floor ≤ 0 := by
    have h3 := Rat.floor_le (-x)
    have h4 : (((-x).floor : Int) : Rat) ≤ ((0 : Int) : Rat) := by
      refine Rat.le_trans h3 ?_
      have : ((0 : Int) : Rat) = 0 := rfl
      rw [this]; grind
    exact Rat.intCast_le_intCast.1 h4
  have e : -flr (-x) = ((-(-x).floor : Int) : Rat) := by rw [flr_floor, Rat.intCast_neg]
  rw [e, Rat.num_intCast]
  obtain ⟨n, hn⟩ := Int.eq_ofNat_of_zero_le (show 0 ≤ -(-x).floor by omega)
  rw [hn]; simp [Rat.intCast_natCast]
theorem up_sq (h : Nat) : h ≤ upRoot h * upRoot h := by
  unfold upRoot
  have h1 := root_lt h
  split
  · omega
  · rename_i h2; omega
theorem up_below {h m : Nat} (e : upRoot h = m + 1) : m * m < h := by
  unfold upRoot at e
  split at e
  · rename_i h2; rw [show m = rootOf h by omega]; exact h2
  · rename_i h2
    have h1 := root_sq h
    have : m * m < rootOf h * rootOf h := by
      rw [e]; exact Nat.mul_self_lt_mul_self (by omega)
    omega
theorem up_least {h m : Nat} (hm : h ≤ m * m) : upRoot h ≤ m := by
  rcases Nat.lt_or_ge m (upRoot h) with h1 | h1
  · obtain ⟨k, hk⟩ : ∃ k, upRoot h = k + 1 := ⟨upRoot h - 1, by omega⟩
    have h2 := up_below hk
    have h3 : m * m ≤ k * k := Nat.mul_le_mul (by omega) (by omega)
    omega
  · exact h1
/-- the ends of a root -/
def lowRt (a g : Rat) : Rat := ((rootOf (flr (a / (g * g))).num.natAbs : Nat) : Rat) * g
def highRt (b g : Rat) : Rat := ((upRoot (-flr (-(b / (g * g)))).num.natAbs : Nat) : Rat) * g
theorem sq_pos {g : Rat} (hg : 0 < g) : 0 < g * g := Rat.mul_pos hg hg
theorem div_nonneg {a g : Rat} (hg : 0 < g) (ha : 0 ≤ a) : 0 ≤ a / g := by
  rw [Rat.div_def]; exact Rat.mul_nonneg ha (Rat.le_of_lt (Rat.inv_pos.2 hg))
theorem nat_le {a b : Nat} (h : a ≤ b) : (a : Rat) ≤ (b : Rat) := Rat.natCast_le_natCast.2 h
theorem low_nonneg {a g : Rat} (hg : 0 < g) : 0 ≤ lowRt a g := Rat.mul_nonneg (by exact nat_le (Nat.zero_le _)) (Rat.le_of_lt hg)
theorem low_sq {a g : Rat} (hg : 0 < g) (ha : 0 ≤ a) : lowRt a g * lowRt a g ≤ a := by
  have hq := sq_pos hg
  have h0 := div_nonneg hq ha
  unfold lowRt
  have h1 := flr_nat h0
  have h2 := flr_le (a / (g * g))
  obtain ⟨N, hN⟩ : ∃ N, N = (flr (a / (g * g))).num.natAbs := ⟨_, rfl⟩
  rw [← hN] at h1 ⊢
  rw [h1] at h2
  have h3 := nat_le (root_sq N)
  rw [Rat.natCast_mul] at h3
  have h4 := Rat.mul_le_mul_of_nonneg_right (Rat.le_trans h3 h2) (Rat.le_of_lt hq)
  rw [div_mul_pos hq] at h4
  grind
theorem low_up {a g : Rat} (hg : 0 < g) (ha : 0 ≤ a) : a < (lowRt a g + g) * (lowRt a g + g) := by
  have hq := sq_pos hg
  have h0 := div_nonneg hq ha
  unfold lowRt
  have h1 := flr_nat h0
  have h2 := lt_flr (a / (g * g))
  obtain ⟨N, hN⟩ : ∃ N, N = (flr (a / (g * g))).num.natAbs := ⟨_, rfl⟩
  rw [← hN] at h1 ⊢
  rw [h1] at h2
  have h3 := nat_le (show N + 1 ≤ (rootOf N + 1) * (rootOf N + 1) from root_lt N)
  rw [Rat.natCast_mul, Rat.natCast_add, Rat.natCast_add] at h3
  have h6 : ((1 : Nat) : Rat) = 1 := rfl
  rw [h6] at h3
  have h4 := Rat.mul_lt_mul_of_pos_right (show a / (g * g) < ((rootOf N : Rat) + 1) * ((rootOf N : Rat) + 1) by grind) hq
  rw [div_mul_pos hq] at h4
  grind
theorem high_sq {b g : Rat} (hg : 0 < g) (hb : 0 ≤ b) : b ≤ highRt b g * highRt b g := by
  have hq := sq_pos hg
  have h0 := div_nonneg hq hb
  unfold highRt
  have h1 := ceil_nat h0
  have h2 := flr_le (-(b / (g * g)))
  obtain ⟨N, hN⟩ : ∃ N, N = (-flr (-(b / (g * g)))).num.natAbs := ⟨_, rfl⟩
  rw [← hN] at h1 ⊢
  have h3 := nat_le (up_sq N)
  rw [Rat.natCast_mul] at h3
  have h5 : b / (g * g) ≤ (upRoot N : Rat) * (upRoot N : Rat) := by grind
  have h4 := Rat.mul_le_mul_of_nonneg_right h5 (Rat.le_of_lt hq)
  rw [div_mul_pos hq] at h4
  grind
theorem high_down {b g : Rat} (hg : 0 < g) (hb : 0 ≤ b) (h : 0 ≤ highRt b g - g) : (highRt b g - g) * (highRt b g - g) < b := by
  have hq := sq_pos hg
  have h0 := div_nonneg hq hb
  unfold highRt at h ⊢
  have h1 := ceil_nat h0
  have h2 := lt_flr (-(b / (g * g)))
  obtain ⟨N, hN⟩ : ∃ N, N = (-flr (-(b / (g * g)))).num.natAbs := ⟨_, rfl⟩
  rw [← hN] at h1 h ⊢
  rcases hm : upRoot N with _ | m
  · exfalso
    rw [hm] at h
    have : ((0 : Nat) : Rat) = 0 := rfl
    rw [this] at h
    grind
  · have h3 := nat_le (show m * m + 1 ≤ N from up_below hm)
    rw [Rat.natCast_add, Rat.natCast_mul] at h3
    have h6 : ((1 : Nat) : Rat) = 1 := rfl
    rw [h6] at h3
    have h5 : (m : Rat) * (m : Rat) < b / (g * g) := by grind
    have h4 := Rat.mul_lt_mul_of_pos_right h5 hq
    rw [div_mul_pos hq] at h4
    rw [Rat.natCast_add, h6]
    grind
theorem div_mono {a b g : Rat} (hg : 0 < g) (h : a ≤ b) : a / g ≤ b / g := by
  rw [Rat.div_def, Rat.div_def]; exact Rat.mul_le_mul_of_nonneg_right h (Rat.le_of_lt (Rat.inv_pos.2 hg))
theorem flr_mono {x y : Rat} (h : x ≤ y) : flr x ≤ flr y := by
  rw [flr_floor, flr_floor]; exact Rat.intCast_le_intCast.2 (Rat.floor_monotone h)
theorem root_mono {a b : Nat} (h : a ≤ b) : rootOf a ≤ rootOf b := root_max (Nat.le_trans (root_sq a) h)
theorem up_mono {a b : Nat} (h : a ≤ b) : upRoot a ≤ upRoot b := up_least (Nat.le_trans h (up_sq b))
theorem low_mono {a b g : Rat} (hg : 0 < g) (ha : 0 ≤ a) (h : a ≤ b) : lowRt a g ≤ lowRt b g := by
  have hq := sq_pos hg
  have h1 := flr_nat (div_nonneg hq ha)
  have h2 := flr_nat (div_nonneg hq (Rat.le_trans ha h))
  have h3 := flr_mono (div_mono hq h)
  rw [h1, h2] at h3
  exact Rat.mul_le_mul_of_nonneg_right (nat_le (root_mono (Rat.natCast_le_natCast.1 h3))) (Rat.le_of_lt hg)
theorem high_mono {a b g : Rat} (hg : 0 < g) (ha : 0 ≤ a) (h : a ≤ b) : highRt a g ≤ highRt b g := by
  have hq := sq_pos hg
  have h1 := ceil_nat (div_nonneg hq ha)
  have h2 := ceil_nat (div_nonneg hq (Rat.le_trans ha h))
  have h3 := div_mono hq h
  have h4 := flr_mono (show -(b / (g * g)) ≤ -(a / (g * g)) by grind)
  have h5 : -flr (-(a / (g * g))) ≤ -flr (-(b / (g * g))) := by grind
  rw [h1, h2] at h5
  exact Rat.mul_le_mul_of_nonneg_right (nat_le (up_mono (Rat.natCast_le_natCast.1 h5))) (Rat.le_of_lt hg)
theorem root_near {x g : Rat} (hg : 0 < g) (hx : 0 ≤ x) : highRt x g - lowRt x g < g + g := by
  have hq := sq_pos hg
  have h0 := div_nonneg hq hx
  have h1 := ceil_nat h0
  have h2 := flr_nat h0
  have h3 := lt_flr (x / (g * g))
  have h4 := lt_flr (-(x / (g * g)))
  unfold highRt lowRt
  obtain ⟨M, hM⟩ : ∃ M, M = (-flr (-(x / (g * g)))).num.natAbs := ⟨_, rfl⟩
  obtain ⟨N, hN⟩ : ∃ N, N = (flr (x / (g * g))).num.natAbs := ⟨_, rfl⟩
  rw [← hM] at h1 ⊢
  rw [← hN] at h2 ⊢
  have h6 : ((1 : Nat) : Rat) = 1 := rfl
  have h5 : (M : Rat) < ((N + 2 : Nat) : Rat) := by
    rw [Rat.natCast_add]
    have : ((2 : Nat) : Rat) = 2 := rfl
    rw [this]; grind
  have h7 : M ≤ N + 1 := by have := Rat.natCast_lt_natCast.1 h5; omega
  have h8 : upRoot M ≤ rootOf N + 1 := up_least (Nat.le_trans h7 (root_lt N))
  have h9 := nat_le h8
  rw [Rat.natCast_add, h6] at h9
  have h10 := Rat.mul_le_mul_of_nonneg_right h9 (Rat.le_of_lt hg)
  grind
/-- a place between the ends -/
theorem place_frac {p : Nat} (hp : p ≤ 255) : 0 ≤ mkRat ((p : Nat) : Int) 255 ∧ mkRat ((p : Nat) : Int) 255 ≤ 1 := by
  have e : mkRat ((p : Nat) : Int) 255 = (p : Rat) / ((255 : Nat) : Rat) := by rw [Rat.mkRat_eq_div]; rfl
  have h255 : (0 : Rat) < ((255 : Nat) : Rat) := by decide +kernel
  have h0 : (0 : Rat) ≤ (p : Rat) := nat_le (Nat.zero_le p)
  rw [e]
  refine ⟨div_nonneg h255 h0, ?_⟩
  have h1 := div_mono h255 (nat_le hp)
  rw [show ((255 : Nat) : Rat) / ((255 : Nat) : Rat) = 1 by decide +kernel] at h1
  exact h1
theorem place_between {a b : Rat} {p : Nat} (hp : p ≤ 255) (h : a ≤ b) : a ≤ a + (b - a) * mkRat ((p : Nat) : Int) 255 ∧ a + (b - a) * mkRat ((p : Nat) : Int) 255 ≤ b := by
  obtain ⟨h0, h1⟩ := place_frac hp
  have hd : 0 ≤ b - a := by grind
  have h2 := Rat.mul_nonneg hd h0
  have h3 := Rat.mul_le_mul_of_nonneg_left h1 hd
  constructor <;> grind
theorem num_pos {q : Rat} : 0 < q.num ↔ 0 < q := by
  have h := Rat.num_nonneg (q := -q)
  rw [Rat.neg_num] at h
  constructor
  · intro h1
    rcases Decidable.em (0 < q) with h2 | h2
    · exact h2
    · have := h.2 (by grind)
      omega
  · intro h1
    rcases Decidable.em (0 < q.num) with h2 | h2
    · exact h2
    · have := h.1 (by omega)
      grind
theorem num_nonneg {q : Rat} : 0 ≤ q.num ↔ 0 ≤ q := by rw [Rat.num_nonneg]
end Go.Proofs.YtpfnckhfklgoaaaGreatDoor
namespace Go.Proofs.YtpfnckhfklgoaaaGreatDoor
open Go.RowKit
open Vx

theorem cmpQ_le0 {x y : Rat} : cmpQ x y ≤ 0 ↔ x ≤ y := by
  constructor
  · intro h
    rcases Decidable.em (x ≤ y) with h2 | h2
    · exact h2
    · have := cmpQ_gt h2; omega
  · intro h
    have := cmpQ_le h; omega

set_option maxRecDepth 100000 in
set_option maxHeartbeats 2000000 in
theorem boxHas_any {w : World} {v vx : Value} {a b x : Rat} (hv : IsBox w v a b) (hx : IsNum w vx x) (sa : siz a ≤ 34359738368) (sb : siz b ≤ 34359738368) (sx : siz x ≤ 34359738368) :
    Calls Tryz.prog 32 #[v, vx] w (BoolRet w (decide (a ≤ x ∧ x ≤ b))) := by
  obtain ⟨A1, c1, A2, c2, A3, c3, A4, c4, rfl, ha, hb_⟩ := hv.opened
  obtain ⟨A5, c5, A6, c6, rfl, -, -⟩ := id hx.opened
  obtain ⟨wB, hwB⟩ : ∃ u, u = (w.alloc (.cells #[.bool (decide (a.num < 0)), .slice A1 (len a.num.natAbs) c1, .slice A2 (len (below a.den)) c2, .bool (decide (b.num < 0)), .slice A3 (len b.num.natAbs) c3, .slice A4 (len (below b.den)) c4] 53)).alloc (.cells #[.bool (decide (x.num < 0)), .slice A5 (len x.num.natAbs) c5, .slice A6 (len (below x.den)) c6] 27) := ⟨_, rfl⟩
  obtain ⟨b0, g0, g1⟩ := news2 w (.cells #[.bool (decide (a.num < 0)), .slice A1 (len a.num.natAbs) c1, .slice A2 (len (below a.den)) c2, .bool (decide (b.num < 0)), .slice A3 (len b.num.natAbs) c3, .slice A4 (len (below b.den)) c4] 53) (.cells #[.bool (decide (x.num < 0)), .slice A5 (len x.num.natAbs) c5, .slice A6 (len (below x.den)) c6] 27)
  rw [← hwB] at b0 g0 g1
  have k0 : wB.cell? ⟨w.heap.size, 0, none⟩ = some (.bool (decide (a.num < 0))) := cell_of_row _ _ _ _ _ _ g0
  have k1 : wB.cell? ⟨w.heap.size, 1, none⟩ = some (.slice A1 (len a.num.natAbs) c1) := cell_of_row _ _ _ _ _ _ g0
  have k2 : wB.cell? ⟨w.heap.size, 2, none⟩ = some (.slice A2 (len (below a.den)) c2) := cell_of_row _ _ _ _ _ _ g0
  have k3 : wB.cell? ⟨w.heap.size, 3, none⟩ = some (.bool (decide (b.num < 0))) := cell_of_row _ _ _ _ _ _ g0
  have k4 : wB.cell? ⟨w.heap.size, 4, none⟩ = some (.slice A3 (len b.num.natAbs) c3) := cell_of_row _ _ _ _ _ _ g0
  have k5 : wB.cell? ⟨w.heap.size, 5, none⟩ = some (.slice A4 (len (below b.den)) c4) := cell_of_row _ _ _ _ _ _ g0
  have k6 : wB.cell? ⟨w.heap.size + 1, 0, none⟩ = some (.bool (decide (x.num < 0))) := cell_of_row _ _ _ _ _ _ g1
  have k7 : wB.cell? ⟨w.heap.size + 1, 1, none⟩ = some (.slice A5 (len x.num.natAbs) c5) := cell_of_row _ _ _ _ _ _ g1
  have k8 : wB.cell? ⟨w.heap.size + 1, 2, none⟩ = some (.slice A6 (len (below x.den)) c6) := cell_of_row _ _ _ _ _ _ g1
  have HB0 := Lib.hid b0
  have hlt1 : w.heap.size < wB.heap.size := World.block_lt_of_cell? _ _ k0
  have hlt2 : w.heap.size + 1 < wB.heap.size := (Array.getElem?_eq_some_iff.1 g1).1
  clear g0 g1 b0
  have HX := Lib.hid (numCmp_any (ha.keep HB0.out) (hx.keep HB0.out) sa sx)
  have HY := fun (w1 : World) (hb : Below wB.heap.size wB w1) => Lib.hid (numCmp_any ((hx.keep HB0.out).keep hb) ((hb_.keep HB0.out).keep hb) sx sb)
  obtain ⟨z1, hz1⟩ : ∃ z : Int, z = cmpQ a x := ⟨_, rfl⟩
  obtain ⟨z2, hz2⟩ : ∃ z : Int, z = cmpQ x b := ⟨_, rfl⟩
  have e1 : (z1 ≤ 0) ↔ a ≤ x := by rw [hz1]; exact cmpQ_le0
  have e2 : (z2 ≤ 0) ↔ x ≤ b := by rw [hz2]; exact cmpQ_le0
  rw [← hz1] at HX
  rw [← hz2] at HY
  obtain ⟨r, hr⟩ : ∃ r : Bool, r = decide (a ≤ x ∧ x ≤ b) := ⟨_, rfl⟩
  rw [← hr]
  clear hz1 hz2 sa sb sx hv ha hb_ hx
  rcases Decidable.em (z1 ≤ 0) with h1 | h1
  · rcases Decidable.em (z2 ≤ 0) with h2 | h2
    · have d1 : decide (z1 ≤ 0) = true := decide_eq_true h1
      have d2 : decide (z2 ≤ 0) = true := decide_eq_true h2
      have d3 : r = true := by rw [hr]; exact decide_eq_true ⟨e1.1 h1, e2.1 h2⟩
      subst d3
      replace h1 := Lib.hid h1
      replace h2 := Lib.hid h2
      clear hr e1 e2
      go_enter Tryz.func32, Tryz.ntmps32
      go_upto_region 1 with fail
      rw [← hwB]
      clear hwB
      go_wp2_with fail
      refine (HX.out).mono ?_
      rintro e w1 ⟨rfl, b1⟩
      have hbc := below_cell b1
      have HY1 := HY w1 b1
      have HB1 := Lib.hid (Go.Proofs.YtpfnckhfklgoaaaGreatDoor.below_to HB0.out (Nat.le_of_lt hlt1) b1)
      clear HY HX b1
      go_wp2_with fail
      refine (HY1.out).mono ?_
      rintro e w2 ⟨rfl, b2⟩
      have HE := Lib.hid (HB1.out.trans (b2.mono HB1.out.size))
      clear HY1 b2 hbc
      go_wp2_with fail
      go_ret
      exact ⟨rfl, HE.out⟩
    · have d1 : decide (z1 ≤ 0) = true := decide_eq_true h1
      have d2 : decide (z2 ≤ 0) = false := decide_eq_false h2
      have d3 : r = false := by rw [hr]; exact decide_eq_false (fun h => h2 (e2.2 h.2))
      subst d3
      replace h1 := Lib.hid h1
      replace h2 := Lib.hid h2
      clear hr e1 e2
      go_enter Tryz.func32, Tryz.ntmps32
      go_upto_region 1 with fail
      rw [← hwB]
      clear hwB
      go_wp2_with fail
      refine (HX.out).mono ?_
      rintro e w1 ⟨rfl, b1⟩
      have hbc := below_cell b1
      have HY1 := HY w1 b1
      have HB1 := Lib.hid (Go.Proofs.YtpfnckhfklgoaaaGreatDoor.below_to HB0.out (Nat.le_of_lt hlt1) b1)
      clear HY HX b1
      go_wp2_with fail
      refine (HY1.out).mono ?_
      rintro e w2 ⟨rfl, b2⟩
      have HE := Lib.hid (HB1.out.trans (b2.mono HB1.out.size))
      clear HY1 b2 hbc
      go_wp2_with fail
      go_ret
      exact ⟨rfl, HE.out⟩
  · have d1 : decide (z1 ≤ 0) = false := decide_eq_false h1
    have d2 : r = false := by rw [hr]; exact decide_eq_false (fun h => h1 (e1.2 h.1))
    subst d2
    replace h1 := Lib.hid h1
    clear HY hr e1 e2
    go_enter Tryz.func32, Tryz.ntmps32
    go_upto_region 1 with fail
    rw [← hwB]
    clear hwB
    go_wp2_with fail
    refine (HX.out).mono ?_
    rintro e w1 ⟨rfl, b1⟩
    have HE := Lib.hid (Go.Proofs.YtpfnckhfklgoaaaGreatDoor.below_to HB0.out (Nat.le_of_lt hlt1) b1)
    clear HX b1
    go_wp2_with fail
    go_ret
    exact ⟨rfl, HE.out⟩

set_option maxRecDepth 100000 in
set_option maxHeartbeats 2000000 in
theorem boxInside_any {w : World} {v u : Value} {a b c d : Rat} (hv : IsBox w v a b) (hu : IsBox w u c d) (sa : siz a ≤ 34359738368) (sb : siz b ≤ 34359738368) (sc : siz c ≤ 34359738368) (sd : siz d ≤ 34359738368) :
    Calls Tryz.prog 45 #[v, u] w (BoolRet w (decide (c ≤ a ∧ b ≤ d))) := by
  obtain ⟨A1, c1, A2, c2, A3, c3, A4, c4, rfl, ha, hb_⟩ := hv.opened
  obtain ⟨A5, c5, A6, c6, A7, c7, A8, c8, rfl, hc, hd⟩ := hu.opened
  obtain ⟨wB, hwB⟩ : ∃ u, u = (w.alloc (.cells #[.bool (decide (a.num < 0)), .slice A1 (len a.num.natAbs) c1, .slice A2 (len (below a.den)) c2, .bool (decide (b.num < 0)), .slice A3 (len b.num.natAbs) c3, .slice A4 (len (below b.den)) c4] 53)).alloc (.cells #[.bool (decide (c.num < 0)), .slice A5 (len c.num.natAbs) c5, .slice A6 (len (below c.den)) c6, .bool (decide (d.num < 0)), .slice A7 (len d.num.natAbs) c7, .slice A8 (len (below d.den)) c8] 53) := ⟨_, rfl⟩
  obtain ⟨b0, g0, g1⟩ := news2 w (.cells #[.bool (decide (a.num < 0)), .slice A1 (len a.num.natAbs) c1, .slice A2 (len (below a.den)) c2, .bool (decide (b.num < 0)), .slice A3 (len b.num.natAbs) c3, .slice A4 (len (below b.den)) c4] 53) (.cells #[.bool (decide (c.num < 0)), .slice A5 (len c.num.natAbs) c5, .slice A6 (len (below c.den)) c6, .bool (decide (d.num < 0)), .slice A7 (len d.num.natAbs) c7, .slice A8 (len (below d.den)) c8] 53)
  rw [← hwB] at b0 g0 g1
  have k0 : wB.cell? ⟨w.heap.size, 0, none⟩ = some (.bool (decide (a.num < 0))) := cell_of_row _ _ _ _ _ _ g0
  have k1 : wB.cell? ⟨w.heap.size, 1, none⟩ = some (.slice A1 (len a.num.natAbs) c1) := cell_of_row _ _ _ _ _ _ g0
  have k2 : wB.cell? ⟨w.heap.size, 2, none⟩ = some (.slice A2 (len (below a.den)) c2) := cell_of_row _ _ _ _ _ _ g0
  have k3 : wB.cell? ⟨w.heap.size, 3, none⟩ = some (.bool (decide (b.num < 0))) := cell_of_row _ _ _ _ _ _ g0
  have k4 : wB.cell? ⟨w.heap.size, 4, none⟩ = some (.slice A3 (len b.num.natAbs) c3) := cell_of_row _ _ _ _ _ _ g0
  have k5 : wB.cell? ⟨w.heap.size, 5, none⟩ = some (.slice A4 (len (below b.den)) c4) := cell_of_row _ _ _ _ _ _ g0
  have k6 : wB.cell? ⟨w.heap.size + 1, 0, none⟩ = some (.bool (decide (c.num < 0))) := cell_of_row _ _ _ _ _ _ g1
  have k7 : wB.cell? ⟨w.heap.size + 1, 1, none⟩ = some (.slice A5 (len c.num.natAbs) c5) := cell_of_row _ _ _ _ _ _ g1
  have k8 : wB.cell? ⟨w.heap.size + 1, 2, none⟩ = some (.slice A6 (len (below c.den)) c6) := cell_of_row _ _ _ _ _ _ g1
  have k9 : wB.cell? ⟨w.heap.size + 1, 3, none⟩ = some (.bool (decide (d.num < 0))) := cell_of_row _ _ _ _ _ _ g1
  have k10 : wB.cell? ⟨w.heap.size + 1, 4, none⟩ = some (.slice A7 (len d.num.natAbs) c7) := cell_of_row _ _ _ _ _ _ g1
  have k11 : wB.cell? ⟨w.heap.size + 1, 5, none⟩ = some (.slice A8 (len (below d.den)) c8) := cell_of_row _ _ _ _ _ _ g1
  have HB0 := Lib.hid b0
  have hlt1 : w.heap.size < wB.heap.size := World.block_lt_of_cell? _ _ k0
  have hlt2 : w.heap.size + 1 < wB.heap.size := (Array.getElem?_eq_some_iff.1 g1).1
  clear g0 g1 b0
  have HX := Lib.hid (numCmp_any (hc.keep HB0.out) (ha.keep HB0.out) sc sa)
  have HY := fun (w1 : World) (hb : Below wB.heap.size wB w1) => Lib.hid (numCmp_any ((hb_.keep HB0.out).keep hb) ((hd.keep HB0.out).keep hb) sb sd)
  obtain ⟨z1, hz1⟩ : ∃ z : Int, z = cmpQ c a := ⟨_, rfl⟩
  obtain ⟨z2, hz2⟩ : ∃ z : Int, z = cmpQ b d := ⟨_, rfl⟩
  have e1 : (z1 ≤ 0) ↔ c ≤ a := by rw [hz1]; exact cmpQ_le0
  have e2 : (z2 ≤ 0) ↔ b ≤ d := by rw [hz2]; exact cmpQ_le0
  rw [← hz1] at HX
  rw [← hz2] at HY
  obtain ⟨r, hr⟩ : ∃ r : Bool, r = decide (c ≤ a ∧ b ≤ d) := ⟨_, rfl⟩
  rw [← hr]
  clear hz1 hz2 sa sb sc sd hv hu ha hb_ hc hd
  rcases Decidable.em (z1 ≤ 0) with h1 | h1
  · rcases Decidable.em (z2 ≤ 0) with h2 | h2
    · have d1 : decide (z1 ≤ 0) = true := decide_eq_true h1
      have d2 : decide (z2 ≤ 0) = true := decide_eq_true h2
      have d3 : r = true := by rw [hr]; exact decide_eq_true ⟨e1.1 h1, e2.1 h2⟩
      subst d3
      replace h1 := Lib.hid h1
      replace h2 := Lib.hid h2
      clear hr e1 e2
      go_enter Tryz.func45, Tryz.ntmps45
      go_upto_region 1 with fail
      rw [← hwB]
      clear hwB
      go_wp2_with fail
      refine (HX.out).mono ?_
      rintro e w1 ⟨rfl, b1⟩
      have hbc := below_cell b1
      have HY1 := HY w1 b1
      have HB1 := Lib.hid (Go.Proofs.YtpfnckhfklgoaaaGreatDoor.below_to HB0.out (Nat.le_of_lt hlt1) b1)
      clear HY HX b1
      go_wp2_with fail
      refine (HY1.out).mono ?_
      rintro e w2 ⟨rfl, b2⟩
      have HE := Lib.hid (HB1.out.trans (b2.mono HB1.out.size))
      clear HY1 b2 hbc
      go_wp2_with fail
      go_ret
      exact ⟨rfl, HE.out⟩
    · have d1 : decide (z1 ≤ 0) = true := decide_eq_true h1
      have d2 : decide (z2 ≤ 0) = false := decide_eq_false h2
      have d3 : r = false := by rw [hr]; exact decide_eq_false (fun h => h2 (e2.2 h.2))
      subst d3
      replace h1 := Lib.hid h1
      replace h2 := Lib.hid h2
      clear hr e1 e2
      go_enter Tryz.func45, Tryz.ntmps45
      go_upto_region 1 with fail
      rw [← hwB]
      clear hwB
      go_wp2_with fail
      refine (HX.out).mono ?_
      rintro e w1 ⟨rfl, b1⟩
      have hbc := below_cell b1
      have HY1 := HY w1 b1
      have HB1 := Lib.hid (Go.Proofs.YtpfnckhfklgoaaaGreatDoor.below_to HB0.out (Nat.le_of_lt hlt1) b1)
      clear HY HX b1
      go_wp2_with fail
      refine (HY1.out).mono ?_
      rintro e w2 ⟨rfl, b2⟩
      have HE := Lib.hid (HB1.out.trans (b2.mono HB1.out.size))
      clear HY1 b2 hbc
      go_wp2_with fail
      go_ret
      exact ⟨rfl, HE.out⟩
  · have d1 : decide (z1 ≤ 0) = false := decide_eq_false h1
    have d2 : r = false := by rw [hr]; exact decide_eq_false (fun h => h1 (e1.2 h.1))
    subst d2
    replace h1 := Lib.hid h1
    clear HY hr e1 e2
    go_enter Tryz.func45, Tryz.ntmps45
    go_upto_region 1 with fail
    rw [← hwB]
    clear hwB
    go_wp2_with fail
    refine (HX.out).mono ?_
    rintro e w1 ⟨rfl, b1⟩
    have HE := Lib.hid (Go.Proofs.YtpfnckhfklgoaaaGreatDoor.below_to HB0.out (Nat.le_of_lt hlt1) b1)
    clear HX b1
    go_wp2_with fail
    go_ret
    exact ⟨rfl, HE.out⟩
end Go.Proofs.YtpfnckhfklgoaaaGreatDoor
namespace Go.Proofs.YtpfnckhfklgoaaaGreatDoor
open Go.RowKit
open Vx

set_option maxRecDepth 100000 in
set_option maxHeartbeats 2000000 in
theorem boxAdd_any {w : World} {v0 : Value} {v1 : Value} {a b : Rat} {c d : Rat} (hv : IsBox w v0 a b) (hu : IsBox w v1 c d) (sa : siz a ≤ 34359738368) (sb : siz b ≤ 34359738368) (sc : siz c ≤ 34359738368) (sd : siz d ≤ 34359738368) :
    Calls Tryz.prog 33 #[v0, v1] w (BoxRet w (a + c) (b + d)) := by
  obtain ⟨A1, c1, A2, c2, A3, c3, A4, c4, rfl, ha, hb⟩ := hv.opened
  obtain ⟨A5, c5, A6, c6, A7, c7, A8, c8, rfl, hc, hd⟩ := hu.opened
  obtain ⟨wB, hwB⟩ : ∃ u, u = ((w.alloc (.cells #[.bool (decide (a.num < 0)), .slice A1 (len a.num.natAbs) c1, .slice A2 (len (below a.den)) c2, .bool (decide (b.num < 0)), .slice A3 (len b.num.natAbs) c3, .slice A4 (len (below b.den)) c4] 53)).alloc (.cells #[.bool (decide (c.num < 0)), .slice A5 (len c.num.natAbs) c5, .slice A6 (len (below c.den)) c6, .bool (decide (d.num < 0)), .slice A7 (len d.num.natAbs) c7, .slice A8 (len (below d.den)) c8] 53)).alloc (.cells #[.bool false, .slice none 0 0, .slice none 0 0, .bool false, .slice none 0 0, .slice none 0 0] 53) := ⟨_, rfl⟩
  obtain ⟨b0, g0, g1, g2⟩ := news3 w (.cells #[.bool (decide (a.num < 0)), .slice A1 (len a.num.natAbs) c1, .slice A2 (len (below a.den)) c2, .bool (decide (b.num < 0)), .slice A3 (len b.num.natAbs) c3, .slice A4 (len (below b.den)) c4] 53) (.cells #[.bool (decide (c.num < 0)), .slice A5 (len c.num.natAbs) c5, .slice A6 (len (below c.den)) c6, .bool (decide (d.num < 0)), .slice A7 (len d.num.natAbs) c7, .slice A8 (len (below d.den)) c8] 53) (.cells #[.bool false, .slice none 0 0, .slice none 0 0, .bool false, .slice none 0 0, .slice none 0 0] 53)
  rw [← hwB] at b0 g0 g1 g2
  have k0 : wB.cell? ⟨w.heap.size, 0, none⟩ = some (.bool (decide (a.num < 0))) := cell_of_row _ _ _ _ _ _ g0
  have k1 : wB.cell? ⟨w.heap.size, 1, none⟩ = some (.slice A1 (len a.num.natAbs) c1) := cell_of_row _ _ _ _ _ _ g0
  have k2 : wB.cell? ⟨w.heap.size, 2, none⟩ = some (.slice A2 (len (below a.den)) c2) := cell_of_row _ _ _ _ _ _ g0
  have k3 : wB.cell? ⟨w.heap.size, 3, none⟩ = some (.bool (decide (b.num < 0))) := cell_of_row _ _ _ _ _ _ g0
  have k4 : wB.cell? ⟨w.heap.size, 4, none⟩ = some (.slice A3 (len b.num.natAbs) c3) := cell_of_row _ _ _ _ _ _ g0
  have k5 : wB.cell? ⟨w.heap.size, 5, none⟩ = some (.slice A4 (len (below b.den)) c4) := cell_of_row _ _ _ _ _ _ g0
  have k6 : wB.cell? ⟨w.heap.size + 1, 0, none⟩ = some (.bool (decide (c.num < 0))) := cell_of_row _ _ _ _ _ _ g1
  have k7 : wB.cell? ⟨w.heap.size + 1, 1, none⟩ = some (.slice A5 (len c.num.natAbs) c5) := cell_of_row _ _ _ _ _ _ g1
  have k8 : wB.cell? ⟨w.heap.size + 1, 2, none⟩ = some (.slice A6 (len (below c.den)) c6) := cell_of_row _ _ _ _ _ _ g1
  have k9 : wB.cell? ⟨w.heap.size + 1, 3, none⟩ = some (.bool (decide (d.num < 0))) := cell_of_row _ _ _ _ _ _ g1
  have k10 : wB.cell? ⟨w.heap.size + 1, 4, none⟩ = some (.slice A7 (len d.num.natAbs) c7) := cell_of_row _ _ _ _ _ _ g1
  have k11 : wB.cell? ⟨w.heap.size + 1, 5, none⟩ = some (.slice A8 (len (below d.den)) c8) := cell_of_row _ _ _ _ _ _ g1
  have HK0 := Lib.hid (Kept.start (T := 53) rfl plain6 g2)
  have HB0 := Lib.hid b0
  have hlt1 : w.heap.size < w.heap.size + 2 := by omega
  have hlt2 : w.heap.size + 1 < w.heap.size + 2 := by omega
  clear g0 g1 g2 b0
  obtain ⟨qq, eq⟩ : ∃ z : Rat, z = a + c := ⟨_, rfl⟩
  obtain ⟨rr, er⟩ : ∃ z : Rat, z = b + d := ⟨_, rfl⟩
  have HX := fun (w' : World) (hk : Held6 wB (w.heap.size + 2) wB w') => Lib.hid (numAdd_any (hk.stay.num (ha.keep HB0.out)) (hk.stay.num (hc.keep HB0.out)) sa sc)
  have HY := fun (w' : World) (hk : Held6 wB (w.heap.size + 2) wB w') => Lib.hid (numAdd_any (hk.stay.num (hb.keep HB0.out)) (hk.stay.num (hd.keep HB0.out)) sb sd)
  rw [← eq] at HX ⊢
  rw [← er] at HY ⊢
  have H0 := HK0.out.begin6
  have H0' := H0
  unfold Held6 at H0'
  clear eq er hv ha hb hu hc hd sa sb sc sd
  go_enter Tryz.func33, Tryz.ntmps33
  go_upto_region 1 with fail
  rw [← hwB]
  clear hwB
  go_wp2_with fail
  go_region_held3 (fun w' => (∀ b o, b < w.heap.size + 2 → w'.cell? ⟨b, o, none⟩ = wB.cell? ⟨b, o, none⟩) ∧ w'.cell? ⟨w.heap.size + 2, 0, none⟩ = some (cur w' ⟨w.heap.size + 2, 0, none⟩) ∧ w'.cell? ⟨w.heap.size + 2, 1, none⟩ = some (cur w' ⟨w.heap.size + 2, 1, none⟩) ∧ w'.cell? ⟨w.heap.size + 2, 2, none⟩ = some (cur w' ⟨w.heap.size + 2, 2, none⟩) ∧ w'.cell? ⟨w.heap.size + 2, 3, none⟩ = some (cur w' ⟨w.heap.size + 2, 3, none⟩) ∧ w'.cell? ⟨w.heap.size + 2, 4, none⟩ = some (cur w' ⟨w.heap.size + 2, 4, none⟩) ∧ w'.cell? ⟨w.heap.size + 2, 5, none⟩ = some (cur w' ⟨w.heap.size + 2, 5, none⟩) ∧ w'.frozen? ⟨w.heap.size + 2, 0, none⟩ = false ∧ w'.frozen? ⟨w.heap.size + 2, 1, none⟩ = false ∧ w'.frozen? ⟨w.heap.size + 2, 2, none⟩ = false ∧ w'.frozen? ⟨w.heap.size + 2, 3, none⟩ = false ∧ w'.frozen? ⟨w.heap.size + 2, 4, none⟩ = false ∧ w'.frozen? ⟨w.heap.size + 2, 5, none⟩ = false ∧ Kept 6 53 wB (w.heap.size + 2) w' ∧ Stay wB w')
    (first | with_reducible exact H0' | with_reducible exact hk1' | with_reducible exact hk2' | exact hk2.store)
    (first | (go_at_call 14; refine ((HY _ hk1).out).mono ?_; rintro e w2 ⟨v2, rfl, hv2, hbl2⟩; obtain ⟨C3, j3, C4, j4, rfl, -, -⟩ := id hv2.opened; have hk2 := hk1.call hbl2; have hk2' := hk2; unfold Held6 at hk2') | (go_at_call 14; refine ((HX _ H0).out).mono ?_; rintro e w1 ⟨v1, rfl, hv1, hbl1⟩; obtain ⟨C1, j1, C2, j2, rfl, -, -⟩ := id hv1.opened; have hk1 := H0.call hbl1; have hk1' := hk1; unfold Held6 at hk1'))
  rename_i hHl
  clear hHl
  have hv1' := hv1.keep hbl2
  have HD := hk2.done (p := qq) (q := rr) (s1 := decide (qq.num < 0)) (A1 := C1) (n1 := len qq.num.natAbs) (c1 := j1) (A2 := C2) (n2 := len (below qq.den)) (c2 := j2) (s2 := decide (rr.num < 0)) (A3 := C3) (n3 := len rr.num.natAbs) (c3 := j3) (A4 := C4) (n4 := len (below rr.den)) (c4 := j4) (hv1') (hv2)
  obtain ⟨d1, d2, d3⟩ := HD
  have r0 := cell_of_row _ _ 0 _ _ _ d3
  have r1 := cell_of_row _ _ 1 _ _ _ d3
  have r2 := cell_of_row _ _ 2 _ _ _ d3
  have r3 := cell_of_row _ _ 3 _ _ _ d3
  have r4 := cell_of_row _ _ 4 _ _ _ d3
  have r5 := cell_of_row _ _ 5 _ _ _ d3
  simp only [List.getElem?_toArray, List.getElem?_cons_zero, List.getElem?_cons_succ] at r0 r1 r2 r3 r4 r5
  have HD := Lib.hid (And.intro d1 d2)
  clear d1 d2 d3
  go_wp2_with fail
  refine bodyPost_ret (v := .agg #[.bool (decide (qq.num < 0)), .slice (C1) (len qq.num.natAbs) (j1), .slice (C2) (len (below qq.den)) (j2), .bool (decide (rr.num < 0)), .slice (C3) (len rr.num.natAbs) (j3), .slice (C4) (len (below rr.den)) (j4)]) ?_ rfl ⟨_, rfl, HD.out.1, below_to HB0.out (by omega) HD.out.2⟩
  simp [results, Tryz.results33, go_sem, r0, r1, r2, r3, r4, r5]

set_option maxRecDepth 100000 in
set_option maxHeartbeats 2000000 in
theorem boxSub_any {w : World} {v0 : Value} {v1 : Value} {a b : Rat} {c d : Rat} (hv : IsBox w v0 a b) (hu : IsBox w v1 c d) (sa : siz a ≤ 34359738368) (sb : siz b ≤ 34359738368) (sc : siz c ≤ 34359738368) (sd : siz d ≤ 34359738368) :
    Calls Tryz.prog 34 #[v0, v1] w (BoxRet w (a - d) (b - c)) := by
  obtain ⟨A1, c1, A2, c2, A3, c3, A4, c4, rfl, ha, hb⟩ := hv.opened
  obtain ⟨A5, c5, A6, c6, A7, c7, A8, c8, rfl, hc, hd⟩ := hu.opened
  obtain ⟨wB, hwB⟩ : ∃ u, u = ((w.alloc (.cells #[.bool (decide (a.num < 0)), .slice A1 (len a.num.natAbs) c1, .slice A2 (len (below a.den)) c2, .bool (decide (b.num < 0)), .slice A3 (len b.num.natAbs) c3, .slice A4 (len (below b.den)) c4] 53)).alloc (.cells #[.bool (decide (c.num < 0)), .slice A5 (len c.num.natAbs) c5, .slice A6 (len (below c.den)) c6, .bool (decide (d.num < 0)), .slice A7 (len d.num.natAbs) c7, .slice A8 (len (below d.den)) c8] 53)).alloc (.cells #[.bool false, .slice none 0 0, .slice none 0 0, .bool false, .slice none 0 0, .slice none 0 0] 53) := ⟨_, rfl⟩
  obtain ⟨b0, g0, g1, g2⟩ := news3 w (.cells #[.bool (decide (a.num < 0)), .slice A1 (len a.num.natAbs) c1, .slice A2 (len (below a.den)) c2, .bool (decide (b.num < 0)), .slice A3 (len b.num.natAbs) c3, .slice A4 (len (below b.den)) c4] 53) (.cells #[.bool (decide (c.num < 0)), .slice A5 (len c.num.natAbs) c5, .slice A6 (len (below c.den)) c6, .bool (decide (d.num < 0)), .slice A7 (len d.num.natAbs) c7, .slice A8 (len (below d.den)) c8] 53) (.cells #[.bool false, .slice none 0 0, .slice none 0 0, .bool false, .slice none 0 0, .slice none 0 0] 53)
  rw [← hwB] at b0 g0 g1 g2
  have k0 : wB.cell? ⟨w.heap.size, 0, none⟩ = some (.bool (decide (a.num < 0))) := cell_of_row _ _ _ _ _ _ g0
  have k1 : wB.cell? ⟨w.heap.size, 1, none⟩ = some (.slice A1 (len a.num.natAbs) c1) := cell_of_row _ _ _ _ _ _ g0
  have k2 : wB.cell? ⟨w.heap.size, 2, none⟩ = some (.slice A2 (len (below a.den)) c2) := cell_of_row _ _ _ _ _ _ g0
  have k3 : wB.cell? ⟨w.heap.size, 3, none⟩ = some (.bool (decide (b.num < 0))) := cell_of_row _ _ _ _ _ _ g0
  have k4 : wB.cell? ⟨w.heap.size, 4, none⟩ = some (.slice A3 (len b.num.natAbs) c3) := cell_of_row _ _ _ _ _ _ g0
  have k5 : wB.cell? ⟨w.heap.size, 5, none⟩ = some (.slice A4 (len (below b.den)) c4) := cell_of_row _ _ _ _ _ _ g0
  have k6 : wB.cell? ⟨w.heap.size + 1, 0, none⟩ = some (.bool (decide (c.num < 0))) := cell_of_row _ _ _ _ _ _ g1
  have k7 : wB.cell? ⟨w.heap.size + 1, 1, none⟩ = some (.slice A5 (len c.num.natAbs) c5) := cell_of_row _ _ _ _ _ _ g1
  have k8 : wB.cell? ⟨w.heap.size + 1, 2, none⟩ = some (.slice A6 (len (below c.den)) c6) := cell_of_row _ _ _ _ _ _ g1
  have k9 : wB.cell? ⟨w.heap.size + 1, 3, none⟩ = some (.bool (decide (d.num < 0))) := cell_of_row _ _ _ _ _ _ g1
  have k10 : wB.cell? ⟨w.heap.size + 1, 4, none⟩ = some (.slice A7 (len d.num.natAbs) c7) := cell_of_row _ _ _ _ _ _ g1
  have k11 : wB.cell? ⟨w.heap.size + 1, 5, none⟩ = some (.slice A8 (len (below d.den)) c8) := cell_of_row _ _ _ _ _ _ g1
  have HK0 := Lib.hid (Kept.start (T := 53) rfl plain6 g2)
  have HB0 := Lib.hid b0
  have hlt1 : w.heap.size < w.heap.size + 2 := by omega
  have hlt2 : w.heap.size + 1 < w.heap.size + 2 := by omega
  clear g0 g1 g2 b0
  obtain ⟨qq, eq⟩ : ∃ z : Rat, z = a - d := ⟨_, rfl⟩
  obtain ⟨rr, er⟩ : ∃ z : Rat, z = b - c := ⟨_, rfl⟩
  have HX := fun (w' : World) (hk : Held6 wB (w.heap.size + 2) wB w') => Lib.hid (numSub_any (hk.stay.num (ha.keep HB0.out)) (hk.stay.num (hd.keep HB0.out)) sa sd)
  have HY := fun (w' : World) (hk : Held6 wB (w.heap.size + 2) wB w') => Lib.hid (numSub_any (hk.stay.num (hb.keep HB0.out)) (hk.stay.num (hc.keep HB0.out)) sb sc)
  rw [← eq] at HX ⊢
  rw [← er] at HY ⊢
  have H0 := HK0.out.begin6
  have H0' := H0
  unfold Held6 at H0'
  clear eq er hv ha hb hu hc hd sa sb sc sd
  go_enter Tryz.func34, Tryz.ntmps34
  go_upto_region 1 with fail
  rw [← hwB]
  clear hwB
  go_wp2_with fail
  go_region_held3 (fun w' => (∀ b o, b < w.heap.size + 2 → w'.cell? ⟨b, o, none⟩ = wB.cell? ⟨b, o, none⟩) ∧ w'.cell? ⟨w.heap.size + 2, 0, none⟩ = some (cur w' ⟨w.heap.size + 2, 0, none⟩) ∧ w'.cell? ⟨w.heap.size + 2, 1, none⟩ = some (cur w' ⟨w.heap.size + 2, 1, none⟩) ∧ w'.cell? ⟨w.heap.size + 2, 2, none⟩ = some (cur w' ⟨w.heap.size + 2, 2, none⟩) ∧ w'.cell? ⟨w.heap.size + 2, 3, none⟩ = some (cur w' ⟨w.heap.size + 2, 3, none⟩) ∧ w'.cell? ⟨w.heap.size + 2, 4, none⟩ = some (cur w' ⟨w.heap.size + 2, 4, none⟩) ∧ w'.cell? ⟨w.heap.size + 2, 5, none⟩ = some (cur w' ⟨w.heap.size + 2, 5, none⟩) ∧ w'.frozen? ⟨w.heap.size + 2, 0, none⟩ = false ∧ w'.frozen? ⟨w.heap.size + 2, 1, none⟩ = false ∧ w'.frozen? ⟨w.heap.size + 2, 2, none⟩ = false ∧ w'.frozen? ⟨w.heap.size + 2, 3, none⟩ = false ∧ w'.frozen? ⟨w.heap.size + 2, 4, none⟩ = false ∧ w'.frozen? ⟨w.heap.size + 2, 5, none⟩ = false ∧ Kept 6 53 wB (w.heap.size + 2) w' ∧ Stay wB w')
    (first | with_reducible exact H0' | with_reducible exact hk1' | with_reducible exact hk2' | exact hk2.store)
    (first | (go_at_call 16; refine ((HY _ hk1).out).mono ?_; rintro e w2 ⟨v2, rfl, hv2, hbl2⟩; obtain ⟨C3, j3, C4, j4, rfl, -, -⟩ := id hv2.opened; have hk2 := hk1.call hbl2; have hk2' := hk2; unfold Held6 at hk2') | (go_at_call 16; refine ((HX _ H0).out).mono ?_; rintro e w1 ⟨v1, rfl, hv1, hbl1⟩; obtain ⟨C1, j1, C2, j2, rfl, -, -⟩ := id hv1.opened; have hk1 := H0.call hbl1; have hk1' := hk1; unfold Held6 at hk1'))
  rename_i hHl
  clear hHl
  have hv1' := hv1.keep hbl2
  have HD := hk2.done (p := qq) (q := rr) (s1 := decide (qq.num < 0)) (A1 := C1) (n1 := len qq.num.natAbs) (c1 := j1) (A2 := C2) (n2 := len (below qq.den)) (c2 := j2) (s2 := decide (rr.num < 0)) (A3 := C3) (n3 := len rr.num.natAbs) (c3 := j3) (A4 := C4) (n4 := len (below rr.den)) (c4 := j4) (hv1') (hv2)
  obtain ⟨d1, d2, d3⟩ := HD
  have r0 := cell_of_row _ _ 0 _ _ _ d3
  have r1 := cell_of_row _ _ 1 _ _ _ d3
  have r2 := cell_of_row _ _ 2 _ _ _ d3
  have r3 := cell_of_row _ _ 3 _ _ _ d3
  have r4 := cell_of_row _ _ 4 _ _ _ d3
  have r5 := cell_of_row _ _ 5 _ _ _ d3
  simp only [List.getElem?_toArray, List.getElem?_cons_zero, List.getElem?_cons_succ] at r0 r1 r2 r3 r4 r5
  have HD := Lib.hid (And.intro d1 d2)
  clear d1 d2 d3
  go_wp2_with fail
  refine bodyPost_ret (v := .agg #[.bool (decide (qq.num < 0)), .slice (C1) (len qq.num.natAbs) (j1), .slice (C2) (len (below qq.den)) (j2), .bool (decide (rr.num < 0)), .slice (C3) (len rr.num.natAbs) (j3), .slice (C4) (len (below rr.den)) (j4)]) ?_ rfl ⟨_, rfl, HD.out.1, below_to HB0.out (by omega) HD.out.2⟩
  simp [results, Tryz.results34, go_sem, r0, r1, r2, r3, r4, r5]

set_option maxRecDepth 100000 in
set_option maxHeartbeats 2000000 in
theorem boxNeg_any {w : World} {v0 : Value} {a b : Rat} (hv : IsBox w v0 a b) (sa : siz a ≤ 34359738368) (sb : siz b ≤ 34359738368) :
    Calls Tryz.prog 36 #[v0] w (BoxRet w (-b) (-a)) := by
  obtain ⟨A1, c1, A2, c2, A3, c3, A4, c4, rfl, ha, hb⟩ := hv.opened
  obtain ⟨wB, hwB⟩ : ∃ u, u = (w.alloc (.cells #[.bool (decide (a.num < 0)), .slice A1 (len a.num.natAbs) c1, .slice A2 (len (below a.den)) c2, .bool (decide (b.num < 0)), .slice A3 (len b.num.natAbs) c3, .slice A4 (len (below b.den)) c4] 53)).alloc (.cells #[.bool false, .slice none 0 0, .slice none 0 0, .bool false, .slice none 0 0, .slice none 0 0] 53) := ⟨_, rfl⟩
  obtain ⟨b0, g0, g1⟩ := news2 w (.cells #[.bool (decide (a.num < 0)), .slice A1 (len a.num.natAbs) c1, .slice A2 (len (below a.den)) c2, .bool (decide (b.num < 0)), .slice A3 (len b.num.natAbs) c3, .slice A4 (len (below b.den)) c4] 53) (.cells #[.bool false, .slice none 0 0, .slice none 0 0, .bool false, .slice none 0 0, .slice none 0 0] 53)
  rw [← hwB] at b0 g0 g1
  have k0 : wB.cell? ⟨w.heap.size, 0, none⟩ = some (.bool (decide (a.num < 0))) := cell_of_row _ _ _ _ _ _ g0
  have k1 : wB.cell? ⟨w.heap.size, 1, none⟩ = some (.slice A1 (len a.num.natAbs) c1) := cell_of_row _ _ _ _ _ _ g0
  have k2 : wB.cell? ⟨w.heap.size, 2, none⟩ = some (.slice A2 (len (below a.den)) c2) := cell_of_row _ _ _ _ _ _ g0
  have k3 : wB.cell? ⟨w.heap.size, 3, none⟩ = some (.bool (decide (b.num < 0))) := cell_of_row _ _ _ _ _ _ g0
  have k4 : wB.cell? ⟨w.heap.size, 4, none⟩ = some (.slice A3 (len b.num.natAbs) c3) := cell_of_row _ _ _ _ _ _ g0
  have k5 : wB.cell? ⟨w.heap.size, 5, none⟩ = some (.slice A4 (len (below b.den)) c4) := cell_of_row _ _ _ _ _ _ g0
  have HK0 := Lib.hid (Kept.start (T := 53) rfl plain6 g1)
  have HB0 := Lib.hid b0
  have hlt1 : w.heap.size < w.heap.size + 1 := by omega
  clear g0 g1 b0
  obtain ⟨qq, eq⟩ : ∃ z : Rat, z = -b := ⟨_, rfl⟩
  obtain ⟨rr, er⟩ : ∃ z : Rat, z = -a := ⟨_, rfl⟩
  have HX := fun (w' : World) (hk : Held6 wB (w.heap.size + 1) wB w') => Lib.hid (numNeg_any (hk.stay.num (hb.keep HB0.out)) (Nat.le_trans sb (by omega)))
  have HY := fun (w' : World) (hk : Held6 wB (w.heap.size + 1) wB w') => Lib.hid (numNeg_any (hk.stay.num (ha.keep HB0.out)) (Nat.le_trans sa (by omega)))
  rw [← eq] at HX ⊢
  rw [← er] at HY ⊢
  have H0 := HK0.out.begin6
  have H0' := H0
  unfold Held6 at H0'
  clear eq er hv ha hb sa sb
  go_enter Tryz.func36, Tryz.ntmps36
  go_upto_region 1 with fail
  rw [← hwB]
  clear hwB
  go_wp2_with fail
  go_region_held3 (fun w' => (∀ b o, b < w.heap.size + 1 → w'.cell? ⟨b, o, none⟩ = wB.cell? ⟨b, o, none⟩) ∧ w'.cell? ⟨w.heap.size + 1, 0, none⟩ = some (cur w' ⟨w.heap.size + 1, 0, none⟩) ∧ w'.cell? ⟨w.heap.size + 1, 1, none⟩ = some (cur w' ⟨w.heap.size + 1, 1, none⟩) ∧ w'.cell? ⟨w.heap.size + 1, 2, none⟩ = some (cur w' ⟨w.heap.size + 1, 2, none⟩) ∧ w'.cell? ⟨w.heap.size + 1, 3, none⟩ = some (cur w' ⟨w.heap.size + 1, 3, none⟩) ∧ w'.cell? ⟨w.heap.size + 1, 4, none⟩ = some (cur w' ⟨w.heap.size + 1, 4, none⟩) ∧ w'.cell? ⟨w.heap.size + 1, 5, none⟩ = some (cur w' ⟨w.heap.size + 1, 5, none⟩) ∧ w'.frozen? ⟨w.heap.size + 1, 0, none⟩ = false ∧ w'.frozen? ⟨w.heap.size + 1, 1, none⟩ = false ∧ w'.frozen? ⟨w.heap.size + 1, 2, none⟩ = false ∧ w'.frozen? ⟨w.heap.size + 1, 3, none⟩ = false ∧ w'.frozen? ⟨w.heap.size + 1, 4, none⟩ = false ∧ w'.frozen? ⟨w.heap.size + 1, 5, none⟩ = false ∧ Kept 6 53 wB (w.heap.size + 1) w' ∧ Stay wB w')
    (first | with_reducible exact H0' | with_reducible exact hk1' | with_reducible exact hk2' | exact hk2.store)
    (first | (go_at_call 17; refine ((HY _ hk1).out).mono ?_; rintro e w2 ⟨v2, rfl, hv2, hbl2⟩; obtain ⟨C3, j3, C4, j4, rfl, -, -⟩ := id hv2.opened; have hk2 := hk1.call hbl2; have hk2' := hk2; unfold Held6 at hk2') | (go_at_call 17; refine ((HX _ H0).out).mono ?_; rintro e w1 ⟨v1, rfl, hv1, hbl1⟩; obtain ⟨C1, j1, C2, j2, rfl, -, -⟩ := id hv1.opened; have hk1 := H0.call hbl1; have hk1' := hk1; unfold Held6 at hk1'))
  rename_i hHl
  clear hHl
  have hv1' := hv1.keep hbl2
  have HD := hk2.done (p := qq) (q := rr) (s1 := decide (qq.num < 0)) (A1 := C1) (n1 := len qq.num.natAbs) (c1 := j1) (A2 := C2) (n2 := len (below qq.den)) (c2 := j2) (s2 := decide (rr.num < 0)) (A3 := C3) (n3 := len rr.num.natAbs) (c3 := j3) (A4 := C4) (n4 := len (below rr.den)) (c4 := j4) (hv1') (hv2)
  obtain ⟨d1, d2, d3⟩ := HD
  have r0 := cell_of_row _ _ 0 _ _ _ d3
  have r1 := cell_of_row _ _ 1 _ _ _ d3
  have r2 := cell_of_row _ _ 2 _ _ _ d3
  have r3 := cell_of_row _ _ 3 _ _ _ d3
  have r4 := cell_of_row _ _ 4 _ _ _ d3
  have r5 := cell_of_row _ _ 5 _ _ _ d3
  simp only [List.getElem?_toArray, List.getElem?_cons_zero, List.getElem?_cons_succ] at r0 r1 r2 r3 r4 r5
  have HD := Lib.hid (And.intro d1 d2)
  clear d1 d2 d3
  go_wp2_with fail
  refine bodyPost_ret (v := .agg #[.bool (decide (qq.num < 0)), .slice (C1) (len qq.num.natAbs) (j1), .slice (C2) (len (below qq.den)) (j2), .bool (decide (rr.num < 0)), .slice (C3) (len rr.num.natAbs) (j3), .slice (C4) (len (below rr.den)) (j4)]) ?_ rfl ⟨_, rfl, HD.out.1, below_to HB0.out (by omega) HD.out.2⟩
  simp [results, Tryz.results36, go_sem, r0, r1, r2, r3, r4, r5]

set_option maxRecDepth 100000 in
set_option maxHeartbeats 2000000 in
theorem boxWidth_any {w : World} {v : Value} {a b : Rat} (hv : IsBox w v a b) (sa : siz a ≤ 34359738368) (sb : siz b ≤ 34359738368) :
    Calls Tryz.prog 50 #[v] w (NumRet w (b - a)) := by
  obtain ⟨A1, c1, A2, c2, A3, c3, A4, c4, rfl, ha, hb⟩ := hv.opened
  obtain ⟨wB, hwB⟩ : ∃ u, u = (w.alloc (.cells #[.bool (decide (a.num < 0)), .slice A1 (len a.num.natAbs) c1, .slice A2 (len (below a.den)) c2, .bool (decide (b.num < 0)), .slice A3 (len b.num.natAbs) c3, .slice A4 (len (below b.den)) c4] 53)).alloc (.cells #[.bool false, .slice none 0 0, .slice none 0 0] 27) := ⟨_, rfl⟩
  obtain ⟨b0, g0, g1⟩ := news2 w (.cells #[.bool (decide (a.num < 0)), .slice A1 (len a.num.natAbs) c1, .slice A2 (len (below a.den)) c2, .bool (decide (b.num < 0)), .slice A3 (len b.num.natAbs) c3, .slice A4 (len (below b.den)) c4] 53) (.cells #[.bool false, .slice none 0 0, .slice none 0 0] 27)
  rw [← hwB] at b0 g0 g1
  have k0 : wB.cell? ⟨w.heap.size, 0, none⟩ = some (.bool (decide (a.num < 0))) := cell_of_row _ _ _ _ _ _ g0
  have k1 : wB.cell? ⟨w.heap.size, 1, none⟩ = some (.slice A1 (len a.num.natAbs) c1) := cell_of_row _ _ _ _ _ _ g0
  have k2 : wB.cell? ⟨w.heap.size, 2, none⟩ = some (.slice A2 (len (below a.den)) c2) := cell_of_row _ _ _ _ _ _ g0
  have k3 : wB.cell? ⟨w.heap.size, 3, none⟩ = some (.bool (decide (b.num < 0))) := cell_of_row _ _ _ _ _ _ g0
  have k4 : wB.cell? ⟨w.heap.size, 4, none⟩ = some (.slice A3 (len b.num.natAbs) c3) := cell_of_row _ _ _ _ _ _ g0
  have k5 : wB.cell? ⟨w.heap.size, 5, none⟩ = some (.slice A4 (len (below b.den)) c4) := cell_of_row _ _ _ _ _ _ g0
  have HK0 := Lib.hid (Kept.start (T := 27) rfl (plain3 _ _ _ _ _ _ _) g1)
  have HB0 := Lib.hid b0
  have hlt1 : w.heap.size < w.heap.size + 1 := by omega
  clear g0 g1 b0
  obtain ⟨q, hq⟩ : ∃ q : Rat, q = b - a := ⟨_, rfl⟩
  have HX := Lib.hid (numSub_any (hb.keep HB0.out) (ha.keep HB0.out) sb sa)
  rw [← hq] at HX ⊢
  clear hq sa sb hv ha hb
  go_enter Tryz.func50, Tryz.ntmps50
  go_upto_region 1 with fail
  rw [← hwB]
  clear hwB
  go_wp2_with fail
  refine (HX.out).mono ?_
  rintro e w5 ⟨v5, rfl, hv5, b5⟩
  obtain ⟨C1, j1, C2, j2, rfl, -, -⟩ := hv5.opened
  have hk := (HK0.out.call b5).held (Stay.refl _)
  clear b5 HX
  obtain ⟨-, c0, c1', c2', f0, f1, f2, -⟩ := id hk
  have HD := hk.done (q := q) (b := decide (q.num < 0)) (A1 := C1) (n1 := len q.num.natAbs) (c1 := j1) (A2 := C2) (n2 := len (below q.den)) (c2 := j2) (hv5)
  obtain ⟨d1, d2, d3⟩ := HD
  have r0 := cell_of_row _ _ 0 _ _ _ d3
  have r1 := cell_of_row _ _ 1 _ _ _ d3
  have r2 := cell_of_row _ _ 2 _ _ _ d3
  simp only [List.getElem?_toArray, List.getElem?_cons_zero, List.getElem?_cons_succ] at r0 r1 r2
  have HD := Lib.hid (And.intro d1 d2)
  clear d1 d2 d3
  go_wp2_with fail
  refine bodyPost_ret (v := .agg #[.bool (decide (q.num < 0)), .slice (C1) (len q.num.natAbs) (j1), .slice (C2) (len (below q.den)) (j2)]) ?_ rfl ⟨_, rfl, HD.out.1, below_to HB0.out (by omega) HD.out.2⟩
  simp [results, Tryz.results50, go_sem, r0, r1, r2]
end Go.Proofs.YtpfnckhfklgoaaaGreatDoor
namespace Go.Proofs.YtpfnckhfklgoaaaGreatDoor
open Go.RowKit
open Vx

theorem i64_small {n : Nat} (h : n ≤ 255) : IntKind.i64.wrap ((n : Nat) : Int) = ((n : Nat) : Int) := by
  unfold IntKind.wrap
  simp [IntKind.bits, IntKind.signed]
  omega
theorem ratio_255 (p : Nat) : (if (255 : Int) = 0 then 0 else mkRat (if (255 : Int) < 0 then -((p : Nat) : Int) else ((p : Nat) : Int)) (255 : Int).natAbs) = mkRat ((p : Nat) : Int) 255 := by
  rw [if_neg (by decide), if_neg (by decide)]; rfl
theorem siz_ratio {p : Nat} (hp : p ≤ 255) : siz (mkRat ((p : Nat) : Int) 255) ≤ 1 := by
  refine Nat.le_trans (siz_mk _ _) ?_
  have h1 : len ((p : Nat) : Int).natAbs ≤ 1 := by
    rw [Int.natAbs_natCast]
    exact len_le (by rw [W_eq]; omega)
  have h2 : len 255 ≤ 1 := len_le (by rw [W_eq]; omega)
  omega

theorem add_q {w : World} {vx vy : Value} {x y q : Rat} (hq : x + y = q) (hx : IsNum w vx x) (hy : IsNum w vy y) (hs : siz x ≤ 34359738368) (ht : siz y ≤ 34359738368) :
    Calls Tryz.prog 14 #[vx, vy] w (NumRet w q) := by rw [← hq]; exact numAdd_any hx hy hs ht
theorem mul_q {w : World} {vx vy : Value} {x y q : Rat} (hq : x * y = q) (hx : IsNum w vx x) (hy : IsNum w vy y) (hs : siz x ≤ 34359738368) (ht : siz y ≤ 34359738368) :
    Calls Tryz.prog 15 #[vx, vy] w (NumRet w q) := by rw [← hq]; exact numMul_any hx hy hs ht

set_option maxRecDepth 100000 in
set_option maxHeartbeats 2000000 in
theorem at_any {w : World} {v : Value} {a b : Rat} {p : Nat} (hv : IsBox w v a b) (hp : p ≤ 255) (sa : siz a ≤ 1073741824) (sb : siz b ≤ 1073741824) :
    Calls Tryz.prog 30 #[v, .int .u8 (p : Nat)] w (NumRet w (a + (b - a) * mkRat ((p : Nat) : Int) 255)) := by
  obtain ⟨A1, c1, A2, c2, A3, c3, A4, c4, rfl, ha, hb⟩ := hv.opened
  obtain ⟨wB, hwB⟩ : ∃ u, u = (w.alloc (.cells #[.bool (decide (a.num < 0)), .slice A1 (len a.num.natAbs) c1, .slice A2 (len (below a.den)) c2, .bool (decide (b.num < 0)), .slice A3 (len b.num.natAbs) c3, .slice A4 (len (below b.den)) c4] 53)).alloc (.cells #[.bool false, .slice none 0 0, .slice none 0 0] 27) := ⟨_, rfl⟩
  obtain ⟨b0, g0, g1⟩ := news2 w (.cells #[.bool (decide (a.num < 0)), .slice A1 (len a.num.natAbs) c1, .slice A2 (len (below a.den)) c2, .bool (decide (b.num < 0)), .slice A3 (len b.num.natAbs) c3, .slice A4 (len (below b.den)) c4] 53) (.cells #[.bool false, .slice none 0 0, .slice none 0 0] 27)
  rw [← hwB] at b0 g0 g1
  have k0 : wB.cell? ⟨w.heap.size, 0, none⟩ = some (.bool (decide (a.num < 0))) := cell_of_row _ _ _ _ _ _ g0
  have k1 : wB.cell? ⟨w.heap.size, 1, none⟩ = some (.slice A1 (len a.num.natAbs) c1) := cell_of_row _ _ _ _ _ _ g0
  have k2 : wB.cell? ⟨w.heap.size, 2, none⟩ = some (.slice A2 (len (below a.den)) c2) := cell_of_row _ _ _ _ _ _ g0
  have k3 : wB.cell? ⟨w.heap.size, 3, none⟩ = some (.bool (decide (b.num < 0))) := cell_of_row _ _ _ _ _ _ g0
  have k4 : wB.cell? ⟨w.heap.size, 4, none⟩ = some (.slice A3 (len b.num.natAbs) c3) := cell_of_row _ _ _ _ _ _ g0
  have k5 : wB.cell? ⟨w.heap.size, 5, none⟩ = some (.slice A4 (len (below b.den)) c4) := cell_of_row _ _ _ _ _ _ g0
  have HK0 := Lib.hid (Kept.start (T := 27) rfl (plain3 _ _ _ _ _ _ _) g1)
  have HB0 := Lib.hid b0
  have hlt1 : w.heap.size < w.heap.size + 1 := by omega
  clear g0 g1 b0
  obtain ⟨f, ef⟩ : ∃ z : Rat, mkRat ((p : Nat) : Int) 255 = z := ⟨_, rfl⟩
  obtain ⟨d, ed⟩ : ∃ z : Rat, b - a = z := ⟨_, rfl⟩
  rw [ef, ed]
  obtain ⟨m, em⟩ : ∃ z : Rat, d * f = z := ⟨_, rfl⟩
  rw [em]
  obtain ⟨q, eq⟩ : ∃ z : Rat, a + m = z := ⟨_, rfl⟩
  rw [eq]
  have zd' : siz d ≤ 2147483649 := by rw [← ed]; exact Nat.le_trans (siz_sub b a) (by omega)
  have zf' : siz f ≤ 1 := by rw [← ef]; exact siz_ratio hp
  have zm' : siz m ≤ 2147483650 := by rw [← em]; exact Nat.le_trans (siz_mul d f) (by omega)
  have zd : Hid (siz d ≤ 34359738368) := Nat.le_trans zd' (by omega)
  have zf : Hid (siz f ≤ 34359738368) := Nat.le_trans zf' (by omega)
  have zm : Hid (siz m ≤ 34359738368) := Nat.le_trans zm' (by omega)
  have za : Hid (siz a ≤ 34359738368) := Nat.le_trans sa (by omega)
  have H1 := fun (w' : World) (hk : Held3 wB (w.heap.size + 1) wB w') => Lib.hid (boxLo_any (IsNum.pair (hk.stay.num (ha.keep HB0.out)) (hk.stay.num (hb.keep HB0.out))) (Nat.le_trans sa (by omega)))
  have H2 := fun (w' : World) (hk : Held3 wB (w.heap.size + 1) wB w') => Lib.hid (boxWidth_any (IsNum.pair (hk.stay.num (ha.keep HB0.out)) (hk.stay.num (hb.keep HB0.out))) (Nat.le_trans sa (by omega)) (Nat.le_trans sb (by omega)))
  rw [ed] at H2
  have H3 := fun (w' : World) => ratio_to (w := w') (a := ((p : Nat) : Int)) (b := 255) (by omega) (by omega) (by omega) (by omega) ((ratio_255 p).trans ef)
  have hp1 : ((p : Nat) : Int) ≤ 255 := by omega
  have hw64 := i64_small hp
  replace em := Lib.hid em
  replace eq := Lib.hid eq
  have H0 := HK0.out.begin
  have H0' := H0
  unfold Held3 at H0'
  clear ed ef zd' zf' zm' hv ha hb sa sb hp
  go_enter Tryz.func30, Tryz.ntmps30
  go_upto_region 1 with fail
  rw [← hwB]
  clear hwB
  go_wp2_with fail
  go_region_held3 (fun w' => (∀ b o, b < w.heap.size + 1 → w'.cell? ⟨b, o, none⟩ = wB.cell? ⟨b, o, none⟩) ∧ w'.cell? ⟨w.heap.size + 1, 0, none⟩ = some (cur w' ⟨w.heap.size + 1, 0, none⟩) ∧ w'.cell? ⟨w.heap.size + 1, 1, none⟩ = some (cur w' ⟨w.heap.size + 1, 1, none⟩) ∧ w'.cell? ⟨w.heap.size + 1, 2, none⟩ = some (cur w' ⟨w.heap.size + 1, 2, none⟩) ∧ w'.frozen? ⟨w.heap.size + 1, 0, none⟩ = false ∧ w'.frozen? ⟨w.heap.size + 1, 1, none⟩ = false ∧ w'.frozen? ⟨w.heap.size + 1, 2, none⟩ = false ∧ Kept 3 27 wB (w.heap.size + 1) w' ∧ Stay wB w')
    (first | with_reducible exact H0' | with_reducible exact hk1' | with_reducible exact hk2' | with_reducible exact hk3' | with_reducible exact hk4' | with_reducible exact hk5' | exact hk5.store)
    (first | (go_at_call 14; refine (add_q eq.out (((hv1.keep hbl2).keep hbl3).keep hbl4) hv4 za.out zm.out).mono ?_; rintro e w5 ⟨v5, rfl, hv5, hbl5⟩; obtain ⟨C9, j9, C10, j10, rfl, -, -⟩ := id hv5.opened; have hk5 := hk4.call hbl5; have hk5' := hk5; unfold Held3 at hk5') | (go_at_call 15; refine (mul_q em.out (hv2.keep hbl3) hv3 zd.out zf.out).mono ?_; rintro e w4 ⟨v4, rfl, hv4, hbl4⟩; obtain ⟨C7, j7, C8, j8, rfl, -, -⟩ := id hv4.opened; have hk4 := hk3.call hbl4; have hk4' := hk4; unfold Held3 at hk4') | (go_at_call 53; refine (H3 _).mono ?_; rintro e w3 ⟨v3, rfl, hv3, hbl3⟩; obtain ⟨C5, j5, C6, j6, rfl, -, -⟩ := id hv3.opened; have hk3 := hk2.call hbl3; have hk3' := hk3; unfold Held3 at hk3') | (go_at_call 50; refine ((H2 _ hk1).out).mono ?_; rintro e w2 ⟨v2, rfl, hv2, hbl2⟩; obtain ⟨C3, j3, C4, j4, rfl, -, -⟩ := id hv2.opened; have hk2 := hk1.call hbl2; have hk2' := hk2; unfold Held3 at hk2') | (go_at_call 40; refine ((H1 _ H0).out).mono ?_; rintro e w1 ⟨v1, rfl, hv1, hbl1⟩; obtain ⟨C1, j1, C2, j2, rfl, -, -⟩ := id hv1.opened; have hk1 := H0.call hbl1; have hk1' := hk1; unfold Held3 at hk1'))
  rename_i hHl
  clear hHl
  have HD := hk5.done (q := q) (b := decide (q.num < 0)) (A1 := C9) (n1 := len q.num.natAbs) (c1 := j9) (A2 := C10) (n2 := len (below q.den)) (c2 := j10) (hv5)
  obtain ⟨d1, d2, d3⟩ := HD
  have r0 := cell_of_row _ _ 0 _ _ _ d3
  have r1 := cell_of_row _ _ 1 _ _ _ d3
  have r2 := cell_of_row _ _ 2 _ _ _ d3
  simp only [List.getElem?_toArray, List.getElem?_cons_zero, List.getElem?_cons_succ] at r0 r1 r2
  have HD := Lib.hid (And.intro d1 d2)
  clear d1 d2 d3
  go_wp2_with fail
  refine bodyPost_ret (v := .agg #[.bool (decide (q.num < 0)), .slice (C9) (len q.num.natAbs) (j9), .slice (C10) (len (below q.den)) (j10)]) ?_ rfl ⟨_, rfl, HD.out.1, below_to HB0.out (by omega) HD.out.2⟩
  simp [results, Tryz.results30, go_sem, r0, r1, r2]
end Go.Proofs.YtpfnckhfklgoaaaGreatDoor
