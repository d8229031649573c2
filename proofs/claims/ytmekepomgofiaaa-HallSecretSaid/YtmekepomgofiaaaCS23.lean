import Derived.Test.YtmekepomgofiaaaCS22
import Derived.Test.YtmekepomgofiaaaCS19
set_option linter.all false
section
open Go Go.Ev Go.RowKit
namespace Go.Ev
set_option linter.all false
/-! ### Cells of campaigns that are changed -/
def setF (c : Camp) (r : Nat) (v : Int) : Camp := match r with
  | 0 => ⟨v, c.pr, c.ho, c.en, c.ea, c.la, c.we⟩
  | 1 => ⟨c.cu, v, c.ho, c.en, c.ea, c.la, c.we⟩
  | 2 => ⟨c.cu, c.pr, v, c.en, c.ea, c.la, c.we⟩
  | 3 => ⟨c.cu, c.pr, c.ho, v, c.ea, c.la, c.we⟩
  | 4 => ⟨c.cu, c.pr, c.ho, c.en, v, c.la, c.we⟩
  | 5 => ⟨c.cu, c.pr, c.ho, c.en, c.ea, v, c.we⟩
  | _ => ⟨c.cu, c.pr, c.ho, c.en, c.ea, c.la, v⟩
def setC (X : Nat → Camp) (i r : Nat) (v : Int) (t : Nat) : Camp := if t = i then setF (X i) r v else X t
theorem campI_cell {c : Nat → Camp} {a r : Nat} (hr : r < 7) : i6 (campI c (a * 7 + r)) = getK (campD (c a)) r := by
  have h1 : (a * 7 + r) / 7 = a := by omega
  have h2 : (a * 7 + r) % 7 = r := by omega
  have := campI_at (c := c) (j := a * 7 + r)
  rw [h1, h2] at this
  exact this.symm
theorem setF_cell (c : Camp) (v : Int) {r s : Nat} (hr : r < 7) (hs : s < 7) : getK (campD (setF c r v)) s = if s = r then i6 v else getK (campD c) s := by
  match r, hr with
  | 0, _ | 1, _ | 2, _ | 3, _ | 4, _ | 5, _ | 6, _ =>
    match s, hs with
    | 0, _ => rfl
    | 1, _ => rfl
    | 2, _ => rfl
    | 3, _ => rfl
    | 4, _ => rfl
    | 5, _ => rfl
    | 6, _ => rfl
theorem camp_upd {X : Nat → Camp} {i r : Nat} {v : Int} (hr : r < 7) : updF (fun j => i6 (campI X j)) (i * 7 + r) [i6 v] = fun j => i6 (campI (setC X i r v) j) := by
  funext j
  rw [updF_at]
  have hj : j = j / 7 * 7 + j % 7 := by omega
  have hs : j % 7 < 7 := Nat.mod_lt _ (by decide)
  generalize j / 7 = a at *
  generalize j % 7 = s at *
  subst hj
  rw [campI_cell hs, campI_cell hs]
  unfold setC
  by_cases e : a = i
  · subst e
    rw [if_pos rfl, setF_cell _ _ hr hs]
    by_cases q : s = r
    · subst q
      rw [if_pos (by simp), if_pos rfl]
      simp [getK_eq]
    · rw [if_neg (by simp; omega), if_neg q]
  · rw [if_neg e, if_neg (by simp; omega)]
theorem camp_upd0 {X : Nat → Camp} {i : Nat} {v : Int} : updF (fun j => i6 (campI X j)) (i * 7) [i6 v] = fun j => i6 (campI (setC X i 0 v) j) := camp_upd (r := 0) (by decide)
theorem cat_snocC {x : Nat → Camp} {n j : Nat} {r : Camp} (hj : j < n * 7 + 7) : catF (n * 7) (fun j => i6 (campI x j)) (getK (campD r)) j = i6 (campI (snocC x n r) j) := by
  rw [← campI_at]
  unfold catF
  cases h0 : Nat.beq (n * 7) 0 with
  | true =>
    have e0 := Nat.eq_of_beq_eq_true h0
    have : n = 0 := by omega
    subst this
    have e1 : j / 7 = 0 := by omega
    have e2 : j % 7 = j := by omega
    simp [snocC, e1, e2]
  | false =>
    cases h1 : Nat.ble (j + 1) (n * 7) with
    | true =>
      have h2 := Nat.le_of_ble_eq_true h1
      have e1 : j / 7 < n := by omega
      simp only [h1, snocC, if_pos e1]
      exact campI_at.symm
    | false =>
      have h3 : ¬ j + 1 ≤ n * 7 := fun q => by rw [Nat.ble_eq_true_of_le q] at h1; cases h1
      have e1 : ¬ j / 7 < n := by omega
      have e3 : j / 7 = n := by omega
      have e2 : j % 7 = j - n * 7 := by omega
      simp only [h1, snocC, if_neg e1, if_pos e3]
      rw [e2]
theorem pickB_bound {u : Nat} {b : Nat → Int} (hb : ∀ i, i < u → 0 ≤ b i ∧ b i ≤ 255) (i : Nat) : 0 ≤ pickB u b i ∧ pickB u b i ≤ 255 := by
  unfold pickB
  split
  · omega
  · exact hb _ (Nat.mod_lt _ (by omega))
theorem wrap_small {x : Int} (h : 0 ≤ x ∧ x ≤ 255) : IntKind.wrap .i64 x = x := wrap_in (by rw [inRange_i64]; omega)
/-- what is told of a run that keeps the rules -/
theorem run_facts {h : Hall} {n : Nat} {c : Nat → Camp} {m : Nat} {p : Nat → Int} (e : keepB h n c m p = true) (i : Nat) : i < n → (0 ≤ (c i).cu ∧ (c i).cu ≤ 20 ∧ 0 ≤ (c i).pr ∧ (c i).pr ≤ 24 ∧ 1 ≤ (c i).ho ∧ (c i).ho ≤ 24 ∧ 0 ≤ (c i).ea ∧ (c i).la ≤ 96 ∧ (c i).ea + (c i).pr ≤ p i ∧ p i ≤ (c i).la - (c i).ho ∧ 0 ≤ (c i).en ∧ (c i).en ≤ 1000 ∧ 0 ≤ (c i).we ∧ (c i).we ≤ 100) := fun hi => by
  obtain ⟨e1, e2⟩ := keepB_ok e
  have g := good_of e2
  have r := okB_runs (p := p) e1
  have q := campB_of.1 (r.2.2.2.2 i hi)
  have l := late_n (g.late i hi)
  have := r.2.1
  dsimp only [planR] at q
  omega
theorem mod_facts (k a : Int) : 0 < a → 0 ≤ k % a ∧ k % a < a := fun h => ⟨Int.emod_nonneg _ (by omega), Int.emod_lt_of_pos _ h⟩
theorem oth_same {h : Hall} {c : Nat → Camp} {p : Nat → Int} {cu : Int} {k : Nat → Int} {i : Nat} (e : (c i).cu = cu) : othC h c p cu k (i + 1) = othC h c p cu k i := funext fun t => by
  unfold othC
  by_cases q : t = i
  · subst q
    rw [if_pos (by omega), if_neg (by omega), guiseC, if_pos e]
  · by_cases w : t < i
    · rw [if_pos (by omega), if_pos w]
    · rw [if_neg (by omega), if_neg w]
theorem oth_upd0 {h : Hall} {c : Nat → Camp} {p : Nat → Int} {cu : Int} {k : Nat → Int} {i : Nat} {x : Int} (hx : x = k i) (hcu : ¬ (c i).cu = cu) (hn : ¬ (¬ ((c i).cu + 1) % 21 = cu ∧ h.cl = 0)) :
    updF (updF (updF (updF (fun j => i6 (campI (othC h c p cu k i) j)) (i * 7 + 1) [i6 (x % (p i - (c i).ea + 1) % 25)]) (i * 7 + 3) [i6 (x * 3)]) (i * 7 + 6) [i6 (x % 100)]) (i * 7 + 5) [i6 h.n] = fun j => i6 (campI (othC h c p cu k (i + 1)) j) := by
  subst hx
  rw [camp_upd (r := 1) (by decide), camp_upd (r := 3) (by decide), camp_upd (r := 6) (by decide), camp_upd (r := 5) (by decide)]
  have : setC (setC (setC (setC (othC h c p cu k i) i 1 (k i % (p i - (c i).ea + 1) % 25)) i 3 (k i * 3)) i 6 (k i % 100)) i 5 h.n = othC h c p cu k (i + 1) := funext fun t => by
    by_cases q : t = i
    · subst q
      have e : othC h c p cu k t t = c t := if_neg (by omega)
      have e2 : othC h c p cu k (t + 1) t = guiseC h cu (k t) (p t) (c t) := if_pos (by omega)
      rw [e2]
      simp only [setC, if_true, e, setF, guiseC, if_neg hcu, if_neg hn]
    · simp only [setC, if_neg q]
      unfold othC
      by_cases w : t < i
      · rw [if_pos w, if_pos (by omega)]
      · rw [if_neg w, if_neg (by omega)]
  rw [this]
theorem oth_upd1 {h : Hall} {c : Nat → Camp} {p : Nat → Int} {cu : Int} {k : Nat → Int} {i : Nat} {x : Int} (hx : x = k i) (hcu : ¬ (c i).cu = cu) (hn : ¬ ((c i).cu + 1) % 21 = cu ∧ h.cl = 0) :
    updF (updF (updF (updF (updF (fun j => i6 (campI (othC h c p cu k i) j)) (i * 7 + 1) [i6 (x % (p i - (c i).ea + 1) % 25)]) (i * 7 + 3) [i6 (x * 3)]) (i * 7 + 6) [i6 (x % 100)]) (i * 7 + 5) [i6 h.n]) (i * 7) [i6 (((c i).cu + 1) % 21)] = fun j => i6 (campI (othC h c p cu k (i + 1)) j) := by
  subst hx
  rw [camp_upd (r := 1) (by decide), camp_upd (r := 3) (by decide), camp_upd (r := 6) (by decide), camp_upd (r := 5) (by decide), camp_upd0]
  have : setC (setC (setC (setC (setC (othC h c p cu k i) i 1 (k i % (p i - (c i).ea + 1) % 25)) i 3 (k i * 3)) i 6 (k i % 100)) i 5 h.n) i 0 (((c i).cu + 1) % 21) = othC h c p cu k (i + 1) := funext fun t => by
    by_cases q : t = i
    · subst q
      have e : othC h c p cu k t t = c t := if_neg (by omega)
      have e2 : othC h c p cu k (t + 1) t = guiseC h cu (k t) (p t) (c t) := if_pos (by omega)
      rw [e2]
      simp only [setC, if_true, e, setF, guiseC, if_neg hcu, if_pos hn]
    · simp only [setC, if_neg q]
      unfold othC
      by_cases w : t < i
      · rw [if_pos w, if_pos (by omega)]
      · rw [if_neg w, if_neg (by omega)]
  rw [this]
/-- the list with the run that is cut -/
theorem spl_cat {h : Hall} {n q : Nat} {k : Int} {c : Nat → Camp} {j : Nat} (hj : j < n * 7 + 7) : catF (n * 7) (updF (updF (fun j => i6 (campI c j)) (q * 7 + 2) [i6 k]) (q * 7 + 5) [i6 h.n]) (getK (campD ⟨(c q).cu, 0, (c q).ho - k, (c q).en, (c q).ea, (c q).la, (c q).we⟩)) j = i6 (campI (splC h n q k c) j) := by
  rw [camp_upd (r := 2) (by decide), camp_upd (r := 5) (by decide), cat_snocC hj]
  have : setC (setC c q 2 k) q 5 h.n = fun i => if i = q then (⟨(c q).cu, (c q).pr, k, (c q).en, (c q).ea, h.n, (c q).we⟩ : Camp) else c i := funext fun t => by
    by_cases e : t = q
    · subst e; simp only [setC, if_true, setF]
    · simp only [setC, if_neg e]
  rw [this]
  rfl
theorem spl_catP {n q : Nat} {k : Int} {p : Nat → Int} {j : Nat} (hj : j < n + 1) : catF n (fun j => i6 (p j)) (getK [i6 (p q + k)]) j = i6 (splP n q k p j) := by
  rw [cat_any hj]
  unfold splP
  split <;> rfl
theorem fillE_upd {h : Hall} {i j : Nat} : updF (fun j => i6 (fillE h i j)) i [i6 1000] j = i6 (fillE h (i + 1) j) := by
  rw [updF_at]
  unfold fillE
  by_cases q : j = i
  · subst q
    rw [if_pos (by simp), Nat.ble_eq_true_of_le (Nat.le_refl _)]
    simp [getK_eq]
  · rw [if_neg (by simp; omega)]
    by_cases w : j + 1 ≤ i
    · rw [Nat.ble_eq_true_of_le w, Nat.ble_eq_true_of_le (by omega)]
    · have e1 : Nat.ble (j + 1) i = false := by cases e : Nat.ble (j + 1) i with | false => rfl | true => exact absurd (Nat.le_of_ble_eq_true e) w
      have e2 : Nat.ble (j + 1) (i + 1) = false := by cases e : Nat.ble (j + 1) (i + 1) with | false => rfl | true => exact absurd (Nat.le_of_ble_eq_true e) (by omega)
      rw [e1, e2]
theorem view_ok {h : Hall} {n : Nat} {c : Nat → Camp} {m : Nat} {p : Nat → Int} {cu : Int} (e : viewE h n c m p cu = 0) : keepB h n c m p = true ∧ viewK h n c m p cu = true ∧ m = n := by
  have : keepB h n c m p = true := by
    unfold viewE at e
    cases q : keepB h n c m p with
    | true => rfl
    | false => rw [q] at e; exact absurd (obErr_ok (by simpa using e)) (by rw [q]; simp)
  refine ⟨this, ?_, okB_m (keepB_ok this).1⟩
  unfold viewE at e
  rw [this] at e
  unfold viewK
  rw [this]
  cases q : cuB cu with
  | true => rfl
  | false => rw [q] at e; simp at e
theorem view_bad {h : Hall} {n : Nat} {c : Nat → Camp} {m : Nat} {p : Nat → Int} {cu : Int} (e : ¬ viewE h n c m p cu = 0) : viewK h n c m p cu = false := by
  cases q : viewK h n c m p cu with
  | false => rfl
  | true =>
    unfold viewK at q
    simp only [Bool.and_eq_true] at q
    exact absurd (by simp [viewE, q.1, q.2]) e
theorem tab_back (X : Nat → Camp) : (rowCamp fun i => tabF (fun j => i6 (campI X j)) (i * 7) 7) = X := funext fun i => (congrArg campL (camp_tab X i)).trans (campL_D _)
theorem view_raw (h : Hall) (n : Nat) (X : Nat → Camp) (m : Nat) (p : Nat → Int) (cu : Int) : viewE h n (rowCamp fun i => tabF (fun j => i6 (campI X j)) (i * 7) 7) m (rowInt fun i => [i6 (p i)]) cu = viewE h n X m p cu := by rw [tab_back]; rfl
/-- are the two views the same? -/
def sB (h : Hall) (n : Nat) (c : Nat → Camp) (m : Nat) (p : Nat → Int) (cu : Int) (h' : Hall) (n' : Nat) (d : Nat → Camp) (m' : Nat) (p' : Nat → Int) : Bool :=
  sameB (okN (viewK h n c m p cu) h.n) (fun i => lookB h n (planR c p) cu ((i : Nat) : Int)) (okN (viewK h' n' d m' p' cu) h'.n) (fun i => lookB h' n' (planR d p') cu ((i : Nat) : Int))
theorem sB_raw (h : Hall) (n : Nat) (c : Nat → Camp) (m : Nat) (p : Nat → Int) (cu : Int) (h' : Hall) (n' : Nat) (d : Nat → Camp) (m' : Nat) (p' : Nat → Int) :
    sB h n (rowCamp fun i => tabF (fun j => i6 (campI c j)) (i * 7) 7) m (rowInt fun i => [i6 (p i)]) cu h' n' (rowCamp fun i => tabF (fun j => i6 (campI d j)) (i * 7) 7) m' (rowInt fun i => [i6 (p' i)]) = sB h n c m p cu h' n' d m' p' := by
  rw [tab_back, tab_back]; rfl
theorem seen_eq {h : Hall} {n : Nat} {c : Nat → Camp} {m : Nat} {p : Nat → Int} {cu : Int} {h' : Hall} {n' : Nat} {d : Nat → Camp} {m' : Nat} {p' : Nat → Int} (e1 : viewK h n c m p cu = true) (e2 : viewK h' n' d m' p' cu = true) (en : h'.n = h.n)
    (el : ∀ t : Int, lookB h' n' (planR d p') cu t = lookB h n (planR c p) cu t) : sB h n c m p cu h' n' d m' p' = true := by
  unfold sB
  rw [e1, e2]
  exact sameB_t en.symm fun i _ => (el i).symm
theorem viewK_cu {h : Hall} {n : Nat} {c : Nat → Camp} {m : Nat} {p : Nat → Int} {cu : Int} (e : viewK h n c m p cu = true) : cuB cu = true := by
  unfold viewK at e
  simp only [Bool.and_eq_true] at e
  exact e.2
theorem viewE_of {h : Hall} {n : Nat} {c : Nat → Camp} {m : Nat} {p : Nat → Int} {cu : Int} (e : keepB h n c m p = true) (e2 : cuB cu = true) : viewE h n c m p cu = 0 ∧ viewK h n c m p cu = true := by
  simp [viewE, viewK, e, e2]
theorem rich_view {h : Hall} {n : Nat} {c : Nat → Camp} {m : Nat} {p : Nat → Int} {cu : Int} {k : Nat → Int} (e : keepB h n c m p = true) (e2 : viewK h n c m p cu = true) (hk : ∀ i, 0 ≤ k i ∧ k i ≤ 255) :
    (viewE (richH h) n (othC h c p cu k n) m p cu = 0 ∧ sB h n c m p cu (richH h) n (othC h c p cu k n) m p = true) ∨ viewE (richH h) n (othC h c p cu k n) m p cu = 100 := by
  have ho := guise_ok e cu k hk
  have hc := viewK_cu e2
  cases q : keepB (richH h) n (othC h c p cu k n) m p with
  | true =>
    have v := viewE_of q hc
    refine .inl ⟨v.1, seen_eq e2 v.2 rfl fun t => look_guise rfl rfl fun i hi => ?_⟩
    rw [othC_all hi]
    exact guise_other
  | false =>
    refine .inr ?_
    unfold keepB at q
    rw [ho, Bool.true_and] at q
    simp [viewE, keepB, obErr, ho, q]
theorem self_view {h : Hall} {n : Nat} {c : Nat → Camp} {m : Nat} {p : Nat → Int} {cu : Int} (e2 : viewK h n c m p cu = true) : sB h n c m p cu h n c m p = true := seen_eq e2 e2 rfl fun _ => rfl
theorem cut_view {h : Hall} {n : Nat} {c : Nat → Camp} {m : Nat} {p : Nat → Int} {cu : Int} (e : keepB h n c m p = true) (e2 : viewK h n c m p cu = true) {q : Nat} {k : Int} (hq : q < n) (hk : 1 ≤ k ∧ k < (c q).ho) (hn : n ≤ 15) (hcu : ¬ (c q).cu = cu) :
    viewE h (n + 1) (splC h n q k c) (m + 1) (splP n q k p) cu = 0 ∧ sB h n c m p cu h (n + 1) (splC h n q k c) (m + 1) (splP n q k p) = true := by
  have v := viewE_of (cut_ok e hq hk hn) (viewK_cu e2)
  exact ⟨v.1, seen_eq e2 v.2 rfl fun t => look_cut hq hk (keepB_keepC e).2.2.2.1 hcu⟩
theorem need4 {N j i : Nat} {Y : Nat → Camp} {a e w l : Int} : needD N (updF (updF (updF (updF (fun j => i6 (campI Y j)) (i * 7 + 1) [i6 a]) (i * 7 + 3) [i6 e]) (i * 7 + 6) [i6 w]) (i * 7 + 5) [i6 l] j) := by
  rw [camp_upd (r := 1) (by decide), camp_upd (r := 3) (by decide), camp_upd (r := 6) (by decide), camp_upd (r := 5) (by decide)]
  simp [needD]
theorem need5 {N j i : Nat} {Y : Nat → Camp} {a e w l x : Int} : needD N (updF (updF (updF (updF (updF (fun j => i6 (campI Y j)) (i * 7 + 1) [i6 a]) (i * 7 + 3) [i6 e]) (i * 7 + 6) [i6 w]) (i * 7 + 5) [i6 l]) (i * 7) [i6 x] j) := by
  rw [camp_upd (r := 1) (by decide), camp_upd (r := 3) (by decide), camp_upd (r := 6) (by decide), camp_upd (r := 5) (by decide), camp_upd0]
  simp [needD]
theorem spl_catQ {n m q : Nat} {k : Int} {p : Nat → Int} {j : Nat} (hm : m = n) (hj : j < m + 1) : catF m (fun j => i6 (p j)) (getK [i6 (p q + k)]) j = i6 (splP n q k p j) := by
  subst hm
  exact spl_catP hj
theorem leaf_a {h : Hall} {n : Nat} {c : Nat → Camp} {m : Nat} {p : Nat → Int} {cu : Int} {k : Nat → Int} {i : Nat} (hV : keepB h n c m p = true ∧ viewK h n c m p cu = true ∧ m = n) (hk : ∀ i, 0 ≤ k i ∧ k i ≤ 255) (hi : i = n) (e0 : viewE (richH h) n (rowCamp fun a => tabF (fun j => i6 (campI (othC h c p cu k i) j)) (a * 7) 7) m (rowInt fun a => [i6 (p a)]) cu = 0)
    (e1 : (!sB h n (rowCamp fun a => tabF (fun j => i6 (campI c j)) (a * 7) 7) m (rowInt fun a => [i6 (p a)]) cu (richH h) n (rowCamp fun a => tabF (fun j => i6 (campI (othC h c p cu k i) j)) (a * 7) 7) m (rowInt fun a => [i6 (p a)])) = true) : False := by
  subst hi
  rw [view_raw] at e0
  rw [sB_raw] at e1
  rcases rich_view hV.1 hV.2.1 hk with ⟨-, e⟩ | e
  · rw [e] at e1; simp at e1
  · rw [e] at e0; simp at e0
theorem leaf_b {h : Hall} {n : Nat} {c : Nat → Camp} {m : Nat} {p : Nat → Int} {cu : Int} {k : Nat → Int} {i : Nat} (hV : keepB h n c m p = true ∧ viewK h n c m p cu = true ∧ m = n) (hk : ∀ i, 0 ≤ k i ∧ k i ≤ 255) (hi : i = n) (e0 : ¬ viewE (richH h) n (rowCamp fun a => tabF (fun j => i6 (campI (othC h c p cu k i) j)) (a * 7) 7) m (rowInt fun a => [i6 (p a)]) cu = 0) (e1 : ¬ viewE (richH h) n (rowCamp fun a => tabF (fun j => i6 (campI (othC h c p cu k i) j)) (a * 7) 7) m (rowInt fun a => [i6 (p a)]) cu = 100) : False := by
  subst hi
  rw [view_raw] at e0 e1
  rcases rich_view hV.1 hV.2.1 hk with ⟨e, -⟩ | e
  · exact e0 e
  · exact e1 e
theorem leaf_c {h : Hall} {n : Nat} {c : Nat → Camp} {m : Nat} {p : Nat → Int} {cu : Int} (hV : keepB h n c m p = true ∧ viewK h n c m p cu = true ∧ m = n) (e0 : ¬ viewE h n (rowCamp fun a => tabF (fun j => i6 (campI c j)) (a * 7) 7) m (rowInt fun a => [i6 (p a)]) cu = 0) : False := by
  rw [view_raw] at e0
  exact e0 (viewE_of hV.1 (viewK_cu hV.2.1)).1
theorem leaf_d {h : Hall} {n : Nat} {c : Nat → Camp} {m : Nat} {p : Nat → Int} {cu : Int} (hV : keepB h n c m p = true ∧ viewK h n c m p cu = true ∧ m = n) (e1 : sB h n (rowCamp fun a => tabF (fun j => i6 (campI c j)) (a * 7) 7) m (rowInt fun a => [i6 (p a)]) cu h n (rowCamp fun a => tabF (fun j => i6 (campI c j)) (a * 7) 7) m (rowInt fun a => [i6 (p a)]) = false) : False := by
  rw [sB_raw, self_view hV.2.1] at e1
  cases e1
theorem leaf_e {h : Hall} {n : Nat} {c : Nat → Camp} {m : Nat} {p : Nat → Int} {cu : Int} {q : Nat} {x : Int} (hV : keepB h n c m p = true ∧ viewK h n c m p cu = true ∧ m = n) (hq : q < n) (hk : 1 ≤ x ∧ x < (c q).ho) (hn : n ≤ 15) (hcu : ¬ (c q).cu = cu) (e0 : ¬ viewE h (n + 1) (rowCamp fun a => tabF (fun j => i6 (campI (splC h n q x c) j)) (a * 7) 7) (m + 1) (rowInt fun a => [i6 ((splP n q x p) a)]) cu = 0) : False := by
  rw [view_raw] at e0
  exact e0 (cut_view hV.1 hV.2.1 hq hk hn hcu).1
theorem leaf_f {h : Hall} {n : Nat} {c : Nat → Camp} {m : Nat} {p : Nat → Int} {cu : Int} {q : Nat} {x : Int} (hV : keepB h n c m p = true ∧ viewK h n c m p cu = true ∧ m = n) (hq : q < n) (hk : 1 ≤ x ∧ x < (c q).ho) (hn : n ≤ 15) (hcu : ¬ (c q).cu = cu) (e1 : sB h n (rowCamp fun a => tabF (fun j => i6 (campI c j)) (a * 7) 7) m (rowInt fun a => [i6 (p a)]) cu h (n + 1) (rowCamp fun a => tabF (fun j => i6 (campI (splC h n q x c) j)) (a * 7) 7) (m + 1) (rowInt fun a => [i6 ((splP n q x p) a)]) = false) : False := by
  rw [sB_raw, (cut_view hV.1 hV.2.1 hq hk hn hcu).2] at e1
  cases e1
end Go.Ev
end
section
namespace Go.Ev
/-! ### Loops whose states have heaps of different lengths -/
section
variable {K : Cust} {P : Program} {w0 : World} {ρ0 : List Own} {hp0 : List Blk} {cl : FuncId → List D → List Blk → Nat → Option Out} {s : St} {Q : Ex → St → Prop}
/-- a loop before which slots are forgotten; by the index some dead blocks are laid behind -/
theorem aw_loopS {ι : Type} (more : List Nat) (gr : ι → Nat) (hm : P.follows .mixedOrders = true) (hcl : ClOK K P cl) {b r : ACode} {j : Nat} (car : ι → List (Nat × D)) (bl : ι → List (Nat × Blk)) (μ : ι → Nat) (i : ι)
    (round : ∀ i, AW cl (LoopA K P w0 ρ0 hp0) b (lst b (car i) (bl i) (grown (gr i) (fgt more s))) (RoundP K w0 ρ0 hp0 (fun i => lst b (car i) (bl i) (grown (gr i) (fgt more s))) μ i (blkP j (seqP cl (LoopA K P w0 ρ0 hp0) r Q))))
    (he : fgt (lessL (csL (car i)) (dstC b)) (grown (gr i) (fgt more s)) = lst b (car i) (bl i) (grown (gr i) (fgt more s)) := by kernel_rfl) : AW cl (LoopA K P w0 ρ0 hp0) (.seq (.block j (.loop b)) r) s Q :=
  aw_loopW hm hcl (fun i => lst b (car i) (bl i) (grown (gr i) (fgt more s))) μ i round ((Wk.fgt more s).trans ((Wk.grow _).trans (he ▸ Wk.fgt _ _)))
/-- the same, with the state before it written out -/
theorem aw_loopL {ι : Type} (more : List Nat) (s' : St) (gr : ι → Nat) (hm : P.follows .mixedOrders = true) (hcl : ClOK K P cl) {b r : ACode} {j : Nat} (car : ι → List (Nat × D)) (bl : ι → List (Nat × Blk)) (μ : ι → Nat) (i : ι)
    (round : ∀ i, AW cl (LoopA K P w0 ρ0 hp0) b (lst b (car i) (bl i) (grown (gr i) s')) (RoundP K w0 ρ0 hp0 (fun i => lst b (car i) (bl i) (grown (gr i) s')) μ i (blkP j (seqP cl (LoopA K P w0 ρ0 hp0) r Q))))
    (he : fgt (lessL (csL (car i)) (dstC b)) (grown (gr i) s') = lst b (car i) (bl i) (grown (gr i) s')) (hs : fgt more s = s' := by kernel_rfl) : AW cl (LoopA K P w0 ρ0 hp0) (.seq (.block j (.loop b)) r) s Q := by
  subst hs
  exact aw_loopS more gr hm hcl car bl μ i round he
/-- a block is given up -/
theorem round_dead {ι : Type} {st : ι → St} {μ : ι → Nat} {i : ι} (id : Nat) (h : RoundP K w0 ρ0 hp0 st μ i Q .normal (reb id .dead s)) (hb : Nat.ble s.base id = true := by kernel_rfl) : RoundP K w0 ρ0 hp0 st μ i Q .normal s :=
  round_wk (Wk.reblk (id := id) (x' := .dead) (Nat.le_of_ble_eq_true hb) fun w M ρ o _ => by cases o <;> trivial) h
theorem round_vS {ι : Type} {b : ACode} {car : ι → List (Nat × D)} {bl : ι → List (Nat × Blk)} {s0 : ι → St} {μ : ι → Nat} {i : ι} (j : ι) (hj : μ j < μ i) (he : fgt (lessL (csL (car j)) (dstC b)) s = lst b (car j) (bl j) (s0 j) := by kernel_rfl) :
    RoundP K w0 ρ0 hp0 (fun i => lst b (car i) (bl i) (s0 i)) μ i Q .normal s := round_end (lessL (csL (car j)) (dstC b)) j hj he
theorem round_tS {ι : Type} {b : ACode} {car : ι → List (Nat × D)} {bl : ι → List (Nat × Blk)} {s0 : ι → St} {μ : ι → Nat} {i : ι} (N : Nat) (q1 q2 : Prop) (h1 : q1) (h2 : q2) (h : RoundP K w0 ρ0 hp0 (fun i => lst b (car i) (bl i) (s0 i)) μ i Q .normal (trim N (fgt (lessL (csL (car i)) (dstC b)) s)))
    (e1 : needS N (fgt (lessL (csL (car i)) (dstC b)) s).sl = q1 := by kernel_rfl) (e2 : needH N (s.hp.take N) = q2 := by kernel_rfl) (hb : Nat.ble s.base N = true := by kernel_rfl) (hl : Nat.ble N (lenG s.hp) = true := by kernel_rfl) :
    RoundP K w0 ρ0 hp0 (fun i => lst b (car i) (bl i) (s0 i)) μ i Q .normal s := by
  have hl' := Nat.le_of_ble_eq_true hl
  rw [lenG_eq] at hl'
  exact round_wk ((Wk.fgt _ s).trans (Wk.trim (s := fgt _ s) (Nat.le_of_ble_eq_true hb) hl' (needS_L (e1 ▸ h1)) (e2 ▸ h2))) h
end
end Go.Ev
end
