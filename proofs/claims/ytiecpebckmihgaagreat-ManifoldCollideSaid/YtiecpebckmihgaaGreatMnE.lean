/- Plain mathematics of chapter 16: a polygon that contains a point has an edge near it, where the separation is positive. No program is imported. -/
import Derived.Test.YtiecpebckmihgaaGreatMnD
set_option linter.unusedVariables false
namespace Go.Proofs.YtiecpebckmihgaaGreat
open Fx

theorem rot_det {c s dx dy gx gy p q m1 m2 e1 e2 f1 f2 l : Int} (h1 : 65536 * p = c * dx - s * dy + e1) (h2 : 65536 * q = s * dx + c * dy + e2) (h3 : 65536 * m1 = c * gx - s * gy + f1) (h4 : 65536 * m2 = s * gx + c * gy + f2)
    (b1 : -65536 ≤ e1 ∧ e1 ≤ 65536) (b2 : -65536 ≤ e2 ∧ e2 ≤ 65536) (b3 : -65536 ≤ f1 ∧ f1 ≤ 65536) (b4 : -65536 ≤ f2 ∧ f2 ≤ 65536) (hp : -l ≤ p ∧ p ≤ l) (hq : -l ≤ q ∧ q ≤ l)
    (hm1 : -2966016 ≤ m1 ∧ m1 ≤ 2966016) (hm2 : -2966016 ≤ m2 ∧ m2 ≤ 2966016) (hl : 4000 ≤ l) (hd : 0 ≤ dx * gy - dy * gx) : -(1486 * l) ≤ p * m2 - q * m1 := by
  have id : 4294967296 * (p * m2 - q * m1) = (c * c + s * s) * (dx * gy - dy * gx) + 65536 * (e1 * m2) + 65536 * (p * f2) - e1 * f2 - 65536 * (e2 * m1) - 65536 * (q * f1) + e2 * f1 := by
    have a1 : c * dx - s * dy = 65536 * p - e1 := by omega
    have a2 : s * dx + c * dy = 65536 * q - e2 := by omega
    have a3 : c * gx - s * gy = 65536 * m1 - f1 := by omega
    have a4 : s * gx + c * gy = 65536 * m2 - f2 := by omega
    have k : (c * c + s * s) * (dx * gy - dy * gx) = (c * dx - s * dy) * (s * gx + c * gy) - (s * dx + c * dy) * (c * gx - s * gy) := by grind
    rw [k, a1, a2, a3, a4]; grind
  have h0 : 0 ≤ (c * c + s * s) * (dx * gy - dy * gx) := Int.mul_nonneg (by have := sq_nn c; have := sq_nn s; omega) hd
  have p1 := mul_between b1.1 b1.2 hm2.1 hm2.2
  have p2 := mul_between hp.1 hp.2 b4.1 b4.2
  have p3 := mul_between b1.1 b1.2 b4.1 b4.2
  have p4 := mul_between b2.1 b2.2 hm1.1 hm1.2
  have p5 := mul_between hq.1 hq.2 b3.1 b3.2
  have p6 := mul_between b2.1 b2.2 b3.1 b3.2
  generalize (c * c + s * s) * (dx * gy - dy * gx) = E at *
  clear h1 h2 h3 h4
  omega

theorem rl_len {c s dx dy p q e1 e2 : Int} (h1 : 65536 * p = c * dx - s * dy + e1) (h2 : 65536 * q = s * dx + c * dy + e2)
    (b1 : -65536 ≤ e1 ∧ e1 ≤ 65536) (b2 : -65536 ≤ e2 ∧ e2 ≤ 65536) (hD : 4294443009 ≤ c * c + s * s) (hd : 16777216 ≤ dx * dx + dy * dy) : 16000000 ≤ p * p + q * q := by
  false_or_by_contra
  have s1 := sq_nn p; have s2 := sq_nn q
  have k1 := abs_le_of_sq (u := p) (R := 3999) (by omega) (by omega)
  have k2 := abs_le_of_sq (u := q) (R := 3999) (by omega) (by omega)
  have id : 4294967296 * (p * p + q * q) - 131072 * (p * e1) - 131072 * (q * e2) + e1 * e1 + e2 * e2 = (c * c + s * s) * (dx * dx + dy * dy) := by
    have a1 : c * dx - s * dy = 65536 * p - e1 := by omega
    have a2 : s * dx + c * dy = 65536 * q - e2 := by omega
    have k : (c * c + s * s) * (dx * dx + dy * dy) = (c * dx - s * dy) * (c * dx - s * dy) + (s * dx + c * dy) * (s * dx + c * dy) := by grind
    rw [k, a1, a2]; grind
  have hP : (4294443009 : Int) * 16777216 ≤ (c * c + s * s) * (dx * dx + dy * dy) := Int.mul_le_mul hD hd (by omega) (by omega)
  have p1 := mul_between k1.1 k1.2 b1.1 b1.2
  have p2 := mul_between k2.1 k2.2 b2.1 b2.2
  have p3 := mul_between b1.1 b1.2 b1.1 b1.2
  have p4 := mul_between b2.1 b2.2 b2.1 b2.2
  generalize (c * c + s * s) * (dx * dx + dy * dy) = E at *
  clear h1 h2
  omega

theorem unit_near2 {c l : Int} (hl : 1 ≤ l) (hl2 : l ≤ 8000000) (hc : -l ≤ c ∧ c ≤ l) : (2 * (unit c l * l - 65536 * c) ≤ l ∧ 2 * (65536 * c - unit c l * l) ≤ l) ∧ -65537 ≤ unit c l ∧ unit c l ≤ 65537 := by
  have e : unit c l = sat (rcore (c * 65536) l) := by
    unfold unit; rw [if_neg (by omega), quo_pos (by omega), sat_id (x := c) (by omega) (by omega), sat_id (x := l) (by omega) (by omega), rdiv_in (by omega) (by omega) (by omega) (by omega)]
  have hr := rcore_near (n := c * 65536) (d := l) hl
  rw [e]
  generalize rcore (c * 65536) l = r at *
  have r1 : r ≤ 65537 := by
    false_or_by_contra
    have : 65538 * l ≤ r * l := Int.mul_le_mul_of_nonneg_right (by omega) (by omega)
    omega
  have r2 : -65537 ≤ r := by
    false_or_by_contra
    have : r * l ≤ (-65538) * l := Int.mul_le_mul_of_nonneg_right (by omega) (by omega)
    omega
  rw [sat_id (by omega) (by omega)]
  omega

theorem dot_near {p q l D1 D2 : Int} (hl : 1 ≤ l) (hl2 : l ≤ 8000000) (hp : -l ≤ p ∧ p ≤ l) (hq : -l ≤ q ∧ q ≤ l) (h1 : -2966016 ≤ D1 ∧ D1 ≤ 2966016) (h2 : -2966016 ≤ D2 ∧ D2 ≤ 2966016) (hg : 0 < dot (unit q l) (unit (-p) l) D1 D2) : -(46 * l) ≤ q * D1 - p * D2 := by
  obtain ⟨⟨u1, u2⟩, u3, u4⟩ := unit_near2 hl hl2 hq
  obtain ⟨⟨v1, v2⟩, v3, v4⟩ := unit_near2 (c := -p) hl hl2 (by omega)
  generalize unit q l = n1 at *
  generalize unit (-p) l = n2 at *
  have m1 := mul_between (a := n1) (b := D1) (A := 65537) (B := 2966016) (by omega) (by omega) (by omega) (by omega)
  have m2 := mul_between (a := n2) (b := D2) (A := 65537) (B := 2966016) (by omega) (by omega) (by omega) (by omega)
  have hn : 0 ≤ n1 * D1 + n2 * D2 := by
    unfold dot at hg
    rw [sat_id (x := n1) (by omega) (by omega), sat_id (x := n2) (by omega) (by omega), sat_id (x := D1) (by omega) (by omega), sat_id (x := D2) (by omega) (by omega), sat_pos_iff] at hg
    have := rdiv_lo (q := 0) (n := n1 * D1 + n2 * D2) (d := 65536) (by omega) (by omega) (by omega) (by omega)
    omega
  have hn2 := Int.mul_nonneg hn (show 0 ≤ l by omega)
  have t1 := mul_between (a := 2 * (n1 * l - 65536 * q)) (b := D1) (A := l) (B := 2966016) (by omega) (by omega) (by omega) (by omega)
  have t2 := mul_between (a := 2 * (n2 * l - 65536 * -p)) (b := D2) (A := l) (B := 2966016) (by omega) (by omega) (by omega) (by omega)
  have id : 2 * ((n1 * D1 + n2 * D2) * l) = 2 * (n1 * l - 65536 * q) * D1 + 2 * (n2 * l - 65536 * -p) * D2 + 131072 * (q * D1 - p * D2) := by grind
  clear m1 m2 u1 u2 v1 v2
  omega

theorem pol_lin {ps : List Pt} {px py a x y : Int} (hv : tval px py a = true) (hc : cvxP ps) (hA : 256 ≤ areaP ps) (hp : polin (ps.map (tr px py a)) x y = true) (A B : Int) :
    ∃ i, A * ((hp' (ps.map (tr px py a)) i).1 - sat x) + B * ((hp' (ps.map (tr px py a)) i).2 - sat y) ≤ 0 := by
  refine Classical.byContradiction fun hn => pol_no hv hc hA hp (fun p => A * (p.1 - sat x) + B * (p.2 - sat y)) (fun a b c => by unfold cr; grind) fun p hpm => ?_
  obtain ⟨i, hi, rfl⟩ := List.mem_iff_getElem.1 hpm
  rw [← hp_lt hi]
  exact Int.lt_of_not_ge fun h => hn ⟨i, h⟩

theorem shr_le (ps : List Pt) : ∀ k, (0 < k → 0 ≤ shr ps k) ∧ ∀ j, j < k → shr ps k ≤ edg ps j
  | 0 => ⟨fun h => absurd h (by omega), fun j h => absurd h (by omega)⟩
  | k + 1 => by
    obtain ⟨h1, h2⟩ := shr_le ps k
    have he : 0 ≤ edg ps k := (vlen_is _ _).1
    have hs : shr ps (k + 1) = if shr ps k < 0 ∨ edg ps k < shr ps k then edg ps k else shr ps k := rfl
    rw [hs]
    split
    · rename_i h
      refine ⟨fun _ => he, fun j hj => ?_⟩
      rcases (by omega : j = k ∨ j < k) with rfl | hjk
      · exact Int.le_refl _
      · have := h2 j hjk; have := h1 (by omega); omega
    · rename_i h
      refine ⟨fun _ => by omega, fun j hj => ?_⟩
      rcases (by omega : j = k ∨ j < k) with rfl | hjk
      · omega
      · exact h2 j hjk

theorem cvx_left {ps : List Pt} (hc : cvxP ps) {j : Nat} (hj : j < ps.length) (k : Nat) : 0 ≤ dt (hp' ps j) (hp' ps (j + 1)) (hp' ps k) := by
  have h0 : 0 < ps.length := by omega
  rw [← hp_mod ps k]
  have hk := Nat.mod_lt k h0
  generalize k % ps.length = k at *
  rcases hc.2.2.2 j hj k hk with rfl | rfl | h
  · unfold dt; rw [Int.sub_self, Int.sub_self]; simp
  · rw [hp_mod]; unfold dt; rw [Int.mul_comm]; omega
  · have hin := hc.2.2.1
    rw [or3_dt (hin _ (hp_mem _ h0)) (hin _ (hp_mem _ h0)) (hin _ (hp_mem _ h0))] at h
    have := (sgn_one (n := dt (hp' ps j) (hp' ps (j + 1)) (hp' ps k))).1 h
    omega

end Go.Proofs.YtiecpebckmihgaaGreat
