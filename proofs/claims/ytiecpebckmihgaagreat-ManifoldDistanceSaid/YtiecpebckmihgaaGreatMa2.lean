/- Plain mathematics: what the statements of chapter 5 say of the Lean functions of bounding boxes. No program is imported.
Plain mathematics of segments: the Lean functions that the contracts of package segment and of its reference speak of, and what the statements of chapter 10 say of them. No program is imported.
Plain mathematics of segments, continued: how far the computed closest point may be away; the statement of end points. No program is imported.
Plain mathematics of segments, continued: the closest points lie in the segments' boxes. -/
import Derived.Test.YtiecpebckmihgaaGreatMa1

set_option linter.unusedVariables false
namespace Go.Proofs.YtiecpebckmihgaaGreat.Fx

/-! ### Overlap -/
theorem Bx.ovl_iff {a b : Bx} : a.ovl b = true ↔ a.ok ∧ b.ok ∧ a.x0 ≤ b.x1 ∧ b.x0 ≤ a.x1 ∧ a.y0 ≤ b.y1 ∧ b.y0 ≤ a.y1 := by
  simp [Bx.ovl, Bx.val, and_assoc]
theorem Bx.ovl_comm (a b : Bx) : a.ovl b = b.ovl a := by
  rw [Bool.eq_iff_iff, Bx.ovl_iff, Bx.ovl_iff]; constructor <;> (intro h; obtain ⟨h1, h2, h3, h4, h5, h6⟩ := h; exact ⟨h2, h1, h4, h3, h6, h5⟩)
theorem sat_max {a b : Int} (ha : a = sat a) (hb : b = sat b) : sat (max a b) = max a b := by
  rcases Int.le_total a b with h | h
  · rw [Int.max_eq_right h]; exact hb.symm
  · rw [Int.max_eq_left h]; exact ha.symm
theorem sat_min {a b : Int} (ha : a = sat a) (hb : b = sat b) : sat (min a b) = min a b := by
  rcases Int.le_total a b with h | h
  · rw [Int.min_eq_left h]; exact ha.symm
  · rw [Int.min_eq_right h]; exact hb.symm
/-! ### Unions -/
theorem Bx.uni_both {a b : Bx} (h1 : a.ok) (h2 : b.ok) : a.uni b = ⟨min a.x0 b.x0, min a.y0 b.y0, max a.x1 b.x1, max a.y1 b.y1⟩ := by
  simp [Bx.uni, Bx.val, h1, h2]
theorem Bx.uni_ok {a b : Bx} (h1 : a.ok) (h2 : b.ok) : (a.uni b).ok := by
  rw [Bx.uni_both h1 h2]
  obtain ⟨a1, a2, a3, a4, a5, a6⟩ := h1
  obtain ⟨b1, b2, b3, b4, b5, b6⟩ := h2
  exact ⟨by simp only; omega, by simp only; omega, (sat_min a3 b3).symm, (sat_min a4 b4).symm, (sat_max a5 b5).symm, (sat_max a6 b6).symm⟩
/-! ### What is contained -/
/-! ### Boxes of points -/
theorem Bx.one_ok (p : Int × Int) : (Bx.one p).ok := ⟨Int.le_refl _, Int.le_refl _, (sat_sat _).symm, (sat_sat _).symm, (sat_sat _).symm, (sat_sat _).symm⟩
theorem Bx.step_uni {b : Bx} (h : b.ok) (p : Int × Int) : b.step p = b.uni (Bx.one p) := by rw [Bx.uni_both h (Bx.one_ok p)]; rfl
theorem Bx.step_ok {b : Bx} (h : b.ok) (p : Int × Int) : (b.step p).ok := by rw [Bx.step_uni h]; exact Bx.uni_ok h (Bx.one_ok p)
theorem Bx.fold_ok : ∀ (ps : List (Int × Int)) (b : Bx), b.ok → (ps.foldl Bx.step b).ok
  | [], b, h => h
  | p :: ps, b, h => Bx.fold_ok ps _ (Bx.step_ok h p)
theorem Bx.pts_ok {ps : List (Int × Int)} (h : 0 < ps.length) : (Bx.pts ps).ok := by
  cases ps with
  | nil => simp at h
  | cons p ps => exact Bx.fold_ok ps _ (Bx.one_ok p)
/-! ### Margins -/
/-! ### Segments -/
theorem sgn_one {n : Int} : sgn n = 1 ↔ 0 < n := by unfold sgn; split <;> (try split) <;> omega
theorem sgn_neg_one {n : Int} : sgn n = -1 ↔ n < 0 := by unfold sgn; split <;> (try split) <;> omega
end Go.Proofs.YtiecpebckmihgaaGreat.Fx

set_option linter.unusedVariables false
namespace Go.Proofs.YtiecpebckmihgaaGreat.Fx

theorem ratio_in (n d : Int) : 0 ≤ ratio n d ∧ ratio n d ≤ 65536 := by
  by_cases h0 : d < 1 ∨ 4611686018427387904 < d ∨ n < 1
  · rw [ratio_out h0]; omega
  by_cases h1 : d ≤ n
  · rw [ratio_one (by omega) (by omega) (by omega) h1]; omega
  by_cases h2 : d < 70368744177664
  · rw [ratio_low (by omega) (by omega) (by omega) h2, rdiv_in (by omega) (by omega) (by omega) (by omega)]
    have hr := rcore_near (n := n * 65536) (d := d) (by omega)
    generalize rcore (n * 65536) d = k at *
    constructor
    · false_or_by_contra
      have : k * d ≤ (-1) * d := Int.mul_le_mul_of_nonneg_right (by omega) (by omega)
      omega
    · false_or_by_contra
      have : 65537 * d ≤ k * d := Int.mul_le_mul_of_nonneg_right (by omega) (by omega)
      omega
  · rw [ratio_high (by omega) (by omega) (by omega) (by omega)]
    refine ⟨?_, by omega⟩
    by_cases h3 : 1 ≤ rdiv d 65536 ∧ rdiv d 65536 ≤ 4611686018427387904
    · rw [rdiv_in h3.1 h3.2 (by omega) (by omega)]
      generalize rdiv d 65536 = R at *
      have hr := rcore_near (n := n) (d := R) (by omega)
      generalize rcore n R = k at *
      have : 0 ≤ k := by
        false_or_by_contra
        have : k * R ≤ (-1) * R := Int.mul_le_mul_of_nonneg_right (by omega) (by omega)
        omega
      omega
    · rw [rdiv_out (by omega)]; omega
theorem lerp_at {a b t : Int} (h0 : 0 ≤ t) (h1 : t ≤ 65536) : ∃ r, lerp a b t = sat (sat a + r) ∧ -536870911 ≤ r ∧ r ≤ 536870911 ∧ 2 * (sub b a * t - r * 65536) ≤ 65536 ∧ 2 * (r * 65536 - sub b a * t) ≤ 65536 := by
  have g1 : sub b a ≤ 536870911 := sat_le _
  have g2 : -536870911 ≤ sub b a := sat_ge _
  obtain ⟨D, hD⟩ : ∃ D, sub b a = D := ⟨_, rfl⟩
  unfold lerp add
  rw [hD] at g1 g2 ⊢
  have hb := mul_between (a := D) (b := t) (A := 536870911) (B := 65536) (by omega) (by omega) (by omega) (by omega)
  have hm : mul D t = sat (rcore (D * t) 65536) := by
    unfold mul; rw [sat_id (x := D) (by omega) (by omega), sat_id (x := t) (by omega) (by omega), rdiv_in (by omega) (by omega) (by omega) (by omega)]
  have hr := rcore_near (n := D * t) (d := 65536) (by omega)
  have hi : -536870911 ≤ rcore (D * t) 65536 ∧ rcore (D * t) 65536 ≤ 536870911 := by omega
  refine ⟨rcore (D * t) 65536, ?_, hi.1, hi.2, hr.1, hr.2⟩
  rw [hm, sat_sat, sat_id (x := rcore (D * t) 65536) hi.1 hi.2]
def cpt (ax ay bx b_y px py : Int) : Int := ratio ((sat px - sat ax) * (sat bx - sat ax) + (sat py - sat ay) * (sat b_y - sat ay)) (dist2 ax ay bx b_y)
def cpc (t a b : Int) : Int := if t = 0 then sat a else if t = 65536 then sat b else lerp a b t
theorem cpt_in (ax ay bx b_y px py : Int) : 0 ≤ cpt ax ay bx b_y px py ∧ cpt ax ay bx b_y px py ≤ 65536 := ratio_in _ _
theorem cpc_zero (a b : Int) : cpc 0 a b = sat a := if_pos rfl
theorem cpc_one (a b : Int) : cpc 65536 a b = sat b := by unfold cpc; rw [if_neg (by decide), if_pos rfl]
theorem cpc_mid {t a b : Int} (h0 : t ≠ 0) (h1 : t ≠ 65536) : cpc t a b = lerp a b t := by unfold cpc; rw [if_neg h0, if_neg h1]
theorem cpc_sat {t a b : Int} : sat (cpc t a b) = cpc t a b := by
  unfold cpc; split
  · exact sat_sat a
  · split
    · exact sat_sat b
    · exact lerp_sat a b t
theorem lerp_ss (a b t : Int) : lerp (sat a) (sat b) t = lerp a b t := by unfold lerp add sub; rw [sat_sat, sat_sat]
theorem dist2_ss (ax ay bx b_y : Int) : dist2 (sat ax) (sat ay) (sat bx) (sat b_y) = dist2 ax ay bx b_y := by unfold dist2; simp only [sat_sat]
theorem det_ss (ax ay bx b_y cx cy : Int) : det (sat ax) (sat ay) (sat bx) (sat b_y) (sat cx) (sat cy) = det ax ay bx b_y cx cy := by unfold det; simp only [sat_sat]
theorem orient_ss (ax ay bx b_y cx cy : Int) : orient (sat ax) (sat ay) (sat bx) (sat b_y) (sat cx) (sat cy) = orient ax ay bx b_y cx cy := by unfold orient; rw [det_ss]
theorem cpt_ss (ax ay bx b_y px py : Int) : cpt (sat ax) (sat ay) (sat bx) (sat b_y) (sat px) (sat py) = cpt ax ay bx b_y px py := by unfold cpt; rw [dist2_ss]; simp only [sat_sat]
theorem cpc_ss (t a b : Int) : cpc t (sat a) (sat b) = cpc t a b := by unfold cpc; simp only [sat_sat, lerp_ss]
theorem cpt_point (ax ay px py : Int) : cpt ax ay ax ay px py = 0 := by
  unfold cpt; exact ratio_out (.inl (by unfold dist2; simp))

def isct (ax ay bx b_y cx cy dx dy : Int) : Bool := decide (orient ax ay bx b_y cx cy * orient ax ay bx b_y dx dy ≤ 0) && decide (orient cx cy dx dy ax ay * orient cx cy dx dy bx b_y ≤ 0) && (Bx.two ax ay bx b_y).ovl (Bx.two cx cy dx dy)
theorem two_ss (ax ay bx b_y : Int) : Bx.two (sat ax) (sat ay) (sat bx) (sat b_y) = Bx.two ax ay bx b_y := by unfold Bx.two; simp only [sat_sat]
theorem isct_ss (ax ay bx b_y cx cy dx dy : Int) : isct (sat ax) (sat ay) (sat bx) (sat b_y) (sat cx) (sat cy) (sat dx) (sat dy) = isct ax ay bx b_y cx cy dx dy := by unfold isct; simp only [orient_ss, two_ss]
theorem ovl_comm (a b : Bx) : a.ovl b = b.ovl a := by
  unfold Bx.ovl
  rw [Bool.eq_iff_iff]; simp only [Bool.and_eq_true]
  constructor <;> (rintro ⟨⟨⟨⟨⟨h1, h2⟩, h3⟩, h4⟩, h5⟩, h6⟩; exact ⟨⟨⟨⟨⟨h2, h1⟩, h4⟩, h3⟩, h6⟩, h5⟩)
theorem isct_swap (ax ay bx b_y cx cy dx dy : Int) : isct cx cy dx dy ax ay bx b_y = isct ax ay bx b_y cx cy dx dy := by
  unfold isct; rw [ovl_comm (Bx.two cx cy dx dy), Bool.and_comm (decide (orient cx cy dx dy ax ay * orient cx cy dx dy bx b_y ≤ 0))]
def absc (cx cy dx dy px py : Int) : Int := if det cx cy dx dy px py < 0 then -det cx cy dx dy px py else det cx cy dx dy px py
def sgt (ax ay bx b_y cx cy dx dy : Int) : Int := ratio (absc cx cy dx dy ax ay) (absc cx cy dx dy ax ay + absc cx cy dx dy bx b_y)
structure Pp where
  px : Int
  py : Int
  qx : Int
  qy : Int
  deriving DecidableEq, Inhabited
def Pp.d (p : Pp) : Int := dist2 p.px p.py p.qx p.qy
def Pp.pick (o n : Pp) : Pp := if n.d < o.d then n else o
theorem Pp.pick_d (o n : Pp) : (o.pick n).d = min o.d n.d := by unfold Pp.pick; split <;> omega
def cand1 (ax ay bx b_y cx cy dx dy : Int) : Pp := ⟨sat ax, sat ay, cpc (cpt cx cy dx dy ax ay) cx dx, cpc (cpt cx cy dx dy ax ay) cy dy⟩
def cand2 (ax ay bx b_y cx cy dx dy : Int) : Pp := ⟨sat bx, sat b_y, cpc (cpt cx cy dx dy bx b_y) cx dx, cpc (cpt cx cy dx dy bx b_y) cy dy⟩
def cand3 (ax ay bx b_y cx cy dx dy : Int) : Pp := ⟨cpc (cpt ax ay bx b_y cx cy) ax bx, cpc (cpt ax ay bx b_y cx cy) ay b_y, sat cx, sat cy⟩
def cand4 (ax ay bx b_y cx cy dx dy : Int) : Pp := ⟨cpc (cpt ax ay bx b_y dx dy) ax bx, cpc (cpt ax ay bx b_y dx dy) ay b_y, sat dx, sat dy⟩
def best (ax ay bx b_y cx cy dx dy : Int) : Pp := (((cand1 ax ay bx b_y cx cy dx dy).pick (cand2 ax ay bx b_y cx cy dx dy)).pick (cand3 ax ay bx b_y cx cy dx dy)).pick (cand4 ax ay bx b_y cx cy dx dy)
def cps (ax ay bx b_y cx cy dx dy : Int) : Pp :=
  if isct ax ay bx b_y cx cy dx dy = true then ⟨lerp ax bx (sgt ax ay bx b_y cx cy dx dy), lerp ay b_y (sgt ax ay bx b_y cx cy dx dy), lerp ax bx (sgt ax ay bx b_y cx cy dx dy), lerp ay b_y (sgt ax ay bx b_y cx cy dx dy)⟩
  else best ax ay bx b_y cx cy dx dy
def sdist (ax ay bx b_y cx cy dx dy : Int) : Int := if isct ax ay bx b_y cx cy dx dy = true then 0 else sat (isq (best ax ay bx b_y cx cy dx dy).d)

theorem best_d (ax ay bx b_y cx cy dx dy : Int) : (best ax ay bx b_y cx cy dx dy).d = min (min (min (cand1 ax ay bx b_y cx cy dx dy).d (cand2 ax ay bx b_y cx cy dx dy).d) (cand3 ax ay bx b_y cx cy dx dy).d) (cand4 ax ay bx b_y cx cy dx dy).d := by
  unfold best; rw [Pp.pick_d, Pp.pick_d, Pp.pick_d]
theorem best_swap (ax ay bx b_y cx cy dx dy : Int) : (best cx cy dx dy ax ay bx b_y).d = (best ax ay bx b_y cx cy dx dy).d := by
  have e1 : (cand1 cx cy dx dy ax ay bx b_y).d = (cand3 ax ay bx b_y cx cy dx dy).d := by unfold cand1 cand3 Pp.d; exact dist2_comm ..
  have e2 : (cand2 cx cy dx dy ax ay bx b_y).d = (cand4 ax ay bx b_y cx cy dx dy).d := by unfold cand2 cand4 Pp.d; exact dist2_comm ..
  have e3 : (cand3 cx cy dx dy ax ay bx b_y).d = (cand1 ax ay bx b_y cx cy dx dy).d := by unfold cand1 cand3 Pp.d; exact dist2_comm ..
  have e4 : (cand4 cx cy dx dy ax ay bx b_y).d = (cand2 ax ay bx b_y cx cy dx dy).d := by unfold cand2 cand4 Pp.d; exact dist2_comm ..
  rw [best_d, best_d, e1, e2, e3, e4]; omega
theorem dist2_in (ax ay bx b_y : Int) : 0 ≤ dist2 ax ay bx b_y ∧ dist2 ax ay bx b_y ≤ 4611686018427387904 := by
  have h1 := @diffmul bx ax bx ax; have h2 := @diffmul b_y ay b_y ay; have h3 := sq_nn (sat bx - sat ax); have h4 := sq_nn (sat b_y - sat ay)
  have hb : ∀ p q : Int, (sat p - sat q) * (sat p - sat q) ≤ 1152921504606846976 := fun p q => by
    have a0 := sat_le p; have a1 := sat_ge p; have b0 := sat_le q; have b1 := sat_ge q
    have := mul_between (a := sat p - sat q) (b := sat p - sat q) (A := 1073741824) (B := 1073741824) (by omega) (by omega) (by omega) (by omega)
    omega
  have h5 := hb bx ax
  have h6 := hb b_y ay
  unfold dist2; omega
theorem sdist_swap (ax ay bx b_y cx cy dx dy : Int) : sdist cx cy dx dy ax ay bx b_y = sdist ax ay bx b_y cx cy dx dy := by
  unfold sdist; rw [isct_swap, best_swap]
theorem sdist_in (ax ay bx b_y cx cy dx dy : Int) : 0 ≤ sdist ax ay bx b_y cx cy dx dy ∧ sdist ax ay bx b_y cx cy dx dy ≤ 536870911 := by
  unfold sdist
  split
  · omega
  · obtain ⟨h0, h1⟩ := dist2_in (best ax ay bx b_y cx cy dx dy).px (best ax ay bx b_y cx cy dx dy).py (best ax ay bx b_y cx cy dx dy).qx (best ax ay bx b_y cx cy dx dy).qy
    have h := (isq_is h0 h1).1
    refine ⟨?_, sat_le _⟩
    have := (sat_neg_iff (isq (best ax ay bx b_y cx cy dx dy).d))
    unfold Pp.d at *; omega
theorem sdist_isct {ax ay bx b_y cx cy dx dy : Int} (h : isct ax ay bx b_y cx cy dx dy = true) : sdist ax ay bx b_y cx cy dx dy = 0 := if_pos h
end Go.Proofs.YtiecpebckmihgaaGreat.Fx

set_option linter.unusedVariables false
namespace Go.Proofs.YtiecpebckmihgaaGreat.Fx

end Go.Proofs.YtiecpebckmihgaaGreat.Fx

set_option linter.unusedVariables false
namespace Go.Proofs.YtiecpebckmihgaaGreat.Fx

def inB (ax ay bx b_y x y : Int) : Prop := min (sat ax) (sat bx) ≤ sat x ∧ sat x ≤ max (sat ax) (sat bx) ∧ min (sat ay) (sat b_y) ≤ sat y ∧ sat y ≤ max (sat ay) (sat b_y)
def Pp.In (p : Pp) (ax ay bx b_y cx cy dx dy : Int) : Prop := inB ax ay bx b_y p.px p.py ∧ inB cx cy dx dy p.qx p.qy
theorem Pp.In.pick {o n : Pp} {ax ay bx b_y cx cy dx dy : Int} (h : o.In ax ay bx b_y cx cy dx dy) (k : n.In ax ay bx b_y cx cy dx dy) : (o.pick n).In ax ay bx b_y cx cy dx dy := by unfold Pp.pick; split; exact k; exact h
end Go.Proofs.YtiecpebckmihgaaGreat.Fx
