/- Contracts of the reference of chapter 10.
Contracts of the reference of chapter 10, continued: closest points, distance.
Contracts of the reference of chapter 10, continued: ClosestPoints whole, Distance. -/
import Derived.Test.YtaahgblkmajceaaGreatCo4
import Derived.Test.YtaahgblkmajceaaGreatMa2
import Derived.RegionTactic
import Derived.BigRegion
import Derived.Deep.DeepCutAuto

set_option linter.unusedVariables false
namespace Go.Proofs.YtaahgblkmajceaaGreat
open Go.RowKit Fx

theorem or_mul (ax ay bx b_y cx cy dx dy ex ey fx fy : Int) : -1 ≤ orient ax ay bx b_y cx cy * orient dx dy ex ey fx fy ∧ orient ax ay bx b_y cx cy * orient dx dy ex ey fx fy ≤ 1 := by
  have h1 := or_ge ax ay bx b_y cx cy; have h2 := or_le ax ay bx b_y cx cy; have h3 := or_ge dx dy ex ey fx fy; have h4 := or_le dx dy ex ey fx fy
  have := mul_between (a := orient ax ay bx b_y cx cy) (b := orient dx dy ex ey fx fy) (A := 1) (B := 1) (by omega) (by omega) (by omega) (by omega)
  omega

end Go.Proofs.YtaahgblkmajceaaGreat

set_option linter.unusedVariables false
namespace Go.Proofs.YtaahgblkmajceaaGreat
open Go.RowKit Fx

theorem post_named {P : Program} {fn : Func} {R : Ending → World → Prop} {a : Act} {w : World} {x : Exit} (h : ∀ Z, Z = w → bodyPost P fn R x a Z) : bodyPost P fn R x a w := h w rfl

theorem cps_ss (ax ay bx b_y cx cy dx dy : Int) : cps (sat ax) (sat ay) (sat bx) (sat b_y) (sat cx) (sat cy) (sat dx) (sat dy) = cps ax ay bx b_y cx cy dx dy := by
  have e : sgt (sat ax) (sat ay) (sat bx) (sat b_y) (sat cx) (sat cy) (sat dx) (sat dy) = sgt ax ay bx b_y cx cy dx dy := by unfold sgt absc; simp only [det_ss]
  unfold cps best cand1 cand2 cand3 cand4
  simp only [isct_ss, e, lerp_ss, cpt_ss, cpc_ss, sat_sat]
theorem absc_in (cx cy dx dy px py : Int) : 0 ≤ absc cx cy dx dy px py ∧ absc cx cy dx dy px py ≤ 2305843009213693952 := by
  have hb : ∀ p q r s : Int, -1152921504606846976 ≤ (sat p - sat q) * (sat r - sat s) ∧ (sat p - sat q) * (sat r - sat s) ≤ 1152921504606846976 := fun p q r s => by
    have a0 := sat_le p; have a1 := sat_ge p; have b0 := sat_le q; have b1 := sat_ge q; have c0 := sat_le r; have c1 := sat_ge r; have d0 := sat_le s; have d1 := sat_ge s
    have := mul_between (a := sat p - sat q) (b := sat r - sat s) (A := 1073741824) (B := 1073741824) (by omega) (by omega) (by omega) (by omega)
    omega
  have h1 := hb dx cx py cy
  have h2 := hb dy cy px cx
  unfold absc det
  split <;> omega

end Go.Proofs.YtaahgblkmajceaaGreat

set_option linter.unusedVariables false
namespace Go.Proofs.YtaahgblkmajceaaGreat
open Go.RowKit Fx

theorem sdist_cps {ax ay bx b_y cx cy dx dy : Int} (h : isct ax ay bx b_y cx cy dx dy = false) : sdist ax ay bx b_y cx cy dx dy = sat (isq (dist2 (cps ax ay bx b_y cx cy dx dy).px (cps ax ay bx b_y cx cy dx dy).py (cps ax ay bx b_y cx cy dx dy).qx (cps ax ay bx b_y cx cy dx dy).qy)) := by
  unfold sdist cps
  rw [h, if_neg (by simp), if_neg (by simp)]; rfl

end Go.Proofs.YtaahgblkmajceaaGreat
