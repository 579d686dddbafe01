/- Plain mathematics of segments, continued: the closest points lie in the segments' boxes. -/
import Derived.Test.YtconfbdnhalmoaaSgL
import Derived.Test.YtconfbdnhalmoaaBxL
set_option linter.unusedVariables false
namespace Go.Proofs.Ytconfbdnhalmoaa.Fx

/-- A point lies between two others, number by number. -/
def inB (ax ay bx b_y x y : Int) : Prop := min (sat ax) (sat bx) ≤ sat x ∧ sat x ≤ max (sat ax) (sat bx) ∧ min (sat ay) (sat b_y) ≤ sat y ∧ sat y ≤ max (sat ay) (sat b_y)
theorem two_has {ax ay bx b_y x y : Int} (h : inB ax ay bx b_y x y) : has6 (min (sat ax) (sat bx)) (min (sat ay) (sat b_y)) (max (sat ax) (sat bx)) (max (sat ay) (sat b_y)) x y = true :=
  Bx.has_iff.2 ⟨Bx.val_iff.1 (two_val ax ay bx b_y), h.1, h.2.1, h.2.2.1, h.2.2.2⟩
theorem inB_a (ax ay bx b_y : Int) : inB ax ay bx b_y (sat ax) (sat ay) := by unfold inB; rw [sat_sat, sat_sat]; omega
theorem inB_b (ax ay bx b_y : Int) : inB ax ay bx b_y (sat bx) (sat b_y) := by unfold inB; rw [sat_sat, sat_sat]; omega
theorem inB_cpc {t ax ay bx b_y : Int} (h0 : 0 ≤ t) (h1 : t ≤ 65536) : inB ax ay bx b_y (cpc t ax bx) (cpc t ay b_y) := by
  unfold inB; rw [cpc_sat, cpc_sat]
  have h2 := cpc_between (a := ax) (b := bx) h0 h1
  have h3 := cpc_between (a := ay) (b := b_y) h0 h1
  exact ⟨h2.1, h2.2, h3.1, h3.2⟩
theorem inB_lerp {t ax ay bx b_y : Int} (h0 : 0 ≤ t) (h1 : t ≤ 65536) : inB ax ay bx b_y (lerp ax bx t) (lerp ay b_y t) := by
  unfold inB; rw [lerp_sat, lerp_sat]
  have h2 := lerp_between (a := ax) (b := bx) h0 h1
  have h3 := lerp_between (a := ay) (b := b_y) h0 h1
  exact ⟨h2.1, h2.2, h3.1, h3.2⟩
def Pp.In (p : Pp) (ax ay bx b_y cx cy dx dy : Int) : Prop := inB ax ay bx b_y p.px p.py ∧ inB cx cy dx dy p.qx p.qy
theorem Pp.In.pick {o n : Pp} {ax ay bx b_y cx cy dx dy : Int} (h : o.In ax ay bx b_y cx cy dx dy) (k : n.In ax ay bx b_y cx cy dx dy) : (o.pick n).In ax ay bx b_y cx cy dx dy := by unfold Pp.pick; split; exact k; exact h
theorem best_in (ax ay bx b_y cx cy dx dy : Int) : (best ax ay bx b_y cx cy dx dy).In ax ay bx b_y cx cy dx dy := by
  have g := cpt_in
  refine Pp.In.pick (Pp.In.pick (Pp.In.pick ?_ ?_) ?_) ?_
  · exact ⟨inB_a .., inB_cpc (g ..).1 (g ..).2⟩
  · exact ⟨inB_b .., inB_cpc (g ..).1 (g ..).2⟩
  · exact ⟨inB_cpc (g ..).1 (g ..).2, inB_a ..⟩
  · exact ⟨inB_cpc (g ..).1 (g ..).2, inB_b ..⟩
theorem cps_p (ax ay bx b_y cx cy dx dy : Int) : inB ax ay bx b_y (cps ax ay bx b_y cx cy dx dy).px (cps ax ay bx b_y cx cy dx dy).py := by
  unfold cps
  split
  · exact inB_lerp (ratio_in _ _).1 (ratio_in _ _).2
  · exact (best_in ..).1
theorem cps_q {ax ay bx b_y cx cy dx dy : Int} (h : isct ax ay bx b_y cx cy dx dy = false) : inB cx cy dx dy (cps ax ay bx b_y cx cy dx dy).qx (cps ax ay bx b_y cx cy dx dy).qy := by
  unfold cps
  rw [h, if_neg (by simp)]
  exact (best_in ..).2

/-- Outside of the world. -/
def outv (x y : Int) : Bool := decide (x < -268435456) || decide (268435456 < x) || decide (y < -268435456) || decide (268435456 < y)
theorem outv_in {x y : Int} (h : outv x y = false) : wl x ∧ wl y := by
  unfold outv at h; simp at h; unfold wl; omega

end Go.Proofs.Ytconfbdnhalmoaa.Fx
