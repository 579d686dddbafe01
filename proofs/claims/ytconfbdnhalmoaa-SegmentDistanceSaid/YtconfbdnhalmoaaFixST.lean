/- Contracts of the reference of chapter 10, continued: ClosestPoints whole, Distance. -/
import Derived.Test.YtconfbdnhalmoaaFixSS
set_option linter.unusedVariables false
namespace Go.Proofs.Ytconfbdnhalmoaa
open Go.RowKit Fx

theorem rcps_b (ax ay bx b_y cx cy dx dy : Int) (w : World) : Calls Try.prog 10 #[.agg #[.int .i64 ax, .int .i64 ay], .agg #[.int .i64 bx, .int .i64 b_y], .agg #[.int .i64 cx, .int .i64 cy], .agg #[.int .i64 dx, .int .i64 dy]] w fun e w' => e = .returned (.tuple #[.agg #[.int .i64 (cps ax ay bx b_y cx cy dx dy).px, .int .i64 (cps ax ay bx b_y cx cy dx dy).py], .agg #[.int .i64 (cps ax ay bx b_y cx cy dx dy).qx, .int .i64 (cps ax ay bx b_y cx cy dx dy).qy]]) ∧ Below w.heap.size w w' := by
  have e := cps_ss ax ay bx b_y cx cy dx dy
  have i := isct_ss ax ay bx b_y cx cy dx dy
  cases h : isct ax ay bx b_y cx cy dx dy
  · have := rcps0_b (sat ax) (sat ay) (sat bx) (sat b_y) (sat cx) (sat cy) (sat dx) (sat dy) ax ay bx b_y cx cy dx dy rfl rfl rfl rfl rfl rfl rfl rfl (i.trans h) w
    rw [e] at this; exact this
  · have := rcps1_b (sat ax) (sat ay) (sat bx) (sat b_y) (sat cx) (sat cy) (sat dx) (sat dy) ax ay bx b_y cx cy dx dy rfl rfl rfl rfl rfl rfl rfl rfl (i.trans h) w
    rw [e] at this; exact this

theorem sdist_cps {ax ay bx b_y cx cy dx dy : Int} (h : isct ax ay bx b_y cx cy dx dy = false) : sdist ax ay bx b_y cx cy dx dy = sat (isq (dist2 (cps ax ay bx b_y cx cy dx dy).px (cps ax ay bx b_y cx cy dx dy).py (cps ax ay bx b_y cx cy dx dy).qx (cps ax ay bx b_y cx cy dx dy).qy)) := by
  unfold sdist cps
  rw [h, if_neg (by simp), if_neg (by simp)]; rfl

set_option maxHeartbeats 1000000 in
theorem rsdist_b (ax ay bx b_y cx cy dx dy : Int) (w : World) : Calls Try.prog 12 #[.agg #[.int .i64 ax, .int .i64 ay], .agg #[.int .i64 bx, .int .i64 b_y], .agg #[.int .i64 cx, .int .i64 cy], .agg #[.int .i64 dx, .int .i64 dy]] w fun e w' => e = .returned (.int .i64 (sdist ax ay bx b_y cx cy dx dy)) ∧ Below w.heap.size w w' := by
  have cI := fun w' => risct_b ax ay bx b_y cx cy dx dy w'
  cases h : isct ax ay bx b_y cx cy dx dy
  focus
    rw [h] at cI
    rw [sdist_cps h]
    have cC := fun w' => rcps_b ax ay bx b_y cx cy dx dy w'
    generalize cps ax ay bx b_y cx cy dx dy = C at *
    have hd := dist2_in C.px C.py C.qx C.qy
    clear h
    go_enter Try.func12, Try.ntmps12
    go_wp2_with (first
      | (go_at_call 17; refine Calls.mono (gw_at (cI _)) ?_; rintro e w1 ⟨rfl, q, rfl⟩)
      | (go_at_call 10; refine Calls.mono (gw_at (cC _)) ?_; rintro e w1 ⟨rfl, q, rfl⟩)
      | (go_at_call 31; refine Calls.mono (gw_at (rdist2_b _ _ _ _ _)) ?_; rintro e w1 ⟨rfl, q, rfl⟩)
      | (go_at_call 35; refine Calls.mono (gw_at (risq_b _ _)) ?_; rintro e w1 ⟨rfl, q, rfl⟩)
      | (go_at_call 34; refine Calls.mono (gw_at (rsat_b _ _)) ?_; rintro e w1 ⟨rfl, q, rfl⟩))
    go_ret
    exact ⟨rfl, (by repeat (first | with_reducible exact Below.refl _ _ | with_reducible assumption | refine bgw ?_ (by first | (simp; done) | (simp; omega) | omega) _ | refine Below.setCell ?_ (by first | exact Nat.le_of_not_lt (by assumption) | (simp; done) | (simp; omega) | omega) _ | refine Below.alloc ?_ (by first | (simp; done) | (simp; omega) | omega) _ | refine Below.drew ?_))⟩
  rw [h] at cI
  rw [sdist_isct h]
  clear h
  go_enter Try.func12, Try.ntmps12
  go_wp2_with (go_at_call 17; refine Calls.mono (gw_at (cI _)) ?_; rintro e w1 ⟨rfl, q, rfl⟩)
  go_ret
  exact ⟨rfl, (by repeat (first | with_reducible exact Below.refl _ _ | with_reducible assumption | refine bgw ?_ (by first | (simp; done) | (simp; omega) | omega) _ | refine Below.setCell ?_ (by first | exact Nat.le_of_not_lt (by assumption) | (simp; done) | (simp; omega) | omega) _ | refine Below.alloc ?_ (by first | (simp; done) | (simp; omega) | omega) _ | refine Below.drew ?_))⟩

end Go.Proofs.Ytconfbdnhalmoaa
