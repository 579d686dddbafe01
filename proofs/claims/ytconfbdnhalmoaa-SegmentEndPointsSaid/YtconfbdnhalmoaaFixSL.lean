/- The contract of chapter 10's examples, and the walks of its statements: each returns true for every input, and nothing that existed has changed. No conditions. -/
import Derived.Test.YtconfbdnhalmoaaFixSP
import Derived.Test.YtconfbdnhalmoaaFixXQ
import Derived.Test.YtconfbdnhalmoaaSgB
import Derived.Test.YtconfbdnhalmoaaOp
set_option linter.unusedVariables false
namespace Go.Proofs.Ytconfbdnhalmoaa
open Go.RowKit Fx

theorem ex10a_b (w : World) : Calls Try.prog 14 #[.agg #[.int .i64 0, .int .i64 0], .agg #[.int .i64 262144, .int .i64 0], .agg #[.int .i64 65536, .int .i64 131072]] w fun e w' => e = .returned (.tuple #[.agg #[.int .i64 65536, .int .i64 0], .int .i64 16384]) ∧ Below w.heap.size w w' := by
  have h := xcp_b 0 0 262144 0 65536 131072 w
  rw [show cpt 0 0 262144 0 65536 131072 = 16384 from by decide +kernel, show cpc 16384 0 262144 = 65536 from by decide +kernel, show cpc 16384 0 0 = 0 from by decide +kernel] at h
  exact h

theorem ex10b_b (w : World) : Calls Try.prog 9 #[.agg #[.int .i64 0, .int .i64 0], .agg #[.int .i64 262144, .int .i64 0], .agg #[.int .i64 65536, .int .i64 65536], .agg #[.int .i64 65536, .int .i64 196608]] w fun e w' => e = .returned (.tuple #[.agg #[.int .i64 65536, .int .i64 0], .agg #[.int .i64 65536, .int .i64 65536]]) ∧ Below w.heap.size w w' := by
  have h := xcps_b 0 0 262144 0 65536 65536 65536 196608 w
  rw [show cps 0 0 262144 0 65536 65536 65536 196608 = ⟨65536, 0, 65536, 65536⟩ from by decide +kernel] at h
  exact h

theorem ex10c_b (w : World) : Calls Try.prog 11 #[.agg #[.int .i64 0, .int .i64 0], .agg #[.int .i64 262144, .int .i64 0], .agg #[.int .i64 0, .int .i64 0], .agg #[.int .i64 0, .int .i64 0]] w fun e w' => e = .returned (.int .i64 0) ∧ Below w.heap.size w w' := by
  have h := xsdist_b 0 0 262144 0 0 0 0 0 w
  rw [sdist_isct (by decide +kernel)] at h
  exact h

theorem ex10d_b (w : World) : Calls Try.prog 16 #[.agg #[.int .i64 0, .int .i64 0], .agg #[.int .i64 262144, .int .i64 0], .agg #[.int .i64 262144, .int .i64 0], .agg #[.int .i64 0, .int .i64 0]] w fun e w' => e = .returned (.bool true) ∧ Below w.heap.size w w' := by
  have h := xisct_b 0 0 262144 0 262144 0 0 0 w
  rw [show isct 0 0 262144 0 262144 0 0 0 = true from by decide +kernel] at h
  exact h

theorem ex10e_b (w : World) : Calls Try.prog 16 #[.agg #[.int .i64 0, .int .i64 0], .agg #[.int .i64 262144, .int .i64 0], .agg #[.int .i64 65536, .int .i64 0], .agg #[.int .i64 65536, .int .i64 65536]] w fun e w' => e = .returned (.bool true) ∧ Below w.heap.size w w' := by
  have h := xisct_b 0 0 262144 0 65536 0 65536 65536 w
  rw [show isct 0 0 262144 0 65536 0 65536 65536 = true from by decide +kernel] at h
  exact h

set_option maxHeartbeats 2000000 in
theorem example10_b (w : World) : Calls Try.prog 13 #[] w fun e w' => e = .returned (.bool true) ∧ Below w.heap.size w w' := by
  go_enter Try.func13, Try.ntmps13
  go_wp2_with (first
    | (go_at_call 14; refine Calls.mono (gw_at (ex10a_b _)) ?_; rintro e w1 ⟨rfl, q, rfl⟩)
    | (go_at_call 9; refine Calls.mono (gw_at (ex10b_b _)) ?_; rintro e w1 ⟨rfl, q, rfl⟩)
    | (go_at_call 11; refine Calls.mono (gw_at (ex10c_b _)) ?_; rintro e w1 ⟨rfl, q, rfl⟩)
    | (go_at_call 16; (with_reducible show Calls _ _ (#[_, _, Value.agg #[Value.int .i64 262144, _], _]) _ _); refine Calls.mono (gw_at (ex10d_b _)) ?_; rintro e w1 ⟨rfl, q, rfl⟩)
    | (go_at_call 16; refine Calls.mono (gw_at (ex10e_b _)) ?_; rintro e w1 ⟨rfl, q, rfl⟩))
  go_ret
  exact ⟨rfl, (by repeat (first | with_reducible exact Below.refl _ _ | with_reducible assumption | refine bgw ?_ (by first | (simp; done) | (simp; omega) | omega) _ | refine Below.setCell ?_ (by first | exact Nat.le_of_not_lt (by assumption) | (simp; done) | (simp; omega) | omega) _ | refine Below.alloc ?_ (by first | (simp; done) | (simp; omega) | omega) _ | refine Below.drew ?_))⟩

set_option maxHeartbeats 2000000 in
theorem walk_SegmentDistance (ax ay bx b_y cx cy dx dy : Int) (w : World) : Calls Try.prog 3 #[.agg #[.int .i64 ax, .int .i64 ay], .agg #[.int .i64 bx, .int .i64 b_y], .agg #[.int .i64 cx, .int .i64 cy], .agg #[.int .i64 dx, .int .i64 dy]] w fun e w' => e = .returned (.bool true) ∧ Below w.heap.size w w' := by
  have c1 := fun w' => xcps_b ax ay bx b_y cx cy dx dy w'
  have c2 := fun w' => rcps_b ax ay bx b_y cx cy dx dy w'
  have c3 := fun w' => xsdist_b ax ay bx b_y cx cy dx dy w'
  have c4 := fun w' => rsdist_b ax ay bx b_y cx cy dx dy w'
  generalize cps ax ay bx b_y cx cy dx dy = C at *
  generalize sdist ax ay bx b_y cx cy dx dy = n at *
  obtain ⟨p1, p2, q1, q2⟩ := C
  dsimp only at c1 c2
  go_enter Try.func3, Try.ntmps3
  go_wp2_with (first
    | (go_at_call 9; refine Calls.mono (gw_at (c1 _)) ?_; rintro e w1 ⟨rfl, q, rfl⟩)
    | (go_at_call 10; refine Calls.mono (gw_at (c2 _)) ?_; rintro e w1 ⟨rfl, q, rfl⟩))
  refine wp_region_gw (by kernel_rfl) (by kernel_rfl) ?_
  repeat (go_big_quiet_step ((first | (go_at_call 11; exact gw_call (c3 _)) | (go_at_call 12; exact gw_call (c4 _)) | (go_at_call 13; exact gw_call (example10_b _)))))
  refine wpQuiet_nil ?_
  intro w1 hw1
  obtain ⟨q, rfl⟩ := hw1
  go_wp2_with fail
  go_ret
  exact ⟨rfl, (by repeat (first | with_reducible exact Below.refl _ _ | with_reducible assumption | refine bgw ?_ (by first | (simp; done) | (simp; omega) | omega) _ | refine Below.setCell ?_ (by first | exact Nat.le_of_not_lt (by assumption) | (simp; done) | (simp; omega) | omega) _ | refine Below.alloc ?_ (by first | (simp; done) | (simp; omega) | omega) _ | refine Below.drew ?_))⟩

set_option maxHeartbeats 2000000 in
theorem walk_SegmentClosestPoint (ax ay bx b_y px py : Int) (w : World) : Calls Try.prog 4 #[.agg #[.int .i64 ax, .int .i64 ay], .agg #[.int .i64 bx, .int .i64 b_y], .agg #[.int .i64 px, .int .i64 py]] w fun e w' => e = .returned (.bool true) ∧ Below w.heap.size w w' := by
  have c1 := fun w' => xcp_b ax ay bx b_y px py w'
  have c2 := fun w' => rcp_b ax ay bx b_y px py w'
  obtain ⟨t0, t1⟩ := cpt_in ax ay bx b_y px py
  generalize cpc (cpt ax ay bx b_y px py) ax bx = x at *
  generalize cpc (cpt ax ay bx b_y px py) ay b_y = y at *
  generalize cpt ax ay bx b_y px py = t at *
  go_enter Try.func4, Try.ntmps4
  go_wp2_with (first
    | (go_at_call 14; refine Calls.mono (gw_at (c1 _)) ?_; rintro e w1 ⟨rfl, q, rfl⟩)
    | (go_at_call 15; refine Calls.mono (gw_at (c2 _)) ?_; rintro e w1 ⟨rfl, q, rfl⟩)
    | (go_at_call 13; refine Calls.mono (gw_at (example10_b _)) ?_; rintro e w1 ⟨rfl, q, rfl⟩))
  go_ret
  exact ⟨rfl, (by repeat (first | with_reducible exact Below.refl _ _ | with_reducible assumption | refine bgw ?_ (by first | (simp; done) | (simp; omega) | omega) _ | refine Below.setCell ?_ (by first | exact Nat.le_of_not_lt (by assumption) | (simp; done) | (simp; omega) | omega) _ | refine Below.alloc ?_ (by first | (simp; done) | (simp; omega) | omega) _ | refine Below.drew ?_))⟩

set_option maxHeartbeats 4000000 in
theorem walk_SegmentIntersection (ax ay bx b_y cx cy dx dy : Int) (w : World) : Calls Try.prog 5 #[.agg #[.int .i64 ax, .int .i64 ay], .agg #[.int .i64 bx, .int .i64 b_y], .agg #[.int .i64 cx, .int .i64 cy], .agg #[.int .i64 dx, .int .i64 dy]] w fun e w' => e = .returned (.bool true) ∧ Below w.heap.size w w' := by
  have c1 := fun w' => xisct_b ax ay bx b_y cx cy dx dy w'
  have c2 := fun w' => risct_b ax ay bx b_y cx cy dx dy w'
  have c3 := fun w' => xisct_b cx cy dx dy ax ay bx b_y w'
  have c4 := fun w' => xisct_b bx b_y ax ay cx cy dx dy w'
  have c5 := fun w' => xisct_b ax ay bx b_y dx dy cx cy w'
  have c6 := fun w' => xisct_b ax ay bx b_y ax ay cx cy w'
  rw [isct_swap] at c3
  rw [isct_ba] at c4
  rw [isct_dc] at c5
  rw [isct_share] at c6
  generalize isct ax ay bx b_y cx cy dx dy = r at *
  go_enter Try.func5, Try.ntmps5
  go_wp2_with (first
    | (go_at_call 16; (with_reducible_and_instances refine Calls.mono (gw_at (c1 _)) ?_); rintro e w1 ⟨rfl, q, rfl⟩)
    | (go_at_call 16; (with_reducible_and_instances refine Calls.mono (gw_at (c3 _)) ?_); rintro e w1 ⟨rfl, q, rfl⟩)
    | (go_at_call 16; (with_reducible_and_instances refine Calls.mono (gw_at (c4 _)) ?_); rintro e w1 ⟨rfl, q, rfl⟩)
    | (go_at_call 16; (with_reducible_and_instances refine Calls.mono (gw_at (c5 _)) ?_); rintro e w1 ⟨rfl, q, rfl⟩)
    | (go_at_call 16; (with_reducible_and_instances refine Calls.mono (gw_at (c6 _)) ?_); rintro e w1 ⟨rfl, q, rfl⟩)
    | (go_at_call 17; (with_reducible_and_instances refine Calls.mono (gw_at (c2 _)) ?_); rintro e w1 ⟨rfl, q, rfl⟩)
    | (go_at_call 13; (with_reducible_and_instances refine Calls.mono (gw_at (example10_b _)) ?_); rintro e w1 ⟨rfl, q, rfl⟩))
  go_ret
  exact ⟨rfl, (by repeat (first | with_reducible exact Below.refl _ _ | with_reducible assumption | refine bgw ?_ (by first | (simp; done) | (simp; omega) | omega) _ | refine Below.setCell ?_ (by first | exact Nat.le_of_not_lt (by assumption) | (simp; done) | (simp; omega) | omega) _ | refine Below.alloc ?_ (by first | (simp; done) | (simp; omega) | omega) _ | refine Below.drew ?_))⟩

set_option maxHeartbeats 4000000 in
theorem walk_SegmentSymmetry (ax ay bx b_y cx cy dx dy : Int) (w : World) : Calls Try.prog 6 #[.agg #[.int .i64 ax, .int .i64 ay], .agg #[.int .i64 bx, .int .i64 b_y], .agg #[.int .i64 cx, .int .i64 cy], .agg #[.int .i64 dx, .int .i64 dy]] w fun e w' => e = .returned (.bool true) ∧ Below w.heap.size w w' := by
  have c1 := fun w' => xsdist_b ax ay bx b_y cx cy dx dy w'
  have c2 := fun w' => xsdist_b cx cy dx dy ax ay bx b_y w'
  have c3 := fun w' => xsdist_b ax ay bx b_y bx b_y cx cy w'
  have c4 := fun w' => xisct_b ax ay bx b_y cx cy dx dy w'
  rw [sdist_swap] at c2
  rw [sdist_share] at c3
  obtain ⟨n0, n1⟩ := sdist_in ax ay bx b_y cx cy dx dy
  cases hI : isct ax ay bx b_y cx cy dx dy
  focus
    rw [hI] at c4
    generalize sdist ax ay bx b_y cx cy dx dy = n at *
    clear hI
    go_enter Try.func6, Try.ntmps6
    go_wp2_with (first
      | (go_at_call 11; (with_reducible_and_instances refine Calls.mono (gw_at (c1 _)) ?_); rintro e w1 ⟨rfl, q, rfl⟩)
      | (go_at_call 11; (with_reducible_and_instances refine Calls.mono (gw_at (c2 _)) ?_); rintro e w1 ⟨rfl, q, rfl⟩)
      | (go_at_call 11; (with_reducible_and_instances refine Calls.mono (gw_at (c3 _)) ?_); rintro e w1 ⟨rfl, q, rfl⟩)
      | (go_at_call 16; (with_reducible_and_instances refine Calls.mono (gw_at (c4 _)) ?_); rintro e w1 ⟨rfl, q, rfl⟩)
      | (go_at_call 13; (with_reducible_and_instances refine Calls.mono (gw_at (example10_b _)) ?_); rintro e w1 ⟨rfl, q, rfl⟩))
    go_ret
    exact ⟨rfl, (by repeat (first | with_reducible exact Below.refl _ _ | with_reducible assumption | refine bgw ?_ (by first | (simp; done) | (simp; omega) | omega) _ | refine Below.setCell ?_ (by first | exact Nat.le_of_not_lt (by assumption) | (simp; done) | (simp; omega) | omega) _ | refine Below.alloc ?_ (by first | (simp; done) | (simp; omega) | omega) _ | refine Below.drew ?_))⟩
  rw [hI] at c4
  rw [sdist_isct hI] at c1 c2
  clear hI n0 n1
  go_enter Try.func6, Try.ntmps6
  go_wp2_with (first
    | (go_at_call 11; (with_reducible_and_instances refine Calls.mono (gw_at (c1 _)) ?_); rintro e w1 ⟨rfl, q, rfl⟩)
    | (go_at_call 11; (with_reducible_and_instances refine Calls.mono (gw_at (c2 _)) ?_); rintro e w1 ⟨rfl, q, rfl⟩)
    | (go_at_call 11; (with_reducible_and_instances refine Calls.mono (gw_at (c3 _)) ?_); rintro e w1 ⟨rfl, q, rfl⟩)
    | (go_at_call 16; (with_reducible_and_instances refine Calls.mono (gw_at (c4 _)) ?_); rintro e w1 ⟨rfl, q, rfl⟩)
    | (go_at_call 13; (with_reducible_and_instances refine Calls.mono (gw_at (example10_b _)) ?_); rintro e w1 ⟨rfl, q, rfl⟩))
  go_ret
  exact ⟨rfl, (by repeat (first | with_reducible exact Below.refl _ _ | with_reducible assumption | refine bgw ?_ (by first | (simp; done) | (simp; omega) | omega) _ | refine Below.setCell ?_ (by first | exact Nat.le_of_not_lt (by assumption) | (simp; done) | (simp; omega) | omega) _ | refine Below.alloc ?_ (by first | (simp; done) | (simp; omega) | omega) _ | refine Below.drew ?_))⟩

theorem wout_b (x y : Int) (w : World) : Calls Try.prog 18 #[.agg #[.int .i64 x, .int .i64 y]] w fun e w' => e = .returned (.bool (outv x y)) ∧ Below w.heap.size w w' := by
  go_enter Try.func18, Try.ntmps18
  go_wp2_with fail
  all_goals (go_ret; refine ⟨?_, (by repeat (first | with_reducible exact Below.refl _ _ | with_reducible assumption | refine bgw ?_ (by first | (simp; done) | (simp; omega) | omega) _ | refine Below.setCell ?_ (by first | exact Nat.le_of_not_lt (by assumption) | (simp; done) | (simp; omega) | omega) _ | refine Below.alloc ?_ (by first | (simp; done) | (simp; omega) | omega) _ | refine Below.drew ?_))⟩; first | rfl | (simp [outv]; done) | (simp [outv]; omega) | (simp [outv]; rw [Bool.eq_iff_iff]; first | (simp; done) | (simp; omega)))

set_option maxHeartbeats 8000000 in
theorem walk_SegmentEndPoints (ax ay bx b_y cx cy dx dy : Int) (w : World) : Calls Try.prog 7 #[.agg #[.int .i64 ax, .int .i64 ay], .agg #[.int .i64 bx, .int .i64 b_y], .agg #[.int .i64 cx, .int .i64 cy], .agg #[.int .i64 dx, .int .i64 dy]] w fun e w' => e = .returned (.bool true) ∧ Below w.heap.size w w' := by
  have o1 := fun w' => wout_b ax ay w'
  have o2 := fun w' => wout_b bx b_y w'
  have o3 := fun w' => wout_b cx cy w'
  have o4 := fun w' => wout_b dx dy w'
  cases h1 : outv ax ay
  rotate_left
  focus
    rw [h1] at o1
    clear h1
    go_enter Try.func7, Try.ntmps7
    go_wp2_with (first
      | (go_at_call 18; (with_reducible_and_instances refine Calls.mono (gw_at (o1 _)) ?_); rintro e w1 ⟨rfl, q, rfl⟩)
      | (go_at_call 13; (with_reducible_and_instances refine Calls.mono (gw_at (example10_b _)) ?_); rintro e w1 ⟨rfl, q, rfl⟩))
    go_ret
    exact ⟨rfl, (by repeat (first | with_reducible exact Below.refl _ _ | with_reducible assumption | refine bgw ?_ (by first | (simp; done) | (simp; omega) | omega) _ | refine Below.setCell ?_ (by first | exact Nat.le_of_not_lt (by assumption) | (simp; done) | (simp; omega) | omega) _ | refine Below.alloc ?_ (by first | (simp; done) | (simp; omega) | omega) _ | refine Below.drew ?_))⟩
  cases h2 : outv bx b_y
  rotate_left
  focus
    rw [h1] at o1
    rw [h2] at o2
    clear h1 h2
    go_enter Try.func7, Try.ntmps7
    go_wp2_with (first
      | (go_at_call 18; (with_reducible_and_instances refine Calls.mono (gw_at (o1 _)) ?_); rintro e w1 ⟨rfl, q, rfl⟩)
      | (go_at_call 18; (with_reducible_and_instances refine Calls.mono (gw_at (o2 _)) ?_); rintro e w1 ⟨rfl, q, rfl⟩)
      | (go_at_call 13; (with_reducible_and_instances refine Calls.mono (gw_at (example10_b _)) ?_); rintro e w1 ⟨rfl, q, rfl⟩))
    go_ret
    exact ⟨rfl, (by repeat (first | with_reducible exact Below.refl _ _ | with_reducible assumption | refine bgw ?_ (by first | (simp; done) | (simp; omega) | omega) _ | refine Below.setCell ?_ (by first | exact Nat.le_of_not_lt (by assumption) | (simp; done) | (simp; omega) | omega) _ | refine Below.alloc ?_ (by first | (simp; done) | (simp; omega) | omega) _ | refine Below.drew ?_))⟩
  cases h3 : outv cx cy
  rotate_left
  focus
    rw [h1] at o1
    rw [h2] at o2
    rw [h3] at o3
    clear h1 h2 h3
    go_enter Try.func7, Try.ntmps7
    go_wp2_with (first
      | (go_at_call 18; (with_reducible_and_instances refine Calls.mono (gw_at (o1 _)) ?_); rintro e w1 ⟨rfl, q, rfl⟩)
      | (go_at_call 18; (with_reducible_and_instances refine Calls.mono (gw_at (o2 _)) ?_); rintro e w1 ⟨rfl, q, rfl⟩)
      | (go_at_call 18; (with_reducible_and_instances refine Calls.mono (gw_at (o3 _)) ?_); rintro e w1 ⟨rfl, q, rfl⟩)
      | (go_at_call 13; (with_reducible_and_instances refine Calls.mono (gw_at (example10_b _)) ?_); rintro e w1 ⟨rfl, q, rfl⟩))
    go_ret
    exact ⟨rfl, (by repeat (first | with_reducible exact Below.refl _ _ | with_reducible assumption | refine bgw ?_ (by first | (simp; done) | (simp; omega) | omega) _ | refine Below.setCell ?_ (by first | exact Nat.le_of_not_lt (by assumption) | (simp; done) | (simp; omega) | omega) _ | refine Below.alloc ?_ (by first | (simp; done) | (simp; omega) | omega) _ | refine Below.drew ?_))⟩
  cases h4 : outv dx dy
  rotate_left
  focus
    rw [h1] at o1
    rw [h2] at o2
    rw [h3] at o3
    rw [h4] at o4
    clear h1 h2 h3 h4
    go_enter Try.func7, Try.ntmps7
    go_wp2_with (first
      | (go_at_call 18; (with_reducible_and_instances refine Calls.mono (gw_at (o1 _)) ?_); rintro e w1 ⟨rfl, q, rfl⟩)
      | (go_at_call 18; (with_reducible_and_instances refine Calls.mono (gw_at (o2 _)) ?_); rintro e w1 ⟨rfl, q, rfl⟩)
      | (go_at_call 18; (with_reducible_and_instances refine Calls.mono (gw_at (o3 _)) ?_); rintro e w1 ⟨rfl, q, rfl⟩)
      | (go_at_call 18; (with_reducible_and_instances refine Calls.mono (gw_at (o4 _)) ?_); rintro e w1 ⟨rfl, q, rfl⟩)
      | (go_at_call 13; (with_reducible_and_instances refine Calls.mono (gw_at (example10_b _)) ?_); rintro e w1 ⟨rfl, q, rfl⟩))
    go_ret
    exact ⟨rfl, (by repeat (first | with_reducible exact Below.refl _ _ | with_reducible assumption | refine bgw ?_ (by first | (simp; done) | (simp; omega) | omega) _ | refine Below.setCell ?_ (by first | exact Nat.le_of_not_lt (by assumption) | (simp; done) | (simp; omega) | omega) _ | refine Below.alloc ?_ (by first | (simp; done) | (simp; omega) | omega) _ | refine Below.drew ?_))⟩
  rw [h1] at o1
  rw [h2] at o2
  rw [h3] at o3
  rw [h4] at o4
  obtain ⟨a0, a1⟩ := outv_in h1
  obtain ⟨b0, b1⟩ := outv_in h2
  obtain ⟨c0, c1⟩ := outv_in h3
  obtain ⟨d0, d1⟩ := outv_in h4
  have e1 := ends_ca a0 a1 b0 b1 c0 c1 d0 d1
  have e2 := ends_da a0 a1 b0 b1 c0 c1 d0 d1
  have e3 := ends_cb a0 a1 b0 b1 c0 c1 d0 d1
  have e4 := ends_db a0 a1 b0 b1 c0 c1 d0 d1
  clear h1 h2 h3 h4 a0 a1 b0 b1 c0 c1 d0 d1
  have k1 := fun w' => xsdist_b ax ay bx b_y cx cy dx dy w'
  obtain ⟨n0, n1⟩ := sdist_in ax ay bx b_y cx cy dx dy
  generalize sdist ax ay bx b_y cx cy dx dy = n at *
  go_enter Try.func7, Try.ntmps7
  go_wp2_with (first
    | (go_at_call 18; (with_reducible_and_instances refine Calls.mono (gw_at (o1 _)) ?_); rintro e w1 ⟨rfl, q, rfl⟩)
    | (go_at_call 18; (with_reducible_and_instances refine Calls.mono (gw_at (o2 _)) ?_); rintro e w1 ⟨rfl, q, rfl⟩)
    | (go_at_call 18; (with_reducible_and_instances refine Calls.mono (gw_at (o3 _)) ?_); rintro e w1 ⟨rfl, q, rfl⟩)
    | (go_at_call 18; (with_reducible_and_instances refine Calls.mono (gw_at (o4 _)) ?_); rintro e w1 ⟨rfl, q, rfl⟩)
    | (go_at_call 11; (with_reducible_and_instances refine Calls.mono (gw_at (k1 _)) ?_); rintro e w1 ⟨rfl, q, rfl⟩)
    | (go_at_call 20; refine Calls.mono (gw_at (vsub_b _ _ _ _ _)) ?_; rintro e w1 ⟨rfl, q, rfl⟩)
    | (go_at_call 19; refine Calls.mono (gw_at (vlen_b _ _ _)) ?_; rintro e w1 ⟨rfl, q, rfl⟩)
    | (go_at_call 13; (with_reducible_and_instances refine Calls.mono (gw_at (example10_b _)) ?_); rintro e w1 ⟨rfl, q, rfl⟩))
  go_ret
  exact ⟨rfl, (by repeat (first | with_reducible exact Below.refl _ _ | with_reducible assumption | refine bgw ?_ (by first | (simp; done) | (simp; omega) | omega) _ | refine Below.setCell ?_ (by first | exact Nat.le_of_not_lt (by assumption) | (simp; done) | (simp; omega) | omega) _ | refine Below.alloc ?_ (by first | (simp; done) | (simp; omega) | omega) _ | refine Below.drew ?_))⟩

end Go.Proofs.Ytconfbdnhalmoaa
