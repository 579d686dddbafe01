/- The contract of chapter 3's examples, and the walks of its statements: each returns true for every input, and nothing that existed has changed. No conditions. -/
import Derived.Test.YtlcijdfjnblmiaaFixV
import Derived.Test.YtlcijdfjnblmiaaVecL
import Derived.Test.YtlcijdfjnblmiaaOp
set_option linter.unusedVariables false
namespace Go.Proofs.Ytlcijdfjnblmiaa
open Go.RowKit Fx

theorem ex3l : vlen 196608 262144 = 327680 := by
  unfold vlen
  rw [show sat 196608 = 196608 from by decide +kernel, show sat 262144 = 262144 from by decide +kernel]
  exact isq_eq (by omega) (by omega) (by omega) (by omega) (by omega)
theorem ex3x : unit 196608 (vlen 196608 262144) = 39322 := by rw [ex3l]; decide +kernel
theorem ex3y : unit 262144 (vlen 196608 262144) = 52429 := by rw [ex3l]; decide +kernel
theorem ex3o : orient 0 0 1 0 0 1 = 1 := by decide +kernel

theorem ex3len_b (w : World) : Calls Try.prog 25 #[.agg #[.int .i64 196608, .int .i64 262144]] w fun e w' => e = .returned (.int .i64 327680) ∧ Below w.heap.size w w' := by
  have h := vlen_b 196608 262144 w
  rw [ex3l] at h; exact h

theorem ex3norm_b (w : World) : Calls Try.prog 27 #[.agg #[.int .i64 196608, .int .i64 262144]] w fun e w' => e = .returned (.agg #[.int .i64 39322, .int .i64 52429]) ∧ Below w.heap.size w w' := by
  have h := vnorm_b 196608 262144 w
  rw [ex3x, ex3y] at h; exact h

theorem ex3or_b (w : World) : Calls Try.prog 36 #[.agg #[.int .i64 0, .int .i64 0], .agg #[.int .i64 1, .int .i64 0], .agg #[.int .i64 0, .int .i64 1]] w fun e w' => e = .returned (.int .i64 1) ∧ Below w.heap.size w w' := by
  have h := orient_b 0 0 1 0 0 1 w
  rw [ex3o] at h; exact h

theorem example3_b (w : World) : Calls Try.prog 31 #[] w fun e w' => e = .returned (.bool true) ∧ Below w.heap.size w w' := by
  go_enter Try.func31, Try.ntmps31
  go_wp2_with (first
    | (go_at_call 25; refine (gw_at (ex3len_b _)).mono ?_; rintro e w1 ⟨rfl, q, rfl⟩)
    | (go_at_call 27; refine (gw_at (ex3norm_b _)).mono ?_; rintro e w1 ⟨rfl, q, rfl⟩)
    | (go_at_call 36; refine (gw_at (ex3or_b _)).mono ?_; rintro e w1 ⟨rfl, q, rfl⟩))
  go_ret
  exact ⟨rfl, (by repeat (first | with_reducible exact Below.refl _ _ | with_reducible assumption | refine bgw ?_ (by first | (simp; done) | (simp; omega) | omega) _ | refine Below.setCell ?_ (by first | exact Nat.le_of_not_lt (by assumption) | (simp; done) | (simp; omega) | omega) _ | refine Below.alloc ?_ (by first | (simp; done) | (simp; omega) | omega) _ | refine Below.drew ?_))⟩

theorem walk_Vec2Arithmetic (ax ay bx b_y k t : Int) (w : World) : Calls Try.prog 3 #[.agg #[.int .i64 ax, .int .i64 ay], .agg #[.int .i64 bx, .int .i64 b_y], .agg #[.int .i64 k, .int .i64 t]] w fun e w' => e = .returned (.bool true) ∧ Below w.heap.size w w' := by
  go_enter Try.func3, Try.ntmps3
  go_wp2_with (first | (go_at_call 9; refine (gw_at (vadd_b _ _ _ _ _)).mono ?_; rintro e w1 ⟨rfl, q, rfl⟩) | (go_at_call 10; refine (gw_at (rvadd_b _ _ _ _ _)).mono ?_; rintro e w1 ⟨rfl, q, rfl⟩) | (go_at_call 11; refine (gw_at (vsub_b _ _ _ _ _)).mono ?_; rintro e w1 ⟨rfl, q, rfl⟩) | (go_at_call 12; refine (gw_at (rvsub_b _ _ _ _ _)).mono ?_; rintro e w1 ⟨rfl, q, rfl⟩) | (go_at_call 13; refine (gw_at (vscale_b _ _ _ _)).mono ?_; rintro e w1 ⟨rfl, q, rfl⟩) | (go_at_call 14; refine (gw_at (rvscale_b _ _ _ _)).mono ?_; rintro e w1 ⟨rfl, q, rfl⟩) | (go_at_call 15; refine (gw_at (vperp_b _ _ _)).mono ?_; rintro e w1 ⟨rfl, q, rfl⟩) | (go_at_call 16; refine (gw_at (rvperp_b _ _ _)).mono ?_; rintro e w1 ⟨rfl, q, rfl⟩) | (go_at_call 17; refine (gw_at (vcs_b _ _ _ _)).mono ?_; rintro e w1 ⟨rfl, q, rfl⟩) | (go_at_call 18; refine (gw_at (rvcs_b _ _ _ _)).mono ?_; rintro e w1 ⟨rfl, q, rfl⟩) | (go_at_call 19; refine (gw_at (vlerp_b _ _ _ _ _ _)).mono ?_; rintro e w1 ⟨rfl, q, rfl⟩) | (go_at_call 20; refine (gw_at (rvlerp_b _ _ _ _ _ _)).mono ?_; rintro e w1 ⟨rfl, q, rfl⟩) | (go_at_call 21; refine (gw_at (dot_b _ _ _ _ _)).mono ?_; rintro e w1 ⟨rfl, q, rfl⟩) | (go_at_call 22; refine (gw_at (rdot_b _ _ _ _ _)).mono ?_; rintro e w1 ⟨rfl, q, rfl⟩) | (go_at_call 23; refine (gw_at (cross_b _ _ _ _ _)).mono ?_; rintro e w1 ⟨rfl, q, rfl⟩) | (go_at_call 24; refine (gw_at (rcross_b _ _ _ _ _)).mono ?_; rintro e w1 ⟨rfl, q, rfl⟩) | (go_at_call 25; refine (gw_at (vlen_b _ _ _)).mono ?_; rintro e w1 ⟨rfl, q, rfl⟩) | (go_at_call 26; refine (gw_at (rvlen_b _ _ _)).mono ?_; rintro e w1 ⟨rfl, q, rfl⟩) | (go_at_call 27; refine (gw_at (vnorm_b _ _ _)).mono ?_; rintro e w1 ⟨rfl, q, rfl⟩) | (go_at_call 28; refine (gw_at (rvnorm_b _ _ _)).mono ?_; rintro e w1 ⟨rfl, q, rfl⟩) | (go_at_call 29; refine (gw_at (dist2_b _ _ _ _ _)).mono ?_; rintro e w1 ⟨rfl, q, rfl⟩) | (go_at_call 30; refine (gw_at (rdist2_b _ _ _ _ _)).mono ?_; rintro e w1 ⟨rfl, q, rfl⟩) | (go_at_call 31; refine (gw_at (example3_b _)).mono ?_; rintro e w1 ⟨rfl, q, rfl⟩))
  repeat
    refine wp_region_gw (by kernel_rfl) (by kernel_rfl) ?_
    repeat (go_big_quiet_step ((first | (go_at_call 9; exact gw_call (vadd_b _ _ _ _ _)) | (go_at_call 10; exact gw_call (rvadd_b _ _ _ _ _)) | (go_at_call 11; exact gw_call (vsub_b _ _ _ _ _)) | (go_at_call 12; exact gw_call (rvsub_b _ _ _ _ _)) | (go_at_call 13; exact gw_call (vscale_b _ _ _ _)) | (go_at_call 14; exact gw_call (rvscale_b _ _ _ _)) | (go_at_call 15; exact gw_call (vperp_b _ _ _)) | (go_at_call 16; exact gw_call (rvperp_b _ _ _)) | (go_at_call 17; exact gw_call (vcs_b _ _ _ _)) | (go_at_call 18; exact gw_call (rvcs_b _ _ _ _)) | (go_at_call 19; exact gw_call (vlerp_b _ _ _ _ _ _)) | (go_at_call 20; exact gw_call (rvlerp_b _ _ _ _ _ _)) | (go_at_call 21; exact gw_call (dot_b _ _ _ _ _)) | (go_at_call 22; exact gw_call (rdot_b _ _ _ _ _)) | (go_at_call 23; exact gw_call (cross_b _ _ _ _ _)) | (go_at_call 24; exact gw_call (rcross_b _ _ _ _ _)) | (go_at_call 25; exact gw_call (vlen_b _ _ _)) | (go_at_call 26; exact gw_call (rvlen_b _ _ _)) | (go_at_call 27; exact gw_call (vnorm_b _ _ _)) | (go_at_call 28; exact gw_call (rvnorm_b _ _ _)) | (go_at_call 29; exact gw_call (dist2_b _ _ _ _ _)) | (go_at_call 30; exact gw_call (rdist2_b _ _ _ _ _)) | (go_at_call 31; exact gw_call (example3_b _)))))
    refine wpQuiet_nil ?_
    intro w1 hw1
    obtain ⟨q, rfl⟩ := hw1
    go_wp2_with (first | (go_at_call 9; refine (gw_at (vadd_b _ _ _ _ _)).mono ?_; rintro e w1 ⟨rfl, q, rfl⟩) | (go_at_call 10; refine (gw_at (rvadd_b _ _ _ _ _)).mono ?_; rintro e w1 ⟨rfl, q, rfl⟩) | (go_at_call 11; refine (gw_at (vsub_b _ _ _ _ _)).mono ?_; rintro e w1 ⟨rfl, q, rfl⟩) | (go_at_call 12; refine (gw_at (rvsub_b _ _ _ _ _)).mono ?_; rintro e w1 ⟨rfl, q, rfl⟩) | (go_at_call 13; refine (gw_at (vscale_b _ _ _ _)).mono ?_; rintro e w1 ⟨rfl, q, rfl⟩) | (go_at_call 14; refine (gw_at (rvscale_b _ _ _ _)).mono ?_; rintro e w1 ⟨rfl, q, rfl⟩) | (go_at_call 15; refine (gw_at (vperp_b _ _ _)).mono ?_; rintro e w1 ⟨rfl, q, rfl⟩) | (go_at_call 16; refine (gw_at (rvperp_b _ _ _)).mono ?_; rintro e w1 ⟨rfl, q, rfl⟩) | (go_at_call 17; refine (gw_at (vcs_b _ _ _ _)).mono ?_; rintro e w1 ⟨rfl, q, rfl⟩) | (go_at_call 18; refine (gw_at (rvcs_b _ _ _ _)).mono ?_; rintro e w1 ⟨rfl, q, rfl⟩) | (go_at_call 19; refine (gw_at (vlerp_b _ _ _ _ _ _)).mono ?_; rintro e w1 ⟨rfl, q, rfl⟩) | (go_at_call 20; refine (gw_at (rvlerp_b _ _ _ _ _ _)).mono ?_; rintro e w1 ⟨rfl, q, rfl⟩) | (go_at_call 21; refine (gw_at (dot_b _ _ _ _ _)).mono ?_; rintro e w1 ⟨rfl, q, rfl⟩) | (go_at_call 22; refine (gw_at (rdot_b _ _ _ _ _)).mono ?_; rintro e w1 ⟨rfl, q, rfl⟩) | (go_at_call 23; refine (gw_at (cross_b _ _ _ _ _)).mono ?_; rintro e w1 ⟨rfl, q, rfl⟩) | (go_at_call 24; refine (gw_at (rcross_b _ _ _ _ _)).mono ?_; rintro e w1 ⟨rfl, q, rfl⟩) | (go_at_call 25; refine (gw_at (vlen_b _ _ _)).mono ?_; rintro e w1 ⟨rfl, q, rfl⟩) | (go_at_call 26; refine (gw_at (rvlen_b _ _ _)).mono ?_; rintro e w1 ⟨rfl, q, rfl⟩) | (go_at_call 27; refine (gw_at (vnorm_b _ _ _)).mono ?_; rintro e w1 ⟨rfl, q, rfl⟩) | (go_at_call 28; refine (gw_at (rvnorm_b _ _ _)).mono ?_; rintro e w1 ⟨rfl, q, rfl⟩) | (go_at_call 29; refine (gw_at (dist2_b _ _ _ _ _)).mono ?_; rintro e w1 ⟨rfl, q, rfl⟩) | (go_at_call 30; refine (gw_at (rdist2_b _ _ _ _ _)).mono ?_; rintro e w1 ⟨rfl, q, rfl⟩) | (go_at_call 31; refine (gw_at (example3_b _)).mono ?_; rintro e w1 ⟨rfl, q, rfl⟩))
  go_ret
  exact ⟨rfl, (by repeat (first | with_reducible exact Below.refl _ _ | with_reducible assumption | refine bgw ?_ (by first | (simp; done) | (simp; omega) | omega) _ | refine Below.setCell ?_ (by first | exact Nat.le_of_not_lt (by assumption) | (simp; done) | (simp; omega) | omega) _ | refine Below.alloc ?_ (by first | (simp; done) | (simp; omega) | omega) _ | refine Below.drew ?_))⟩

theorem walk_Vec2Rotation (c s x y : Int) (w : World) : Calls Try.prog 4 #[.agg #[.int .i64 c, .int .i64 s], .agg #[.int .i64 x, .int .i64 y]] w fun e w' => e = .returned (.bool true) ∧ Below w.heap.size w w' := by
  go_enter Try.func4, Try.ntmps4
  go_wp2_with (first | (go_at_call 32; refine (gw_at (vrot_b _ _ _ _ _)).mono ?_; rintro e w1 ⟨rfl, q, rfl⟩) | (go_at_call 33; refine (gw_at (rvrot_b _ _ _ _ _)).mono ?_; rintro e w1 ⟨rfl, q, rfl⟩) | (go_at_call 34; refine (gw_at (virot_b _ _ _ _ _)).mono ?_; rintro e w1 ⟨rfl, q, rfl⟩) | (go_at_call 35; refine (gw_at (rvirot_b _ _ _ _ _)).mono ?_; rintro e w1 ⟨rfl, q, rfl⟩) | (go_at_call 31; refine (gw_at (example3_b _)).mono ?_; rintro e w1 ⟨rfl, q, rfl⟩))
  repeat
    refine wp_region_gw (by kernel_rfl) (by kernel_rfl) ?_
    repeat (go_big_quiet_step ((first | (go_at_call 32; exact gw_call (vrot_b _ _ _ _ _)) | (go_at_call 33; exact gw_call (rvrot_b _ _ _ _ _)) | (go_at_call 34; exact gw_call (virot_b _ _ _ _ _)) | (go_at_call 35; exact gw_call (rvirot_b _ _ _ _ _)) | (go_at_call 31; exact gw_call (example3_b _)))))
    refine wpQuiet_nil ?_
    intro w1 hw1
    obtain ⟨q, rfl⟩ := hw1
    go_wp2_with (first | (go_at_call 32; refine (gw_at (vrot_b _ _ _ _ _)).mono ?_; rintro e w1 ⟨rfl, q, rfl⟩) | (go_at_call 33; refine (gw_at (rvrot_b _ _ _ _ _)).mono ?_; rintro e w1 ⟨rfl, q, rfl⟩) | (go_at_call 34; refine (gw_at (virot_b _ _ _ _ _)).mono ?_; rintro e w1 ⟨rfl, q, rfl⟩) | (go_at_call 35; refine (gw_at (rvirot_b _ _ _ _ _)).mono ?_; rintro e w1 ⟨rfl, q, rfl⟩) | (go_at_call 31; refine (gw_at (example3_b _)).mono ?_; rintro e w1 ⟨rfl, q, rfl⟩))
  go_ret
  exact ⟨rfl, (by repeat (first | with_reducible exact Below.refl _ _ | with_reducible assumption | refine bgw ?_ (by first | (simp; done) | (simp; omega) | omega) _ | refine Below.setCell ?_ (by first | exact Nat.le_of_not_lt (by assumption) | (simp; done) | (simp; omega) | omega) _ | refine Below.alloc ?_ (by first | (simp; done) | (simp; omega) | omega) _ | refine Below.drew ?_))⟩

theorem walk_Vec2OrientationSign (ax ay bx b_y cx cy : Int) (w : World) : Calls Try.prog 5 #[.agg #[.int .i64 ax, .int .i64 ay], .agg #[.int .i64 bx, .int .i64 b_y], .agg #[.int .i64 cx, .int .i64 cy]] w fun e w' => e = .returned (.bool true) ∧ Below w.heap.size w w' := by
  have h1 := or_ge ax ay bx b_y cx cy
  have h2 := or_le ax ay bx b_y cx cy
  have e1 : (orient bx b_y ax ay cx cy == -orient ax ay bx b_y cx cy) = true := by rw [beq_iff_eq]; exact or_bac ..
  have e2 : (orient ax ay cx cy bx b_y == -orient ax ay bx b_y cx cy) = true := by rw [beq_iff_eq]; exact or_acb ..
  have e3 : (orient cx cy bx b_y ax ay == -orient ax ay bx b_y cx cy) = true := by rw [beq_iff_eq]; exact or_cba ..
  have e4 : (orient bx b_y cx cy ax ay == orient ax ay bx b_y cx cy) = true := by rw [beq_iff_eq]; exact or_bca ..
  go_enter Try.func5, Try.ntmps5
  go_wp2_with (first | (go_at_call 36; refine (gw_at (orient_b _ _ _ _ _ _ _)).mono ?_; rintro e w1 ⟨rfl, q, rfl⟩) | (go_at_call 37; refine (gw_at (rorient_b _ _ _ _ _ _ _)).mono ?_; rintro e w1 ⟨rfl, q, rfl⟩) | (go_at_call 31; refine (gw_at (example3_b _)).mono ?_; rintro e w1 ⟨rfl, q, rfl⟩))
  go_ret
  exact ⟨rfl, (by repeat (first | with_reducible exact Below.refl _ _ | with_reducible assumption | refine bgw ?_ (by first | (simp; done) | (simp; omega) | omega) _ | refine Below.setCell ?_ (by first | exact Nat.le_of_not_lt (by assumption) | (simp; done) | (simp; omega) | omega) _ | refine Below.alloc ?_ (by first | (simp; done) | (simp; omega) | omega) _ | refine Below.drew ?_))⟩

theorem walk_Vec2LengthBounds (x y : Int) (w : World) : Calls Try.prog 6 #[.agg #[.int .i64 x, .int .i64 y]] w fun e w' => e = .returned (.bool true) ∧ Below w.heap.size w w' := by
  obtain ⟨l0, l1, l2, l3⟩ := vlen_is x y
  have l4 := vlen_sum x y
  have s1 := sat_le x; have s2 := sat_ge x; have s3 := sat_le y; have s4 := sat_ge y
  have m1 := satmul x x; have m2 := satmul y y; have m3 := sq_nn (sat x); have m4 := sq_nn (sat y)
  have l5 := sq_nn (vlen x y)
  have l6 := mul_between (a := vlen x y + 1) (b := vlen x y + 1) (A := 1073741824) (B := 1073741824) (by omega) (by omega) (by omega) (by omega)
  by_cases hz : vlen x y = 0
  · have z1 : (vlen x y == 0) = true := by rw [beq_iff_eq]; exact hz
    have z2 : (unit x (vlen x y) == 0) = true := by rw [beq_iff_eq]; exact unit_zero hz
    have z3 : (unit y (vlen x y) == 0) = true := by rw [beq_iff_eq]; exact unit_zero hz
    clear hz
    go_enter Try.func6, Try.ntmps6
    go_wp2_with (first | (go_at_call 38; refine (gw_at (rsat_b _ _)).mono ?_; rintro e w1 ⟨rfl, q, rfl⟩) | (go_at_call 25; refine (gw_at (vlen_b _ _ _)).mono ?_; rintro e w1 ⟨rfl, q, rfl⟩) | (go_at_call 27; refine (gw_at (vnorm_b _ _ _)).mono ?_; rintro e w1 ⟨rfl, q, rfl⟩) | (go_at_call 31; refine (gw_at (example3_b _)).mono ?_; rintro e w1 ⟨rfl, q, rfl⟩))
    go_ret
    exact ⟨rfl, (by repeat (first | with_reducible exact Below.refl _ _ | with_reducible assumption | refine bgw ?_ (by first | (simp; done) | (simp; omega) | omega) _ | refine Below.setCell ?_ (by first | exact Nat.le_of_not_lt (by assumption) | (simp; done) | (simp; omega) | omega) _ | refine Below.alloc ?_ (by first | (simp; done) | (simp; omega) | omega) _ | refine Below.drew ?_))⟩
  · have z1 : (vlen x y == 0) = false := by rw [beq_eq_false_iff_ne]; exact hz
    have hu := unit_nz x y hz
    by_cases hx : unit x (vlen x y) = 0
    · have z2 : (unit x (vlen x y) == 0) = true := by rw [beq_iff_eq]; exact hx
      have z3 : (unit y (vlen x y) == 0) = false := by rw [beq_eq_false_iff_ne]; exact hu.resolve_left (fun h => h hx)
      clear hz hx hu
      go_enter Try.func6, Try.ntmps6
      go_wp2_with (first | (go_at_call 38; refine (gw_at (rsat_b _ _)).mono ?_; rintro e w1 ⟨rfl, q, rfl⟩) | (go_at_call 25; refine (gw_at (vlen_b _ _ _)).mono ?_; rintro e w1 ⟨rfl, q, rfl⟩) | (go_at_call 27; refine (gw_at (vnorm_b _ _ _)).mono ?_; rintro e w1 ⟨rfl, q, rfl⟩) | (go_at_call 31; refine (gw_at (example3_b _)).mono ?_; rintro e w1 ⟨rfl, q, rfl⟩))
      go_ret
      exact ⟨rfl, (by repeat (first | with_reducible exact Below.refl _ _ | with_reducible assumption | refine bgw ?_ (by first | (simp; done) | (simp; omega) | omega) _ | refine Below.setCell ?_ (by first | exact Nat.le_of_not_lt (by assumption) | (simp; done) | (simp; omega) | omega) _ | refine Below.alloc ?_ (by first | (simp; done) | (simp; omega) | omega) _ | refine Below.drew ?_))⟩
    · have z2 : (unit x (vlen x y) == 0) = false := by rw [beq_eq_false_iff_ne]; exact hx
      clear hz hx hu
      go_enter Try.func6, Try.ntmps6
      go_wp2_with (first | (go_at_call 38; refine (gw_at (rsat_b _ _)).mono ?_; rintro e w1 ⟨rfl, q, rfl⟩) | (go_at_call 25; refine (gw_at (vlen_b _ _ _)).mono ?_; rintro e w1 ⟨rfl, q, rfl⟩) | (go_at_call 27; refine (gw_at (vnorm_b _ _ _)).mono ?_; rintro e w1 ⟨rfl, q, rfl⟩) | (go_at_call 31; refine (gw_at (example3_b _)).mono ?_; rintro e w1 ⟨rfl, q, rfl⟩))
      go_ret
      exact ⟨rfl, (by repeat (first | with_reducible exact Below.refl _ _ | with_reducible assumption | refine bgw ?_ (by first | (simp; done) | (simp; omega) | omega) _ | refine Below.setCell ?_ (by first | exact Nat.le_of_not_lt (by assumption) | (simp; done) | (simp; omega) | omega) _ | refine Below.alloc ?_ (by first | (simp; done) | (simp; omega) | omega) _ | refine Below.drew ?_))⟩

theorem walk_Vec2Products (ax ay bx b_y : Int) (w : World) : Calls Try.prog 7 #[.agg #[.int .i64 ax, .int .i64 ay], .agg #[.int .i64 bx, .int .i64 b_y]] w fun e w' => e = .returned (.bool true) ∧ Below w.heap.size w w' := by
  have h1 := cross_ge bx b_y ax ay
  have h2 := cross_le bx b_y ax ay
  have e1 : (dot ax ay (-sat ay) (sat ax) == 0) = true := by rw [beq_iff_eq]; exact dot_perp ..
  have e2 : (cross ax ay ax ay == 0) = true := by rw [beq_iff_eq]; exact cross_self ..
  have e3 : (cross ax ay bx b_y == dot (-sat ay) (sat ax) bx b_y) = true := by rw [beq_iff_eq]; exact cross_dot ..
  have e4 : (cross ax ay bx b_y == -cross bx b_y ax ay) = true := by rw [beq_iff_eq]; exact cross_anti ..
  have e5 : (dot ax ay bx b_y == dot bx b_y ax ay) = true := by rw [beq_iff_eq]; exact dot_comm ..
  have e6 : (-sat (sat (-sat (sat ax))) == add ax 0) = true := by rw [beq_iff_eq]; exact perp4x ..
  have e7 : (sat (-sat (sat (-sat ay))) == add ay 0) = true := by rw [beq_iff_eq]; exact perp4y ..
  have e8 : (dist2 ax ay bx b_y == dist2 bx b_y ax ay) = true := by rw [beq_iff_eq]; exact dist2_comm ..
  go_enter Try.func7, Try.ntmps7
  go_wp2_with (first | (go_at_call 15; refine (gw_at (vperp_b _ _ _)).mono ?_; rintro e w1 ⟨rfl, q, rfl⟩) | (go_at_call 21; refine (gw_at (dot_b _ _ _ _ _)).mono ?_; rintro e w1 ⟨rfl, q, rfl⟩) | (go_at_call 23; refine (gw_at (cross_b _ _ _ _ _)).mono ?_; rintro e w1 ⟨rfl, q, rfl⟩) | (go_at_call 9; refine (gw_at (vadd_b _ _ _ _ _)).mono ?_; rintro e w1 ⟨rfl, q, rfl⟩) | (go_at_call 29; refine (gw_at (dist2_b _ _ _ _ _)).mono ?_; rintro e w1 ⟨rfl, q, rfl⟩) | (go_at_call 31; refine (gw_at (example3_b _)).mono ?_; rintro e w1 ⟨rfl, q, rfl⟩))
  repeat
    refine wp_region_gw (by kernel_rfl) (by kernel_rfl) ?_
    repeat (go_big_quiet_step ((first | (go_at_call 15; exact gw_call (vperp_b _ _ _)) | (go_at_call 21; exact gw_call (dot_b _ _ _ _ _)) | (go_at_call 23; exact gw_call (cross_b _ _ _ _ _)) | (go_at_call 9; exact gw_call (vadd_b _ _ _ _ _)) | (go_at_call 29; exact gw_call (dist2_b _ _ _ _ _)) | (go_at_call 31; exact gw_call (example3_b _)))))
    refine wpQuiet_nil ?_
    intro w1 hw1
    obtain ⟨q, rfl⟩ := hw1
    go_wp2_with (first | (go_at_call 15; refine (gw_at (vperp_b _ _ _)).mono ?_; rintro e w1 ⟨rfl, q, rfl⟩) | (go_at_call 21; refine (gw_at (dot_b _ _ _ _ _)).mono ?_; rintro e w1 ⟨rfl, q, rfl⟩) | (go_at_call 23; refine (gw_at (cross_b _ _ _ _ _)).mono ?_; rintro e w1 ⟨rfl, q, rfl⟩) | (go_at_call 9; refine (gw_at (vadd_b _ _ _ _ _)).mono ?_; rintro e w1 ⟨rfl, q, rfl⟩) | (go_at_call 29; refine (gw_at (dist2_b _ _ _ _ _)).mono ?_; rintro e w1 ⟨rfl, q, rfl⟩) | (go_at_call 31; refine (gw_at (example3_b _)).mono ?_; rintro e w1 ⟨rfl, q, rfl⟩))
  go_ret
  exact ⟨rfl, (by repeat (first | with_reducible exact Below.refl _ _ | with_reducible assumption | refine bgw ?_ (by first | (simp; done) | (simp; omega) | omega) _ | refine Below.setCell ?_ (by first | exact Nat.le_of_not_lt (by assumption) | (simp; done) | (simp; omega) | omega) _ | refine Below.alloc ?_ (by first | (simp; done) | (simp; omega) | omega) _ | refine Below.drew ?_))⟩

end Go.Proofs.Ytlcijdfjnblmiaa
