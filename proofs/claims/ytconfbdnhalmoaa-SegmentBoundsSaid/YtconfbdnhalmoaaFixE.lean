/- Contracts of Ratio and Clamp, of the program and of the reference: each returns the number that the Lean function of the same meaning gives, and leaves the world as it is up to draws. No conditions. -/
import Derived.Test.YtconfbdnhalmoaaFixC
import Derived.Test.YtconfbdnhalmoaaFy
set_option linter.unusedVariables false
namespace Go.Proofs.Ytconfbdnhalmoaa
open Go.RowKit Fx

theorem rt_high (n d : Int) (w : World) (h2 : d ≤ 4611686018427387904) (h3 : 1 ≤ n) (h : n < d) (h4 : 70368744177664 ≤ d) : Calls Try.prog 36 #[.int .i64 n, .int .i64 d] w fun e w' => e = .returned (.int .i64 (min 65536 (rdiv n (rdiv d 65536)))) ∧ Dr w w' := by
  go_enter Try.func36, Try.ntmps36
  go_wp2_with (first
    | (go_at_call 55; refine (rd_p _ _ _).mono ?_; rintro e w1 ⟨rfl, hw1⟩))
  all_goals (go_ret; exact ⟨ret_int (by omega), Dr.trans (by assumption) (by assumption)⟩)

theorem rt_low (n d : Int) (w : World) (h2 : d ≤ 4611686018427387904) (h3 : 1 ≤ n) (h : n < d) (h4 : d < 70368744177664) : Calls Try.prog 36 #[.int .i64 n, .int .i64 d] w fun e w' => e = .returned (.int .i64 (rdiv (n * 65536) d)) ∧ Dr w w' := by
  go_enter Try.func36, Try.ntmps36
  go_wp2_with (first
    | (go_at_call 55; refine (rd_p _ _ _).mono ?_; rintro e w1 ⟨rfl, hw1⟩))
  go_ret
  exact ⟨rfl, by assumption⟩

theorem rt_one (n d : Int) (w : World) (h1 : 1 ≤ d) (h2 : d ≤ 4611686018427387904) (h3 : 1 ≤ n) (h : d ≤ n) : Calls Try.prog 36 #[.int .i64 n, .int .i64 d] w fun e w' => e = .returned (.int .i64 65536) ∧ Dr w w' := by
  go_enter Try.func36, Try.ntmps36
  go_wp2_with fail
  go_ret
  exact ⟨rfl, Dr.refl _⟩

theorem rt_out (n d : Int) (w : World) (h : d < 1 ∨ 4611686018427387904 < d ∨ n < 1) : Calls Try.prog 36 #[.int .i64 n, .int .i64 d] w fun e w' => e = .returned (.int .i64 0) ∧ Dr w w' := by
  by_cases h1 : d < 1
  · clear h
    go_enter Try.func36, Try.ntmps36
    go_wp2_with fail
    go_ret
    exact ⟨rfl, Dr.refl _⟩
  · by_cases h2 : 4611686018427387904 < d
    · clear h
      go_enter Try.func36, Try.ntmps36
      go_wp2_with fail
      go_ret
      exact ⟨rfl, Dr.refl _⟩
    · have h3 : n < 1 := by omega
      clear h
      go_enter Try.func36, Try.ntmps36
      go_wp2_with fail
      go_ret
      exact ⟨rfl, Dr.refl _⟩

theorem rt_p (n d : Int) (w : World) : Calls Try.prog 36 #[.int .i64 n, .int .i64 d] w fun e w' => e = .returned (.int .i64 (ratio n d)) ∧ Dr w w' := by
  by_cases h : d < 1 ∨ 4611686018427387904 < d ∨ n < 1
  · rw [ratio_out h]; exact rt_out n d w h
  · by_cases h1 : d ≤ n
    · rw [ratio_one (by omega) (by omega) (by omega) h1]; exact rt_one n d w (by omega) (by omega) (by omega) h1
    · by_cases h4 : d < 70368744177664
      · rw [ratio_low (by omega) (by omega) (by omega) h4]; exact rt_low n d w (by omega) (by omega) (by omega) h4
      · rw [ratio_high (by omega) (by omega) (by omega) (by omega)]; exact rt_high n d w (by omega) (by omega) (by omega) (by omega)

theorem rrt_high (n d : Int) (w : World) (h2 : d ≤ 4611686018427387904) (h3 : 1 ≤ n) (h : n < d) (h4 : 70368744177664 ≤ d) : Calls Try.prog 30 #[.int .i64 n, .int .i64 d] w fun e w' => e = .returned (.int .i64 (min 65536 (rdiv n (rdiv d 65536)))) ∧ Dr w w' := by
  go_enter Try.func30, Try.ntmps30
  go_wp2_with (first
    | (go_at_call 51; refine (rrd_p _ _ _).mono ?_; rintro e w1 ⟨rfl, hw1⟩)
    | (go_at_call 50; refine (oor_no _ _ (by omega) (by omega)).mono ?_; rintro e w' ⟨rfl, rfl⟩))
  all_goals (go_ret; exact ⟨ret_int (by omega), Dr.trans (by assumption) (by assumption)⟩)

theorem rrt_low (n d : Int) (w : World) (h2 : d ≤ 4611686018427387904) (h3 : 1 ≤ n) (h : n < d) (h4 : d < 70368744177664) : Calls Try.prog 30 #[.int .i64 n, .int .i64 d] w fun e w' => e = .returned (.int .i64 (rdiv (n * 65536) d)) ∧ Dr w w' := by
  go_enter Try.func30, Try.ntmps30
  go_wp2_with (first
    | (go_at_call 51; refine (rrd_p _ _ _).mono ?_; rintro e w1 ⟨rfl, hw1⟩)
    | (go_at_call 50; refine (oor_no _ _ (by omega) (by omega)).mono ?_; rintro e w' ⟨rfl, rfl⟩))
  go_ret
  exact ⟨rfl, by assumption⟩

theorem rrt_one (n d : Int) (w : World) (h1 : 1 ≤ d) (h2 : d ≤ 4611686018427387904) (h3 : 1 ≤ n) (h : d ≤ n) : Calls Try.prog 30 #[.int .i64 n, .int .i64 d] w fun e w' => e = .returned (.int .i64 65536) ∧ Dr w w' := by
  go_enter Try.func30, Try.ntmps30
  go_wp2_with (go_at_call 50; refine (oor_no _ _ (by omega) (by omega)).mono ?_; rintro e w' ⟨rfl, rfl⟩)
  go_ret
  exact ⟨rfl, Dr.refl _⟩

theorem rrt_out (n d : Int) (w : World) (h : d < 1 ∨ 4611686018427387904 < d ∨ n < 1) : Calls Try.prog 30 #[.int .i64 n, .int .i64 d] w fun e w' => e = .returned (.int .i64 0) ∧ Dr w w' := by
  by_cases h1 : d < 1
  · clear h
    go_enter Try.func30, Try.ntmps30
    go_wp2_with fail
    go_ret
    exact ⟨rfl, Dr.refl _⟩
  · by_cases h2 : 4611686018427387904 < d
    · clear h
      go_enter Try.func30, Try.ntmps30
      go_wp2_with (go_at_call 50; refine (oor_yes _ _ (by omega)).mono ?_; rintro e w' ⟨rfl, rfl⟩)
      go_ret
      exact ⟨rfl, Dr.refl _⟩
    · have h3 : n < 1 := by omega
      clear h
      go_enter Try.func30, Try.ntmps30
      go_wp2_with (go_at_call 50; refine (oor_no _ _ (by omega) (by omega)).mono ?_; rintro e w' ⟨rfl, rfl⟩)
      go_ret
      exact ⟨rfl, Dr.refl _⟩

theorem rrt_p (n d : Int) (w : World) : Calls Try.prog 30 #[.int .i64 n, .int .i64 d] w fun e w' => e = .returned (.int .i64 (ratio n d)) ∧ Dr w w' := by
  by_cases h : d < 1 ∨ 4611686018427387904 < d ∨ n < 1
  · rw [ratio_out h]; exact rrt_out n d w h
  · by_cases h1 : d ≤ n
    · rw [ratio_one (by omega) (by omega) (by omega) h1]; exact rrt_one n d w (by omega) (by omega) (by omega) h1
    · by_cases h4 : d < 70368744177664
      · rw [ratio_low (by omega) (by omega) (by omega) h4]; exact rrt_low n d w (by omega) (by omega) (by omega) h4
      · rw [ratio_high (by omega) (by omega) (by omega) (by omega)]; exact rrt_high n d w (by omega) (by omega) (by omega) (by omega)

end Go.Proofs.Ytconfbdnhalmoaa
