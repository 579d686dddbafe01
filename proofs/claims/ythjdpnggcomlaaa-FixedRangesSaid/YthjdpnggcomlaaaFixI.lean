/- The walks of FixedIdentities and FixedRanges: each returns true for every input, and the world has at most new blocks. No conditions. -/
import Derived.Test.YthjdpnggcomlaaaFixG
import Derived.Test.YthjdpnggcomlaaaFz
set_option linter.unusedVariables false
namespace Go.Proofs.Ythjdpnggcomlaaa
open Go.RowKit Fx

theorem walk_FixedIdentities (a b : Int) (w : World) : Calls Try.prog 7 #[.int .i64 a, .int .i64 b] w fun e w' => e = .returned (.bool true) ∧ Grown w w' := by
  have h1 : (add a b == add b a) = true := by rw [beq_iff_eq]; exact Fx.add_comm a b
  have h2 : (mul a b == mul b a) = true := by rw [beq_iff_eq]; exact Fx.mul_comm a b
  have h3 : (mul a 65536 == sat a) = true := by rw [beq_iff_eq]; exact Fx.mul_one a
  have h4 : (quo a 65536 == sat a) = true := by rw [beq_iff_eq]; exact quo_one a
  have h5 : (add a 0 == sat a) = true := by rw [beq_iff_eq]; exact Fx.add_zero a
  have h6 : (sub a b == -sub b a) = true := by rw [beq_iff_eq]; exact sub_anti a b
  have h7 : (mul a 0 == 0) = true := by rw [beq_iff_eq]; exact Fx.mul_zero a
  have h8 : (lerp a b 0 == sat a) = true := by rw [beq_iff_eq]; exact lerp_zero a b
  have b1 : -536870911 ≤ sub b a := by unfold sub; exact sat_ge _
  have b2 : sub b a ≤ 536870911 := by unfold sub; exact sat_le _
  go_enter Try.func7, Try.ntmps7
  go_wp2_with (first
    | (go_at_call 9; refine (sat_p _ _).mono ?_; rintro e w' ⟨rfl, rfl⟩)
    | (go_at_call 11; refine (add_p _ _ _).mono ?_; rintro e w' ⟨rfl, rfl⟩)
    | (go_at_call 13; refine (sub_p _ _ _).mono ?_; rintro e w' ⟨rfl, rfl⟩)
    | (go_at_call 15; refine (mul_p _ _ _).mono ?_; rintro e w1 ⟨rfl, hw1⟩)
    | (go_at_call 17; refine (div_p _ _ _).mono ?_; rintro e w3 ⟨rfl, hw3⟩)
    | (go_at_call 19; refine (lerp_p _ _ _ _).mono ?_; rintro e w5 ⟨rfl, hw5⟩)
    | (go_at_call 21; refine (example_p _).mono ?_; rintro e w7 ⟨rfl, hw7⟩))
  go_ret
  exact ⟨rfl, Dr.grown (by repeat (first | exact Dr.refl _ | assumption | refine Dr.trans ?_ (by assumption)))⟩

theorem walk_FixedRanges (x low high : Int) (w : World) : Calls Try.prog 8 #[.int .i64 x, .int .i64 low, .int .i64 high] w fun e w' => e = .returned (.bool true) ∧ Grown w w' := by
  have c1 := clamp_ge x low high
  have c2 := clamp_le x low high
  have m1 : -536870911 ≤ lerp x low high := by rw [← lerp_sat]; exact sat_ge _
  have m2 : lerp x low high ≤ 536870911 := by rw [← lerp_sat]; exact sat_le _
  have m3 : (sat (lerp x low high) == lerp x low high) = true := by rw [beq_iff_eq]; exact lerp_sat _ _ _
  have m4 : (sat (quo x low) == quo x low) = true := by rw [beq_iff_eq]; exact quo_sat _ _
  by_cases hc : clamp x low high ≤ high
  · clear c2
    go_enter Try.func8, Try.ntmps8
    go_wp2_with (first
      | (go_at_call 9; refine (sat_p _ _).mono ?_; rintro e w' ⟨rfl, rfl⟩)
      | (go_at_call 29; refine (clamp_p _ _ _ _).mono ?_; rintro e w' ⟨rfl, rfl⟩)
      | (go_at_call 30; refine (rclamp_p _ _ _ _).mono ?_; rintro e w' ⟨rfl, rfl⟩)
      | (go_at_call 17; refine (div_p _ _ _).mono ?_; rintro e w3 ⟨rfl, hw3⟩)
      | (go_at_call 19; refine (lerp_p _ _ _ _).mono ?_; rintro e w5 ⟨rfl, hw5⟩)
      | (go_at_call 21; refine (example_p _).mono ?_; rintro e w7 ⟨rfl, hw7⟩))
    go_ret
    exact ⟨rfl, Dr.grown (by repeat (first | exact Dr.refl _ | assumption | refine Dr.trans ?_ (by assumption)))⟩
  · have hl : high < low := by omega
    clear c2
    go_enter Try.func8, Try.ntmps8
    go_wp2_with (first
      | (go_at_call 9; refine (sat_p _ _).mono ?_; rintro e w' ⟨rfl, rfl⟩)
      | (go_at_call 29; refine (clamp_p _ _ _ _).mono ?_; rintro e w' ⟨rfl, rfl⟩)
      | (go_at_call 30; refine (rclamp_p _ _ _ _).mono ?_; rintro e w' ⟨rfl, rfl⟩)
      | (go_at_call 17; refine (div_p _ _ _).mono ?_; rintro e w3 ⟨rfl, hw3⟩)
      | (go_at_call 19; refine (lerp_p _ _ _ _).mono ?_; rintro e w5 ⟨rfl, hw5⟩)
      | (go_at_call 21; refine (example_p _).mono ?_; rintro e w7 ⟨rfl, hw7⟩))
    go_ret
    exact ⟨rfl, Dr.grown (by repeat (first | exact Dr.refl _ | assumption | refine Dr.trans ?_ (by assumption)))⟩
end Go.Proofs.Ythjdpnggcomlaaa
