/- The contract of the chapter's examples: the function example of the statements returns true, and the world is as it was up to draws. No conditions. -/
import Derived.Test.YthjdpnggcomlaaaFixD
import Derived.Test.YthjdpnggcomlaaaFixE
import Derived.Test.YthjdpnggcomlaaaFixF
set_option linter.unusedVariables false
namespace Go.Proofs.Ythjdpnggcomlaaa
open Go.RowKit Fx

theorem ex_mul (w : World) : Calls Try.prog 15 #[.int .i64 98304, .int .i64 98304] w fun e w' => e = .returned (.int .i64 147456) ∧ Dr w w' := by
  have h : mul 98304 98304 = 147456 := by decide +kernel
  rw [← h]; exact mul_p _ _ _
theorem ex_div (w : World) : Calls Try.prog 17 #[.int .i64 65536, .int .i64 196608] w fun e w' => e = .returned (.int .i64 21845) ∧ Dr w w' := by
  have h : quo 65536 196608 = 21845 := by decide +kernel
  rw [← h]; exact div_p _ _ _
theorem ex_rd (w : World) : Calls Try.prog 22 #[.int .i64 (-3), .int .i64 2] w fun e w' => e = .returned (.int .i64 (-2)) ∧ Dr w w' := by
  have h : rdiv (-3) 2 = -2 := by decide +kernel
  rw [← h]; exact rd_p _ _ _
theorem ex_sqrt (w : World) : Calls Try.prog 27 #[.int .i64 131072] w fun e w' => e = .returned (.int .i64 92681) ∧ Dr w w' := by
  have h0 : sat 131072 = 131072 := by decide +kernel
  have h : isq (sat 131072 * 65536) = 92681 := by
    rw [h0]; exact isq_eq (by omega) (by omega) (by omega) (by omega) (by omega)
  rw [← h]; exact sqrt_p _ _
theorem ex_lerp (w : World) : Calls Try.prog 19 #[.int .i64 0, .int .i64 131072, .int .i64 32768] w fun e w' => e = .returned (.int .i64 65536) ∧ Dr w w' := by
  have h : lerp 0 131072 32768 = 65536 := by decide +kernel
  rw [← h]; exact lerp_p _ _ _ _
theorem ex_ratio (w : World) : Calls Try.prog 24 #[.int .i64 1, .int .i64 2] w fun e w' => e = .returned (.int .i64 32768) ∧ Dr w w' := by
  have h : ratio 1 2 = 32768 := by decide +kernel
  rw [← h]; exact rt_p _ _ _
theorem ex_sat (w : World) : Calls Try.prog 9 #[.int .i64 1099511627776] w fun e w' => e = .returned (.int .i64 536870911) ∧ Dr w w' := by
  have h : sat 1099511627776 = 536870911 := by decide +kernel
  rw [← h]; exact (sat_p _ _).mono fun e w' ⟨h1, h2⟩ => ⟨h1, Dr.of_eq h2⟩

theorem example_p (w : World) : Calls Try.prog 21 #[] w fun e w' => e = .returned (.bool true) ∧ Dr w w' := by
  go_enter Try.func21, Try.ntmps21
  go_wp2_with (first
    | (go_at_call 15; refine (ex_mul _).mono ?_; rintro e w1 ⟨rfl, hw1⟩)
    | (go_at_call 17; refine (ex_div _).mono ?_; rintro e w2 ⟨rfl, hw2⟩)
    | (go_at_call 22; refine (ex_rd _).mono ?_; rintro e w3 ⟨rfl, hw3⟩)
    | (go_at_call 27; refine (ex_sqrt _).mono ?_; rintro e w4 ⟨rfl, hw4⟩)
    | (go_at_call 19; refine (ex_lerp _).mono ?_; rintro e w5 ⟨rfl, hw5⟩)
    | (go_at_call 24; refine (ex_ratio _).mono ?_; rintro e w6 ⟨rfl, hw6⟩)
    | (go_at_call 9; refine (ex_sat _).mono ?_; rintro e w7 ⟨rfl, hw7⟩))
  go_ret
  exact ⟨rfl, by repeat (first | exact Dr.refl _ | assumption | refine Dr.trans ?_ (by assumption))⟩
end Go.Proofs.Ythjdpnggcomlaaa
