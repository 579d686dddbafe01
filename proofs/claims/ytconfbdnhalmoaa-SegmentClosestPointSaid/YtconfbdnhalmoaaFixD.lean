/- Contracts of Mul, Div, Lerp, divByZero and Clamp, of the program and of the reference: each returns the number that the Lean function of the same meaning gives, and leaves the world as it is up to draws. No conditions. -/
import Derived.Test.YtconfbdnhalmoaaFixC
import Derived.Test.YtconfbdnhalmoaaFy
set_option linter.unusedVariables false
namespace Go.Proofs.Ytconfbdnhalmoaa
open Go.RowKit Fx

theorem mul_p (a b : Int) (w : World) : Calls Try.prog 66 #[.int .i64 a, .int .i64 b] w fun e w' => e = .returned (.int .i64 (mul a b)) ∧ Dr w w' := by
  have h1 := satmul a b
  go_enter Try.func66, Try.ntmps66
  go_wp2_with (first
    | (go_at_call 22; refine (sat_p _ _).mono ?_; rintro e w' ⟨rfl, rfl⟩)
    | (go_at_call 55; refine (rd_p _ _ _).mono ?_; rintro e w1 ⟨rfl, hw1⟩))
  go_ret
  exact ⟨rfl, by assumption⟩

theorem rmul_p (a b : Int) (w : World) : Calls Try.prog 63 #[.int .i64 a, .int .i64 b] w fun e w' => e = .returned (.int .i64 (mul a b)) ∧ Dr w w' := by
  have h1 := satmul a b
  go_enter Try.func63, Try.ntmps63
  go_wp2_with (first
    | (go_at_call 34; refine (rsat_p _ _).mono ?_; rintro e w' ⟨rfl, rfl⟩)
    | (go_at_call 51; refine (rrd_p _ _ _).mono ?_; rintro e w1 ⟨rfl, hw1⟩))
  go_ret
  exact ⟨rfl, by assumption⟩

theorem lerp_p (a b t : Int) (w : World) : Calls Try.prog 56 #[.int .i64 a, .int .i64 b, .int .i64 t] w fun e w' => e = .returned (.int .i64 (lerp a b t)) ∧ Dr w w' := by
  go_enter Try.func56, Try.ntmps56
  go_wp2_with (first
    | (go_at_call 44; refine (sub_p _ _ _).mono ?_; rintro e w' ⟨rfl, rfl⟩)
    | (go_at_call 65; refine (add_p _ _ _).mono ?_; rintro e w' ⟨rfl, rfl⟩)
    | (go_at_call 66; refine (mul_p _ _ _).mono ?_; rintro e w1 ⟨rfl, hw1⟩))
  go_ret
  exact ⟨rfl, by assumption⟩

theorem rlerp_p (a b t : Int) (w : World) : Calls Try.prog 49 #[.int .i64 a, .int .i64 b, .int .i64 t] w fun e w' => e = .returned (.int .i64 (lerp a b t)) ∧ Dr w w' := by
  go_enter Try.func49, Try.ntmps49
  go_wp2_with (first
    | (go_at_call 64; refine (rsub_p _ _ _).mono ?_; rintro e w' ⟨rfl, rfl⟩)
    | (go_at_call 62; refine (radd_p _ _ _).mono ?_; rintro e w' ⟨rfl, rfl⟩)
    | (go_at_call 63; refine (rmul_p _ _ _).mono ?_; rintro e w1 ⟨rfl, hw1⟩))
  go_ret
  exact ⟨rfl, by assumption⟩

end Go.Proofs.Ytconfbdnhalmoaa
