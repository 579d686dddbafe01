/- The walks of the statements of chapter 1: each returns true for every input, and the world has at most new blocks. No conditions. -/
import Derived.Test.YthjdpnggcomlaaaFixG
import Derived.Test.YthjdpnggcomlaaaFz
set_option linter.unusedVariables false
namespace Go.Proofs.Ythjdpnggcomlaaa
open Go.RowKit Fx

theorem walk_FixedArithmetic (a b t : Int) (w : World) : Calls Try.prog 3 #[.int .i64 a, .int .i64 b, .int .i64 t] w fun e w' => e = .returned (.bool true) ∧ Grown w w' := by
  go_enter Try.func3, Try.ntmps3
  go_wp2_with (first
    | (go_at_call 9; refine (sat_p _ _).mono ?_; rintro e w' ⟨rfl, rfl⟩)
    | (go_at_call 10; refine (rsat_p _ _).mono ?_; rintro e w' ⟨rfl, rfl⟩)
    | (go_at_call 11; refine (add_p _ _ _).mono ?_; rintro e w' ⟨rfl, rfl⟩)
    | (go_at_call 12; refine (radd_p _ _ _).mono ?_; rintro e w' ⟨rfl, rfl⟩)
    | (go_at_call 13; refine (sub_p _ _ _).mono ?_; rintro e w' ⟨rfl, rfl⟩)
    | (go_at_call 14; refine (rsub_p _ _ _).mono ?_; rintro e w' ⟨rfl, rfl⟩)
    | (go_at_call 15; refine (mul_p _ _ _).mono ?_; rintro e w1 ⟨rfl, hw1⟩)
    | (go_at_call 16; refine (rmul_p _ _ _).mono ?_; rintro e w2 ⟨rfl, hw2⟩)
    | (go_at_call 17; refine (div_p _ _ _).mono ?_; rintro e w3 ⟨rfl, hw3⟩)
    | (go_at_call 18; refine (rdiv_p _ _ _).mono ?_; rintro e w4 ⟨rfl, hw4⟩)
    | (go_at_call 19; refine (lerp_p _ _ _ _).mono ?_; rintro e w5 ⟨rfl, hw5⟩)
    | (go_at_call 20; refine (rlerp_p _ _ _ _).mono ?_; rintro e w6 ⟨rfl, hw6⟩)
    | (go_at_call 21; refine (example_p _).mono ?_; rintro e w7 ⟨rfl, hw7⟩))
  go_ret
  exact ⟨rfl, Dr.grown (by repeat (first | exact Dr.refl _ | assumption | refine Dr.trans ?_ (by assumption)))⟩

theorem walk_FixedRoundDivRatio (n d : Int) (w : World) : Calls Try.prog 4 #[.int .i64 n, .int .i64 d] w fun e w' => e = .returned (.bool true) ∧ Grown w w' := by
  go_enter Try.func4, Try.ntmps4
  go_wp2_with (first
    | (go_at_call 22; refine (rd_p _ _ _).mono ?_; rintro e w1 ⟨rfl, hw1⟩)
    | (go_at_call 23; refine (rrd_p _ _ _).mono ?_; rintro e w2 ⟨rfl, hw2⟩)
    | (go_at_call 24; refine (rt_p _ _ _).mono ?_; rintro e w3 ⟨rfl, hw3⟩)
    | (go_at_call 25; refine (rrt_p _ _ _).mono ?_; rintro e w4 ⟨rfl, hw4⟩)
    | (go_at_call 21; refine (example_p _).mono ?_; rintro e w7 ⟨rfl, hw7⟩))
  go_ret
  exact ⟨rfl, Dr.grown (by repeat (first | exact Dr.refl _ | assumption | refine Dr.trans ?_ (by assumption)))⟩
end Go.Proofs.Ythjdpnggcomlaaa
