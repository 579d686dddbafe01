/- Contracts of Saturate, Add, Sub, outOfRange, divByZero and Clamp, of the program and of the reference: each returns the number that the Lean function of the same meaning gives, and leaves the world as it is. No conditions. -/
import Derived.Test.YtfjjhcplbbjehaaChecked
import Derived.Test.YtfjjhcplbbjehaaFx
import Derived.WalkKit
namespace Go.Proofs.Ytfjjhcplbbjehaa
open Go.RowKit Fx

theorem ret_int {k : IntKind} {a b : Int} (h : a = b) : Ending.returned (.int k a) = .returned (.int k b) := by rw [h]
theorem ret_bool {a b : Bool} (h : a = b) : Ending.returned (.bool a) = .returned (.bool b) := by rw [h]

theorem sat_p (a : Int) (w : World) : Calls Try.prog 67 #[.int .i64 a] w fun e w' => e = .returned (.int .i64 (sat a)) ∧ w = w' := by
  by_cases h : 536870911 < a
  · go_enter Try.func67, Try.ntmps67
    go_wp2
    go_ret
    exact ⟨ret_int (sat_hi h).symm, rfl⟩
  · by_cases h2 : a < -536870911
    · go_enter Try.func67, Try.ntmps67
      go_wp2
      go_ret
      exact ⟨ret_int (sat_lo h2).symm, rfl⟩
    · go_enter Try.func67, Try.ntmps67
      go_wp2
      go_ret
      exact ⟨ret_int (sat_id (by omega) (by omega)).symm, rfl⟩

theorem rsat_p (a : Int) (w : World) : Calls Try.prog 56 #[.int .i64 a] w fun e w' => e = .returned (.int .i64 (sat a)) ∧ w = w' := by
  by_cases h : 536870911 < a
  · go_enter Try.func56, Try.ntmps56
    go_wp2
    go_ret
    exact ⟨ret_int (sat_hi h).symm, rfl⟩
  · by_cases h2 : a < -536870911
    · go_enter Try.func56, Try.ntmps56
      go_wp2
      go_ret
      exact ⟨ret_int (sat_lo h2).symm, rfl⟩
    · go_enter Try.func56, Try.ntmps56
      go_wp2
      go_ret
      exact ⟨ret_int (sat_id (by omega) (by omega)).symm, rfl⟩

theorem add_p (a b : Int) (w : World) : Calls Try.prog 46 #[.int .i64 a, .int .i64 b] w fun e w' => e = .returned (.int .i64 (add a b)) ∧ w = w' := by
  have h1 := sat_le a; have h2 := sat_ge a; have h3 := sat_le b; have h4 := sat_ge b
  go_enter Try.func46, Try.ntmps46
  go_wp2_with (go_at_call 67; refine (sat_p _ _).mono ?_; rintro e w' ⟨rfl, rfl⟩)
  go_ret
  exact ⟨rfl, rfl⟩

theorem radd_p (a b : Int) (w : World) : Calls Try.prog 55 #[.int .i64 a, .int .i64 b] w fun e w' => e = .returned (.int .i64 (add a b)) ∧ w = w' := by
  have h1 := sat_le a; have h2 := sat_ge a; have h3 := sat_le b; have h4 := sat_ge b
  go_enter Try.func55, Try.ntmps55
  go_wp2_with (go_at_call 56; refine (rsat_p _ _).mono ?_; rintro e w' ⟨rfl, rfl⟩)
  go_ret
  exact ⟨rfl, rfl⟩

theorem sub_p (a b : Int) (w : World) : Calls Try.prog 47 #[.int .i64 a, .int .i64 b] w fun e w' => e = .returned (.int .i64 (sub a b)) ∧ w = w' := by
  have h1 := sat_le a; have h2 := sat_ge a; have h3 := sat_le b; have h4 := sat_ge b
  go_enter Try.func47, Try.ntmps47
  go_wp2_with (go_at_call 67; refine (sat_p _ _).mono ?_; rintro e w' ⟨rfl, rfl⟩)
  go_ret
  exact ⟨rfl, rfl⟩

theorem rsub_p (a b : Int) (w : World) : Calls Try.prog 63 #[.int .i64 a, .int .i64 b] w fun e w' => e = .returned (.int .i64 (sub a b)) ∧ w = w' := by
  have h1 := sat_le a; have h2 := sat_ge a; have h3 := sat_le b; have h4 := sat_ge b
  go_enter Try.func63, Try.ntmps63
  go_wp2_with (go_at_call 56; refine (rsat_p _ _).mono ?_; rintro e w' ⟨rfl, rfl⟩)
  go_ret
  exact ⟨rfl, rfl⟩

end Go.Proofs.Ytfjjhcplbbjehaa
