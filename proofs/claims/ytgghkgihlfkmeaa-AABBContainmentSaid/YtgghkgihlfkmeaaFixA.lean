/- Contracts of Saturate, Add, Sub, outOfRange, divByZero and Clamp, of the program and of the reference: each returns the number that the Lean function of the same meaning gives, and leaves the world as it is. No conditions. -/
import Derived.Test.YtgghkgihlfkmeaaChecked
import Derived.Test.YtgghkgihlfkmeaaFx
import Derived.WalkKit
namespace Go.Proofs.Ytgghkgihlfkmeaa
open Go.RowKit Fx

theorem ret_int {k : IntKind} {a b : Int} (h : a = b) : Ending.returned (.int k a) = .returned (.int k b) := by rw [h]
theorem ret_bool {a b : Bool} (h : a = b) : Ending.returned (.bool a) = .returned (.bool b) := by rw [h]

theorem sat_p (a : Int) (w : World) : Calls Try.prog 39 #[.int .i64 a] w fun e w' => e = .returned (.int .i64 (sat a)) ∧ w = w' := by
  by_cases h : 536870911 < a
  · go_enter Try.func39, Try.ntmps39
    go_wp2
    go_ret
    exact ⟨ret_int (sat_hi h).symm, rfl⟩
  · by_cases h2 : a < -536870911
    · go_enter Try.func39, Try.ntmps39
      go_wp2
      go_ret
      exact ⟨ret_int (sat_lo h2).symm, rfl⟩
    · go_enter Try.func39, Try.ntmps39
      go_wp2
      go_ret
      exact ⟨ret_int (sat_id (by omega) (by omega)).symm, rfl⟩

theorem rsat_p (a : Int) (w : World) : Calls Try.prog 40 #[.int .i64 a] w fun e w' => e = .returned (.int .i64 (sat a)) ∧ w = w' := by
  by_cases h : 536870911 < a
  · go_enter Try.func40, Try.ntmps40
    go_wp2
    go_ret
    exact ⟨ret_int (sat_hi h).symm, rfl⟩
  · by_cases h2 : a < -536870911
    · go_enter Try.func40, Try.ntmps40
      go_wp2
      go_ret
      exact ⟨ret_int (sat_lo h2).symm, rfl⟩
    · go_enter Try.func40, Try.ntmps40
      go_wp2
      go_ret
      exact ⟨ret_int (sat_id (by omega) (by omega)).symm, rfl⟩

theorem add_p (a b : Int) (w : World) : Calls Try.prog 36 #[.int .i64 a, .int .i64 b] w fun e w' => e = .returned (.int .i64 (add a b)) ∧ w = w' := by
  have h1 := sat_le a; have h2 := sat_ge a; have h3 := sat_le b; have h4 := sat_ge b
  go_enter Try.func36, Try.ntmps36
  go_wp2_with (go_at_call 39; refine (sat_p _ _).mono ?_; rintro e w' ⟨rfl, rfl⟩)
  go_ret
  exact ⟨rfl, rfl⟩

theorem radd_p (a b : Int) (w : World) : Calls Try.prog 35 #[.int .i64 a, .int .i64 b] w fun e w' => e = .returned (.int .i64 (add a b)) ∧ w = w' := by
  have h1 := sat_le a; have h2 := sat_ge a; have h3 := sat_le b; have h4 := sat_ge b
  go_enter Try.func35, Try.ntmps35
  go_wp2_with (go_at_call 40; refine (rsat_p _ _).mono ?_; rintro e w' ⟨rfl, rfl⟩)
  go_ret
  exact ⟨rfl, rfl⟩

theorem sub_p (a b : Int) (w : World) : Calls Try.prog 41 #[.int .i64 a, .int .i64 b] w fun e w' => e = .returned (.int .i64 (sub a b)) ∧ w = w' := by
  have h1 := sat_le a; have h2 := sat_ge a; have h3 := sat_le b; have h4 := sat_ge b
  go_enter Try.func41, Try.ntmps41
  go_wp2_with (go_at_call 39; refine (sat_p _ _).mono ?_; rintro e w' ⟨rfl, rfl⟩)
  go_ret
  exact ⟨rfl, rfl⟩

theorem rsub_p (a b : Int) (w : World) : Calls Try.prog 34 #[.int .i64 a, .int .i64 b] w fun e w' => e = .returned (.int .i64 (sub a b)) ∧ w = w' := by
  have h1 := sat_le a; have h2 := sat_ge a; have h3 := sat_le b; have h4 := sat_ge b
  go_enter Try.func34, Try.ntmps34
  go_wp2_with (go_at_call 40; refine (rsat_p _ _).mono ?_; rintro e w' ⟨rfl, rfl⟩)
  go_ret
  exact ⟨rfl, rfl⟩

end Go.Proofs.Ytgghkgihlfkmeaa
