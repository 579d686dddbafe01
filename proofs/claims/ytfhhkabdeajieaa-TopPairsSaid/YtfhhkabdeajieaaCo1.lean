/- Contracts of Saturate, Add, Sub, outOfRange, divByZero and Clamp, of the program and of the reference: each returns the number that the Lean function of the same meaning gives, and leaves the world as it is. No conditions.
Contracts of RoundDiv, of the program and of the reference: each returns rdiv n d, whatever n and d are, and leaves the world as it is up to draws. No conditions.
Contracts of the reference's outOfRange and RoundDiv: RoundDiv returns rdiv n d, whatever n and d are, and leaves the world as it is up to draws. No conditions.
Contracts of Mul, Div, Lerp, divByZero and Clamp, of the program and of the reference: each returns the number that the Lean function of the same meaning gives, and leaves the world as it is up to draws. No conditions.
The contract of math/bits.Len64 in this program: it returns the number of bits of x, and the world is as it was. The shelf's theorem, applied to this program's numbers.
Contracts of Ratio and Clamp, of the program and of the reference: each returns the number that the Lean function of the same meaning gives, and leaves the world as it is up to draws. No conditions.
Contracts of Isqrt and Sqrt, of the program and of the reference: each returns the integer square root isq (0 outside its range), and leaves the world as it is up to draws. No conditions. -/
import Derived.Test.YtfhhkabdeajieaaChecked
import Derived.Test.YtfhhkabdeajieaaMa1
import Derived.WalkKit
import Derived.Deep.QuietTactic
import Derived.BigQuiet
import Derived.Lib.Hide
import Derived.Shelf.Strconv.Itoa0
import Derived.KernelRfl

namespace Go.Proofs.Ytfhhkabdeajieaa
open Go.RowKit Fx

theorem ret_int {k : IntKind} {a b : Int} (h : a = b) : Ending.returned (.int k a) = .returned (.int k b) := by rw [h]
theorem ret_bool {a b : Bool} (h : a = b) : Ending.returned (.bool a) = .returned (.bool b) := by rw [h]

theorem sat_p (a : Int) (w : World) : Calls Try.prog 128 #[.int .i64 a] w fun e w' => e = .returned (.int .i64 (sat a)) ∧ w = w' := by
  by_cases h : 536870911 < a
  · go_enter Try.func128, Try.ntmps128
    go_wp2
    go_ret
    exact ⟨ret_int (sat_hi h).symm, rfl⟩
  · by_cases h2 : a < -536870911
    · go_enter Try.func128, Try.ntmps128
      go_wp2
      go_ret
      exact ⟨ret_int (sat_lo h2).symm, rfl⟩
    · go_enter Try.func128, Try.ntmps128
      go_wp2
      go_ret
      exact ⟨ret_int (sat_id (by omega) (by omega)).symm, rfl⟩

theorem rsat_p (a : Int) (w : World) : Calls Try.prog 98 #[.int .i64 a] w fun e w' => e = .returned (.int .i64 (sat a)) ∧ w = w' := by
  by_cases h : 536870911 < a
  · go_enter Try.func98, Try.ntmps98
    go_wp2
    go_ret
    exact ⟨ret_int (sat_hi h).symm, rfl⟩
  · by_cases h2 : a < -536870911
    · go_enter Try.func98, Try.ntmps98
      go_wp2
      go_ret
      exact ⟨ret_int (sat_lo h2).symm, rfl⟩
    · go_enter Try.func98, Try.ntmps98
      go_wp2
      go_ret
      exact ⟨ret_int (sat_id (by omega) (by omega)).symm, rfl⟩

theorem add_p (a b : Int) (w : World) : Calls Try.prog 126 #[.int .i64 a, .int .i64 b] w fun e w' => e = .returned (.int .i64 (add a b)) ∧ w = w' := by
  have h1 := sat_le a; have h2 := sat_ge a; have h3 := sat_le b; have h4 := sat_ge b
  go_enter Try.func126, Try.ntmps126
  go_wp2_with (go_at_call 128; refine (sat_p _ _).mono ?_; rintro e w' ⟨rfl, rfl⟩)
  go_ret
  exact ⟨rfl, rfl⟩

theorem sub_p (a b : Int) (w : World) : Calls Try.prog 127 #[.int .i64 a, .int .i64 b] w fun e w' => e = .returned (.int .i64 (sub a b)) ∧ w = w' := by
  have h1 := sat_le a; have h2 := sat_ge a; have h3 := sat_le b; have h4 := sat_ge b
  go_enter Try.func127, Try.ntmps127
  go_wp2_with (go_at_call 128; refine (sat_p _ _).mono ?_; rintro e w' ⟨rfl, rfl⟩)
  go_ret
  exact ⟨rfl, rfl⟩

end Go.Proofs.Ytfhhkabdeajieaa

namespace Go.Proofs.Ytfhhkabdeajieaa
open Go.RowKit Fx

/-- the world is as it was, but for draws -/
def Dr (w w' : World) : Prop := ∃ m, w' = w.drewN m
theorem Dr.refl (w : World) : Dr w w := ⟨0, rfl⟩
theorem Dr.trans {a b c : World} (h : Dr a b) (k : Dr b c) : Dr a c := by
  obtain ⟨m, rfl⟩ := h; obtain ⟨n, rfl⟩ := k; exact ⟨m + n, by rw [World.drewN_drewN]⟩
theorem Dr.mk (w : World) (n : Nat) : Dr w (w.drewN n) := ⟨n, rfl⟩
theorem Dr.grown {w w' : World} (h : Dr w w') : Grown w w' := by
  obtain ⟨m, rfl⟩ := h; exact Grown.refl w
theorem Dr.of_eq {w w' : World} (h : w = w') : Dr w w' := h ▸ Dr.refl w

end Go.Proofs.Ytfhhkabdeajieaa

namespace Go.Proofs.Ytfhhkabdeajieaa
open Go.RowKit Fx

end Go.Proofs.Ytfhhkabdeajieaa

set_option linter.unusedVariables false
namespace Go.Proofs.Ytfhhkabdeajieaa
open Go.RowKit Fx

end Go.Proofs.Ytfhhkabdeajieaa

namespace Go.Proofs.Ytfhhkabdeajieaa
open Go.Shelf

def lenRen : Ren := ⟨fun | 129 => 75 | n => n, fun | 3 => 3 | 4 => 4 | 5 => 5 | 9 => 9 | 46 => 93 | 53 => 116 | n => n, fun n => n⟩
theorem lenLays : Lays.n129 Try.prog lenRen := {
  mixed := by kernel_rfl
  f129 := by kernel_rfl
  t3 := by kernel_rfl
  a3 := fun _ => by kernel_rfl
  z3 := fun _ => by kernel_rfl
  v3 := fun _ => by kernel_rfl
  t4 := by kernel_rfl
  a4 := fun _ => by kernel_rfl
  z4 := fun _ => by kernel_rfl
  v4 := fun _ => by kernel_rfl
  t5 := by kernel_rfl
  a5 := fun _ => by kernel_rfl
  z5 := fun _ => by kernel_rfl
  v5 := fun _ => by kernel_rfl
  t9 := by kernel_rfl
  a9 := fun _ => by kernel_rfl
  z9 := fun _ => by kernel_rfl
  v9 := fun _ => by kernel_rfl
  t46 := by kernel_rfl
  a46 := fun _ => by kernel_rfl
  z46 := fun _ => by kernel_rfl
  v46 := fun _ => by kernel_rfl
  t53 := by kernel_rfl
  a53 := fun _ => by kernel_rfl
  z53 := fun _ => by kernel_rfl
  v53 := fun _ => by kernel_rfl }

theorem len_p (x : Int) (w : World) (h0 : 0 ≤ x) (h1 : x ≤ 18446744073709551615) :
    Calls Try.prog 75 #[.int .u64 x] w fun e w' => e = .returned (.int .i64 (Lib.bitLen x.toNat)) ∧ w' = w := Any.bits_Len64 lenLays x w h0 h1

end Go.Proofs.Ytfhhkabdeajieaa

set_option linter.unusedVariables false
namespace Go.Proofs.Ytfhhkabdeajieaa
open Go.RowKit Fx

end Go.Proofs.Ytfhhkabdeajieaa

set_option linter.unusedVariables false
namespace Go.Proofs.Ytfhhkabdeajieaa
open Go.RowKit Fx

theorem isq_max (s : Int) (h0 : -536870911 ≤ s) (h1 : s ≤ 536870911) : isq (max 0 s * 65536) = isq (s * 65536) := by
  by_cases h : s < 0
  · rw [isq_out (n := s * 65536) (by omega), show max 0 s * 65536 = 0 from by omega]
    exact isq_eq (by omega) (by omega) (by omega) (by omega) (by omega)
  · rw [show max 0 s = s from by omega]

end Go.Proofs.Ytfhhkabdeajieaa
