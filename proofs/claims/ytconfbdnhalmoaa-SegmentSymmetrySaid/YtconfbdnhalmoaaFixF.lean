/- Contracts of Isqrt and Sqrt, of the program and of the reference: each returns the integer square root isq (0 outside its range), and leaves the world as it is up to draws. No conditions. -/
import Derived.Test.YtconfbdnhalmoaaFixC
import Derived.Test.YtconfbdnhalmoaaSq
import Derived.Test.YtconfbdnhalmoaaLen
set_option linter.unusedVariables false
namespace Go.Proofs.Ytconfbdnhalmoaa
open Go.RowKit Fx

theorem isq_in (n : Int) (w : World) (h1 : 1 ≤ n) (h2 : n ≤ 4611686018427387904) : Calls Try.prog 32 #[.int .i64 n] w fun e w' => e = .returned (.int .i64 (isq n)) ∧ Dr w w' := by
  have hs := start_sq n.toNat (by omega)
  obtain ⟨hs1, hs2⟩ := hs
  have hp := pow_between _ hs2
  generalize hL : Lib.bitLen n.toNat = L at *
  have HL := Lib.hid hL
  clear hL
  have Hs := Lib.hid hs1
  clear hs1
  go_enter Try.func32, Try.ntmps32
  go_wp2_with (go_at_call 53; refine (len_p _ _ (by omega) (by omega)).mono ?_; rw [HL.out]; rintro e w' ⟨rfl, rfl⟩)
  go_loop [3] (fun t => ∃ r : Int, 1 ≤ r ∧ r ≤ 4294967296 ∧ Hid (n < (r + 1) * (r + 1)) ∧ t = .int .i64 r) (fun t => (intOf t).toNat)
  case atStart => exact ⟨_, by omega, by omega, Lib.hid (by have := Hs.out; omega), rfl⟩
  case round =>
    obtain ⟨r, hr1, hr2, hr3, rfl⟩ := hrel
    have hq1 := ediv_bounds (m := n) (d := r) (by omega) hr1
    have hn := newton (n := n) (r := r) (by omega) hr1
    have hn1 := sq_pos h1 (by omega) hn
    have Hn := Lib.hid hn
    clear hn
    by_cases hge : r ≤ (r + n / r) / 2
    · go_wp2
      go_ret
      exact ⟨ret_int (isq_eq (by omega) h2 (by omega) (div_ge hr1 (by omega)) hr3.out).symm, Dr.refl _⟩
    · go_wp2
      go_round
      case rel => exact ⟨(r + n / r) / 2, by omega, by omega, Hn, rfl⟩
      case measure => simp [intOf]; omega

theorem isq_p (n : Int) (w : World) : Calls Try.prog 32 #[.int .i64 n] w fun e w' => e = .returned (.int .i64 (isq n)) ∧ Dr w w' := by
  by_cases h1 : n < 1
  · have hz : isq n = 0 := by
      by_cases h0 : n = 0
      · subst h0; exact isq_eq (by omega) (by omega) (by omega) (by omega) (by omega)
      · exact isq_out (by omega)
    have Hz := Lib.hid hz; clear hz
    go_enter Try.func32, Try.ntmps32
    go_wp2_with fail
    go_ret
    exact ⟨ret_int Hz.out.symm, Dr.refl _⟩
  · by_cases h2 : 4611686018427387904 < n
    · go_enter Try.func32, Try.ntmps32
      go_wp2_with fail
      go_ret
      exact ⟨ret_int (isq_out (Or.inr h2)).symm, Dr.refl _⟩
    · exact isq_in n w (by omega) (by omega)

theorem risq_in (n : Int) (w : World) (h1 : 0 ≤ n) (h2 : n ≤ 4611686018427387904) : Calls Try.prog 35 #[.int .i64 n] w fun e w' => e = .returned (.int .i64 (isq n)) ∧ Dr w w' := by
  have hst := SqInv.start h1 h2
  go_enter Try.func35, Try.ntmps35
  go_wp2_with (go_at_call 50; refine (oor_no _ _ (by omega) (by omega)).mono ?_; rintro e w' ⟨rfl, rfl⟩)
  go_loop [3, 4] (fun tr tb => ∃ r b : Int, SqInv n r b ∧ tr = .int .i64 r ∧ tb = .int .i64 b) (fun _ tb => (intOf tb).toNat)
  case atStart => exact ⟨0, 2147483648, hst, rfl, rfl⟩
  case round =>
    obtain ⟨r, b, hi, rfl, rfl⟩ := hrel
    have hb := hi.bounds
    by_cases hpos : 0 < b
    · have hq := ediv_bounds (m := n) (d := r + b) h1 (by omega)
      have hsum : (r + b == 0) = false := by simp; omega
      by_cases hc : r + b ≤ n / (r + b)
      · go_wp2
        go_round
        case rel => exact ⟨r + b, b / 2, hi.take hpos hc, rfl, rfl⟩
        case measure => simp [intOf]; omega
      · go_wp2
        go_round
        case rel => exact ⟨r, b / 2, hi.skip hpos (by omega), rfl, rfl⟩
        case measure => simp [intOf]; omega
    · go_wp2
      go_ret
      exact ⟨ret_int (hi.done h1 h2 (by omega)).symm, Dr.refl _⟩

theorem risq_p (n : Int) (w : World) : Calls Try.prog 35 #[.int .i64 n] w fun e w' => e = .returned (.int .i64 (isq n)) ∧ Dr w w' := by
  by_cases h1 : n < 0
  · go_enter Try.func35, Try.ntmps35
    go_wp2_with fail
    go_ret
    exact ⟨ret_int (isq_out (Or.inl h1)).symm, Dr.refl _⟩
  · by_cases h2 : 4611686018427387904 < n
    · go_enter Try.func35, Try.ntmps35
      go_wp2_with (go_at_call 50; refine (oor_yes _ _ (by omega)).mono ?_; rintro e w' ⟨rfl, rfl⟩)
      go_ret
      exact ⟨ret_int (isq_out (Or.inr h2)).symm, Dr.refl _⟩
    · exact risq_in n w (by omega) (by omega)

theorem isq_max (s : Int) (h0 : -536870911 ≤ s) (h1 : s ≤ 536870911) : isq (max 0 s * 65536) = isq (s * 65536) := by
  by_cases h : s < 0
  · rw [isq_out (n := s * 65536) (by omega), show max 0 s * 65536 = 0 from by omega]
    exact isq_eq (by omega) (by omega) (by omega) (by omega) (by omega)
  · rw [show max 0 s = s from by omega]

end Go.Proofs.Ytconfbdnhalmoaa
