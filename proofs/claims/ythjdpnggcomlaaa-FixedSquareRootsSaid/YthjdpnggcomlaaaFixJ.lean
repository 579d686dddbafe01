/- The walks of FixedRoundDivError and FixedSquareRoots: each returns true for every input, and the world has at most new blocks. No conditions. -/
import Derived.Test.YthjdpnggcomlaaaFixG
import Derived.Test.YthjdpnggcomlaaaFz
set_option linter.unusedVariables false
namespace Go.Proofs.Ythjdpnggcomlaaa
open Go.RowKit Fx

theorem err_out (n d : Int) (w : World) (h : d < 1 ∨ 4611686018427387904 < d ∨ n < -4611686018427387904 ∨ 4611686018427387904 < n) : Calls Try.prog 5 #[.int .i64 n, .int .i64 d] w fun e w' => e = .returned (.bool true) ∧ Grown w w' := by
  have h0 : (rdiv n d == 0) = true := by rw [beq_iff_eq]; exact rdiv_out h
  by_cases h1 : d < 1
  · clear h
    go_enter Try.func5, Try.ntmps5
    go_wp2_with (first
      | (go_at_call 22; refine (rd_p _ _ _).mono ?_; rintro e w1 ⟨rfl, hw1⟩)
      | (go_at_call 21; refine (example_p _).mono ?_; rintro e w7 ⟨rfl, hw7⟩))
    go_ret
    exact ⟨rfl, Dr.grown (by repeat (first | exact Dr.refl _ | assumption | refine Dr.trans ?_ (by assumption)))⟩
  · by_cases h2 : 4611686018427387904 < d
    · clear h
      go_enter Try.func5, Try.ntmps5
      go_wp2_with (first
        | (go_at_call 22; refine (rd_p _ _ _).mono ?_; rintro e w1 ⟨rfl, hw1⟩)
        | (go_at_call 21; refine (example_p _).mono ?_; rintro e w7 ⟨rfl, hw7⟩))
      go_ret
      exact ⟨rfl, Dr.grown (by repeat (first | exact Dr.refl _ | assumption | refine Dr.trans ?_ (by assumption)))⟩
    · by_cases h3 : n < -4611686018427387904
      · clear h
        go_enter Try.func5, Try.ntmps5
        go_wp2_with (first
          | (go_at_call 22; refine (rd_p _ _ _).mono ?_; rintro e w1 ⟨rfl, hw1⟩)
          | (go_at_call 21; refine (example_p _).mono ?_; rintro e w7 ⟨rfl, hw7⟩))
        go_ret
        exact ⟨rfl, Dr.grown (by repeat (first | exact Dr.refl _ | assumption | refine Dr.trans ?_ (by assumption)))⟩
      · have h4 : 4611686018427387904 < n := by omega
        clear h
        go_enter Try.func5, Try.ntmps5
        go_wp2_with (first
          | (go_at_call 22; refine (rd_p _ _ _).mono ?_; rintro e w1 ⟨rfl, hw1⟩)
          | (go_at_call 21; refine (example_p _).mono ?_; rintro e w7 ⟨rfl, hw7⟩))
        go_ret
        exact ⟨rfl, Dr.grown (by repeat (first | exact Dr.refl _ | assumption | refine Dr.trans ?_ (by assumption)))⟩

theorem err_in (n d : Int) (w : World) (h1 : 1 ≤ d) (h2 : d ≤ 4611686018427387904) (h3 : -4611686018427387904 ≤ n) (h4 : n ≤ 4611686018427387904) : Calls Try.prog 5 #[.int .i64 n, .int .i64 d] w fun e w' => e = .returned (.bool true) ∧ Grown w w' := by
  have e0 := rdiv_in h1 h2 h3 h4
  have hb := rcore_bounds (n := n) h1
  have hn := rcore_near (n := n) h1
  have hh := fun hd : 2 ≤ d => rcore_half hd h3 h4
  have h0 : (rdiv (-n) d == -rdiv n d) = true := by
    rw [beq_iff_eq, rdiv_in h1 h2 (by omega) (by omega), rdiv_in h1 h2 h3 h4]; exact rcore_neg n d h1
  rw [← e0] at hb hn hh
  generalize hq : rdiv n d = q at *
  have Hq := Lib.hid hq
  clear e0 hq
  have q1 : -4611686018427387904 ≤ q := by omega
  have q2 : q ≤ 4611686018427387904 := by omega
  obtain ⟨n1, n2⟩ := hn
  clear hb
  have o1 : -9223372036854775807 ≤ q * d := by omega
  have o2 : q * d ≤ 9223372036854775807 := by omega
  by_cases hd : 1 < d
  · have hq3 := hh (by omega)
    clear hh
    by_cases ho : n - q * d < 0
    · go_enter Try.func5, Try.ntmps5
      go_wp2_with fail
      refine (rd_p _ _ _).mono ?_
      rw [Hq.out]
      rintro e w1 ⟨rfl, hw1⟩
      go_wp2_with (first
        | (go_at_call 22; refine (rd_p _ _ _).mono ?_; rintro e w2 ⟨rfl, hw2⟩)
        | (go_at_call 21; refine (example_p _).mono ?_; rintro e w7 ⟨rfl, hw7⟩))
      go_ret
      exact ⟨rfl, Dr.grown (by repeat (first | exact Dr.refl _ | assumption | refine Dr.trans ?_ (by assumption)))⟩
    · go_enter Try.func5, Try.ntmps5
      go_wp2_with fail
      refine (rd_p _ _ _).mono ?_
      rw [Hq.out]
      rintro e w1 ⟨rfl, hw1⟩
      go_wp2_with (first
        | (go_at_call 22; refine (rd_p _ _ _).mono ?_; rintro e w2 ⟨rfl, hw2⟩)
        | (go_at_call 21; refine (example_p _).mono ?_; rintro e w7 ⟨rfl, hw7⟩))
      go_ret
      exact ⟨rfl, Dr.grown (by repeat (first | exact Dr.refl _ | assumption | refine Dr.trans ?_ (by assumption)))⟩
  · clear hh
    have ho : ¬ n - q * d < 0 := by
      have : d = 1 := by omega
      subst this; omega
    go_enter Try.func5, Try.ntmps5
    go_wp2_with fail
    refine (rd_p _ _ _).mono ?_
    rw [Hq.out]
    rintro e w1 ⟨rfl, hw1⟩
    go_wp2_with (first
      | (go_at_call 22; refine (rd_p _ _ _).mono ?_; rintro e w2 ⟨rfl, hw2⟩)
      | (go_at_call 21; refine (example_p _).mono ?_; rintro e w7 ⟨rfl, hw7⟩))
    go_ret
    exact ⟨rfl, Dr.grown (by repeat (first | exact Dr.refl _ | assumption | refine Dr.trans ?_ (by assumption)))⟩

theorem walk_FixedRoundDivError (n d : Int) (w : World) : Calls Try.prog 5 #[.int .i64 n, .int .i64 d] w fun e w' => e = .returned (.bool true) ∧ Grown w w' := by
  by_cases h : d < 1 ∨ 4611686018427387904 < d ∨ n < -4611686018427387904 ∨ 4611686018427387904 < n
  · exact err_out n d w h
  · exact err_in n d w (by omega) (by omega) (by omega) (by omega)

theorem walk_FixedSquareRoots (n x : Int) (w : World) : Calls Try.prog 6 #[.int .i64 n, .int .i64 x] w fun e w' => e = .returned (.bool true) ∧ Grown w w' := by
  by_cases h : n < 0 ∨ 4611686018427387904 < n
  · have h0 : (isq n == 0) = true := by rw [beq_iff_eq]; exact isq_out h
    by_cases h1 : n < 0
    · clear h
      go_enter Try.func6, Try.ntmps6
      go_wp2_with (first
        | (go_at_call 26; refine (isq_p _ _).mono ?_; rintro e w1 ⟨rfl, hw1⟩)
        | (go_at_call 21; refine (example_p _).mono ?_; rintro e w7 ⟨rfl, hw7⟩))
      go_ret
      exact ⟨rfl, Dr.grown (by repeat (first | exact Dr.refl _ | assumption | refine Dr.trans ?_ (by assumption)))⟩
    · have h2 : 4611686018427387904 < n := by omega
      clear h
      go_enter Try.func6, Try.ntmps6
      go_wp2_with (first
        | (go_at_call 26; refine (isq_p _ _).mono ?_; rintro e w1 ⟨rfl, hw1⟩)
        | (go_at_call 21; refine (example_p _).mono ?_; rintro e w7 ⟨rfl, hw7⟩))
      go_ret
      exact ⟨rfl, Dr.grown (by repeat (first | exact Dr.refl _ | assumption | refine Dr.trans ?_ (by assumption)))⟩
  · have n1 : 0 ≤ n := by omega
    have n2 : n ≤ 4611686018427387904 := by omega
    obtain ⟨i1, i2, i3⟩ := isq_is n1 n2
    have i4 := isq_le n1 n2
    have i5 : (isq n + 1) * (isq n + 1) = isq n * isq n + 2 * isq n + 1 := by rw [Int.add_mul, Int.mul_add]; omega
    have i6 : (isq n + 1) * (isq n + 1) ≤ 9223372036854775807 := by omega
    have i7 : 0 ≤ isq n * isq n := Int.mul_nonneg i1 i1
    clear i5 h
    go_enter Try.func6, Try.ntmps6
    go_wp2_with (first
      | (go_at_call 26; refine (isq_p _ _).mono ?_; rintro e w1 ⟨rfl, hw1⟩)
      | (go_at_call 27; refine (sqrt_p _ _).mono ?_; rintro e w2 ⟨rfl, hw2⟩)
      | (go_at_call 28; refine (rsqrt_p _ _).mono ?_; rintro e w3 ⟨rfl, hw3⟩)
      | (go_at_call 21; refine (example_p _).mono ?_; rintro e w7 ⟨rfl, hw7⟩))
    go_ret
    exact ⟨rfl, Dr.grown (by repeat (first | exact Dr.refl _ | assumption | refine Dr.trans ?_ (by assumption)))⟩
end Go.Proofs.Ythjdpnggcomlaaa
