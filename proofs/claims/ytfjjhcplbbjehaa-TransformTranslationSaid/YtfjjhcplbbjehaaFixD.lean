/- Contracts of Mul, Div, Lerp, divByZero and Clamp, of the program and of the reference: each returns the number that the Lean function of the same meaning gives, and leaves the world as it is up to draws. No conditions. -/
import Derived.Test.YtfjjhcplbbjehaaFixC
import Derived.Test.YtfjjhcplbbjehaaFy
set_option linter.unusedVariables false
namespace Go.Proofs.Ytfjjhcplbbjehaa
open Go.RowKit Fx

theorem mul_p (a b : Int) (w : World) : Calls Try.prog 66 #[.int .i64 a, .int .i64 b] w fun e w' => e = .returned (.int .i64 (mul a b)) ∧ Dr w w' := by
  have h1 := satmul a b
  go_enter Try.func66, Try.ntmps66
  go_wp2_with (first
    | (go_at_call 67; refine (sat_p _ _).mono ?_; rintro e w' ⟨rfl, rfl⟩)
    | (go_at_call 68; refine (rd_p _ _ _).mono ?_; rintro e w1 ⟨rfl, hw1⟩))
  go_ret
  exact ⟨rfl, by assumption⟩

theorem rmul_p (a b : Int) (w : World) : Calls Try.prog 41 #[.int .i64 a, .int .i64 b] w fun e w' => e = .returned (.int .i64 (mul a b)) ∧ Dr w w' := by
  have h1 := satmul a b
  go_enter Try.func41, Try.ntmps41
  go_wp2_with (first
    | (go_at_call 56; refine (rsat_p _ _).mono ?_; rintro e w' ⟨rfl, rfl⟩)
    | (go_at_call 58; refine (rrd_p _ _ _).mono ?_; rintro e w1 ⟨rfl, hw1⟩))
  go_ret
  exact ⟨rfl, by assumption⟩

theorem lerp_p (a b t : Int) (w : World) : Calls Try.prog 64 #[.int .i64 a, .int .i64 b, .int .i64 t] w fun e w' => e = .returned (.int .i64 (lerp a b t)) ∧ Dr w w' := by
  go_enter Try.func64, Try.ntmps64
  go_wp2_with (first
    | (go_at_call 47; refine (sub_p _ _ _).mono ?_; rintro e w' ⟨rfl, rfl⟩)
    | (go_at_call 46; refine (add_p _ _ _).mono ?_; rintro e w' ⟨rfl, rfl⟩)
    | (go_at_call 66; refine (mul_p _ _ _).mono ?_; rintro e w1 ⟨rfl, hw1⟩))
  go_ret
  exact ⟨rfl, by assumption⟩

theorem rlerp_p (a b t : Int) (w : World) : Calls Try.prog 65 #[.int .i64 a, .int .i64 b, .int .i64 t] w fun e w' => e = .returned (.int .i64 (lerp a b t)) ∧ Dr w w' := by
  go_enter Try.func65, Try.ntmps65
  go_wp2_with (first
    | (go_at_call 63; refine (rsub_p _ _ _).mono ?_; rintro e w' ⟨rfl, rfl⟩)
    | (go_at_call 55; refine (radd_p _ _ _).mono ?_; rintro e w' ⟨rfl, rfl⟩)
    | (go_at_call 41; refine (rmul_p _ _ _).mono ?_; rintro e w1 ⟨rfl, hw1⟩))
  go_ret
  exact ⟨rfl, by assumption⟩

theorem dz_p (a : Int) (w : World) : Calls Try.prog 71 #[.int .i64 a] w fun e w' => e = .returned (.int .i64 (dz a)) ∧ w = w' := by
  by_cases h1 : 0 < a
  · go_enter Try.func71, Try.ntmps71
    go_wp2
    go_ret
    exact ⟨ret_int (dz_pos h1).symm, rfl⟩
  · by_cases h2 : a < 0
    · go_enter Try.func71, Try.ntmps71
      go_wp2
      go_ret
      exact ⟨ret_int (dz_neg h2).symm, rfl⟩
    · go_enter Try.func71, Try.ntmps71
      go_wp2
      go_ret
      exact ⟨ret_int (dz_zero (by omega)).symm, rfl⟩

theorem div_zero (a : Int) (w : World) : Calls Try.prog 54 #[.int .i64 a, .int .i64 0] w fun e w' => e = .returned (.int .i64 (dz a)) ∧ Dr w w' := by
  go_enter Try.func54, Try.ntmps54
  go_wp2_with (go_at_call 71; refine (dz_p _ _).mono ?_; rintro e w' ⟨rfl, rfl⟩)
  go_ret
  exact ⟨rfl, Dr.refl _⟩

theorem div_pos (a b : Int) (w : World) (h : 0 < b) : Calls Try.prog 54 #[.int .i64 a, .int .i64 b] w fun e w' => e = .returned (.int .i64 (sat (rdiv (sat a * 65536) (sat b)))) ∧ Dr w w' := by
  have h1 := sat_le a
  have h2 := sat_ge a
  have h3 := (sat_pos_iff b).2 h
  have h4 := sat_le b
  have h0 : (b == 0) = false := by simp; omega
  go_enter Try.func54, Try.ntmps54
  go_wp2_with (first
    | (go_at_call 67; refine (sat_p _ _).mono ?_; rintro e w' ⟨rfl, rfl⟩)
    | (go_at_call 68; refine (rd_p _ _ _).mono ?_; rintro e w1 ⟨rfl, hw1⟩))
  go_ret
  exact ⟨rfl, by assumption⟩

theorem div_neg (a b : Int) (w : World) (h : b < 0) : Calls Try.prog 54 #[.int .i64 a, .int .i64 b] w fun e w' => e = .returned (.int .i64 (sat (rdiv (-(sat a * 65536)) (-sat b)))) ∧ Dr w w' := by
  have h1 := sat_le a
  have h2 := sat_ge a
  have h3 := (sat_neg_iff b).2 h
  have h4 := sat_ge b
  have h0 : (b == 0) = false := by simp; omega
  go_enter Try.func54, Try.ntmps54
  go_wp2_with (first
    | (go_at_call 67; refine (sat_p _ _).mono ?_; rintro e w' ⟨rfl, rfl⟩)
    | (go_at_call 68; refine (rd_p _ _ _).mono ?_; rintro e w1 ⟨rfl, hw1⟩))
  go_ret
  exact ⟨rfl, by assumption⟩

theorem div_p (a b : Int) (w : World) : Calls Try.prog 54 #[.int .i64 a, .int .i64 b] w fun e w' => e = .returned (.int .i64 (quo a b)) ∧ Dr w w' := by
  by_cases h : b = 0
  · subst h; rw [quo_zero rfl]; exact div_zero a w
  · by_cases h1 : b < 0
    · rw [quo_neg h1]; exact div_neg a b w h1
    · rw [quo_pos (by omega)]; exact div_pos a b w (by omega)

theorem rdiv_zero (a b : Int) (w : World) (h : b = 0) : Calls Try.prog 62 #[.int .i64 a, .int .i64 b] w fun e w' => e = .returned (.int .i64 (dz a)) ∧ Dr w w' := by
  have h1 := sat_le a
  have h2 := sat_ge a
  have h0 : (sat b == 0) = true := by rw [beq_iff_eq]; exact (sat_zero_iff b).2 h
  have h5 : ¬ sat b < 0 := by have := (sat_neg_iff b); omega
  by_cases hp : 0 < a
  · have h3 := (sat_pos_iff a).2 hp
    have H := Lib.hid h; clear h
    go_enter Try.func62, Try.ntmps62
    go_wp2_with (first
      | (go_at_call 56; refine (rsat_p _ _).mono ?_; rintro e w' ⟨rfl, rfl⟩))
    go_ret
    exact ⟨ret_int (dz_pos hp).symm, Dr.refl _⟩
  · by_cases hm : a < 0
    · have h3 := (sat_neg_iff a).2 hm
      have H := Lib.hid h; clear h
      go_enter Try.func62, Try.ntmps62
      go_wp2_with (first
        | (go_at_call 56; refine (rsat_p _ _).mono ?_; rintro e w' ⟨rfl, rfl⟩))
      go_ret
      exact ⟨ret_int (dz_neg hm).symm, Dr.refl _⟩
    · have h3 : ¬ sat a < 0 := by have := (sat_neg_iff a); omega
      have h4 : ¬ 0 < sat a := by have := (sat_pos_iff a); omega
      have H := Lib.hid h; clear h
      have e1 : sat (rdiv (sat a * 65536) (sat b)) = 0 := by
        rw [(sat_zero_iff b).2 H.out, rdiv_out (by omega)]; rfl
      have E1 := Lib.hid e1; clear e1
      go_enter Try.func62, Try.ntmps62
      go_wp2_with (first
        | (go_at_call 56; refine (rsat_p _ _).mono ?_; rintro e w' ⟨rfl, rfl⟩)
        | (go_at_call 58; refine (rrd_p _ _ _).mono ?_; rintro e w1 ⟨rfl, hw1⟩))
      go_ret
      exact ⟨ret_int (by rw [E1.out, dz_zero (by omega)]), by assumption⟩

theorem rdiv_pos (a b : Int) (w : World) (h : 0 < b) : Calls Try.prog 62 #[.int .i64 a, .int .i64 b] w fun e w' => e = .returned (.int .i64 (sat (rdiv (sat a * 65536) (sat b)))) ∧ Dr w w' := by
  have h1 := sat_le a
  have h2 := sat_ge a
  have h3 := (sat_pos_iff b).2 h
  have h4 := sat_le b
  have h0 : (sat b == 0) = false := by simp; omega
  go_enter Try.func62, Try.ntmps62
  go_wp2_with (first
    | (go_at_call 56; refine (rsat_p _ _).mono ?_; rintro e w' ⟨rfl, rfl⟩)
    | (go_at_call 58; refine (rrd_p _ _ _).mono ?_; rintro e w1 ⟨rfl, hw1⟩))
  go_ret
  exact ⟨rfl, by assumption⟩

theorem rdiv_neg (a b : Int) (w : World) (h : b < 0) : Calls Try.prog 62 #[.int .i64 a, .int .i64 b] w fun e w' => e = .returned (.int .i64 (sat (rdiv (-(sat a * 65536)) (-sat b)))) ∧ Dr w w' := by
  have h1 := sat_le a
  have h2 := sat_ge a
  have h3 := (sat_neg_iff b).2 h
  have h4 := sat_ge b
  have h0 : (sat b == 0) = false := by simp; omega
  go_enter Try.func62, Try.ntmps62
  go_wp2_with (first
    | (go_at_call 56; refine (rsat_p _ _).mono ?_; rintro e w' ⟨rfl, rfl⟩)
    | (go_at_call 58; refine (rrd_p _ _ _).mono ?_; rintro e w1 ⟨rfl, hw1⟩))
  go_ret
  exact ⟨ret_int (by first | rfl | rw [Int.neg_mul]), by assumption⟩

theorem rdiv_p (a b : Int) (w : World) : Calls Try.prog 62 #[.int .i64 a, .int .i64 b] w fun e w' => e = .returned (.int .i64 (quo a b)) ∧ Dr w w' := by
  by_cases h : b = 0
  · rw [quo_zero h]; exact rdiv_zero a b w h
  · by_cases h1 : b < 0
    · rw [quo_neg h1]; exact rdiv_neg a b w h1
    · rw [quo_pos (by omega)]; exact rdiv_pos a b w (by omega)

end Go.Proofs.Ytfjjhcplbbjehaa
