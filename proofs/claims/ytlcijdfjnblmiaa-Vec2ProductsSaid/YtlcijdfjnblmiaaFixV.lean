/- Contracts of package vec2 and of its reference: each returns what the Lean functions of the same meaning give, component by component, and nothing that existed has changed. No conditions. -/
import Derived.Test.YtlcijdfjnblmiaaFixBl
import Derived.Test.YtlcijdfjnblmiaaBox
import Derived.Test.YtlcijdfjnblmiaaVec
set_option linter.unusedVariables false
namespace Go.Proofs.Ytlcijdfjnblmiaa
open Go.RowKit Fx

theorem vsat_b (x y : Int) (w : World) : Calls Try.prog 45 #[.agg #[.int .i64 x, .int .i64 y]] w fun e w' => e = .returned (.agg #[.int .i64 (sat x), .int .i64 (sat y)]) ∧ Below w.heap.size w w' := by
  go_enter Try.func45, Try.ntmps45
  go_wp2_with (first | (go_at_call 58; refine (gw_at (sat_b _ _)).mono ?_; rintro e w1 ⟨rfl, q, rfl⟩))
  repeat
    refine wp_region_gw_tail 7 (by kernel_rfl) (by kernel_rfl) ?_
    simp only [List.take_succ_cons, List.take_zero, List.drop_succ_cons, List.drop_zero]
    repeat (go_big_quiet_step ((first | (go_at_call 58; exact gw_call (sat_b _ _)))))
    refine wpQuiet_nil ?_
    intro w1 hw1
    obtain ⟨q, rfl⟩ := hw1
    go_wp2_with (first | (go_at_call 58; refine (gw_at (sat_b _ _)).mono ?_; rintro e w1 ⟨rfl, q, rfl⟩))
  exact bodyPost_ret (v := .agg #[.int .i64 (sat x), .int .i64 (sat y)]) (by simp [results, Try.results45, go_sem]; try (first | rfl | exact ⟨rfl, rfl⟩ | exact ⟨rfl, rfl, rfl⟩ | exact ⟨rfl, rfl, rfl, rfl⟩)) rfl ⟨rfl, (by repeat (first | with_reducible exact Below.refl _ _ | with_reducible assumption | refine bgw ?_ (by first | (simp; done) | (simp; omega) | omega) _ | refine Below.setCell ?_ (by first | exact Nat.le_of_not_lt (by assumption) | (simp; done) | (simp; omega) | omega) _ | refine Below.alloc ?_ (by first | (simp; done) | (simp; omega) | omega) _ | refine Below.drew ?_))⟩

theorem vrsat_b (c s : Int) (w : World) : Calls Try.prog 56 #[.agg #[.int .i64 c, .int .i64 s]] w fun e w' => e = .returned (.agg #[.int .i64 (sat c), .int .i64 (sat s)]) ∧ Below w.heap.size w w' := by
  go_enter Try.func56, Try.ntmps56
  go_wp2_with (first | (go_at_call 58; refine (gw_at (sat_b _ _)).mono ?_; rintro e w1 ⟨rfl, q, rfl⟩))
  repeat
    refine wp_region_gw_tail 7 (by kernel_rfl) (by kernel_rfl) ?_
    simp only [List.take_succ_cons, List.take_zero, List.drop_succ_cons, List.drop_zero]
    repeat (go_big_quiet_step ((first | (go_at_call 58; exact gw_call (sat_b _ _)))))
    refine wpQuiet_nil ?_
    intro w1 hw1
    obtain ⟨q, rfl⟩ := hw1
    go_wp2_with (first | (go_at_call 58; refine (gw_at (sat_b _ _)).mono ?_; rintro e w1 ⟨rfl, q, rfl⟩))
  exact bodyPost_ret (v := .agg #[.int .i64 (sat c), .int .i64 (sat s)]) (by simp [results, Try.results56, go_sem]; try (first | rfl | exact ⟨rfl, rfl⟩ | exact ⟨rfl, rfl, rfl⟩ | exact ⟨rfl, rfl, rfl, rfl⟩)) rfl ⟨rfl, (by repeat (first | with_reducible exact Below.refl _ _ | with_reducible assumption | refine bgw ?_ (by first | (simp; done) | (simp; omega) | omega) _ | refine Below.setCell ?_ (by first | exact Nat.le_of_not_lt (by assumption) | (simp; done) | (simp; omega) | omega) _ | refine Below.alloc ?_ (by first | (simp; done) | (simp; omega) | omega) _ | refine Below.drew ?_))⟩

theorem vdiff_b (ax ay bx b_y : Int) (w : World) : Calls Try.prog 55 #[.agg #[.int .i64 ax, .int .i64 ay], .agg #[.int .i64 bx, .int .i64 b_y]] w fun e w' => e = .returned (.agg #[.int .i64 (sat ax - sat bx), .int .i64 (sat ay - sat b_y)]) ∧ Below w.heap.size w w' := by
  have a1 := sat_le ax; have a2 := sat_ge ax; have a3 := sat_le ay; have a4 := sat_ge ay
  have b1 := sat_le bx; have b2 := sat_ge bx; have b3 := sat_le b_y; have b4 := sat_ge b_y
  go_enter Try.func55, Try.ntmps55
  go_wp2_with (first | (go_at_call 45; refine (gw_at (vsat_b _ _ _)).mono ?_; rintro e w1 ⟨rfl, q, rfl⟩))
  repeat
    refine wp_region_gw_tail 4 (by kernel_rfl) (by kernel_rfl) ?_
    simp only [List.take_succ_cons, List.take_zero, List.drop_succ_cons, List.drop_zero]
    repeat (go_big_quiet_step ((first | (go_at_call 45; exact gw_call (vsat_b _ _ _)))))
    refine wpQuiet_nil ?_
    intro w1 hw1
    obtain ⟨q, rfl⟩ := hw1
    go_wp2_with (first | (go_at_call 45; refine (gw_at (vsat_b _ _ _)).mono ?_; rintro e w1 ⟨rfl, q, rfl⟩))
  exact bodyPost_ret (v := .agg #[.int .i64 (sat ax - sat bx), .int .i64 (sat ay - sat b_y)]) (by simp [results, Try.results55, go_sem]; try (first | rfl | exact ⟨rfl, rfl⟩ | exact ⟨rfl, rfl, rfl⟩ | exact ⟨rfl, rfl, rfl, rfl⟩)) rfl ⟨rfl, (by repeat (first | with_reducible exact Below.refl _ _ | with_reducible assumption | refine bgw ?_ (by first | (simp; done) | (simp; omega) | omega) _ | refine Below.setCell ?_ (by first | exact Nat.le_of_not_lt (by assumption) | (simp; done) | (simp; omega) | omega) _ | refine Below.alloc ?_ (by first | (simp; done) | (simp; omega) | omega) _ | refine Below.drew ?_))⟩

theorem cnan_b (x : Int) (w : World) : Calls Try.prog 63 #[.int .i64 x] w fun e w' => e = .returned (.bool false) ∧ Below w.heap.size w w' := by
  go_enter Try.func63, Try.ntmps63
  go_wp2_with fail
  go_ret
  exact ⟨rfl, (by repeat (first | with_reducible exact Below.refl _ _ | with_reducible assumption | refine bgw ?_ (by first | (simp; done) | (simp; omega) | omega) _ | refine Below.setCell ?_ (by first | exact Nat.le_of_not_lt (by assumption) | (simp; done) | (simp; omega) | omega) _ | refine Below.alloc ?_ (by first | (simp; done) | (simp; omega) | omega) _ | refine Below.drew ?_))⟩

theorem cmp_b (x y : Int) (w : World) : Calls Try.prog 57 #[.int .i64 x, .int .i64 y] w fun e w' => e = .returned (.int .i64 (sgn (x - y))) ∧ Below w.heap.size w w' := by
  by_cases hp : y < x
  · rw [sgn_pos (by omega)]
    go_enter Try.func57, Try.ntmps57
    go_wp2_with (first | (go_at_call 63; refine (gw_at (cnan_b _ _)).mono ?_; rintro e w1 ⟨rfl, q, rfl⟩))
    go_ret
    exact ⟨rfl, (by repeat (first | with_reducible exact Below.refl _ _ | with_reducible assumption | refine bgw ?_ (by first | (simp; done) | (simp; omega) | omega) _ | refine Below.setCell ?_ (by first | exact Nat.le_of_not_lt (by assumption) | (simp; done) | (simp; omega) | omega) _ | refine Below.alloc ?_ (by first | (simp; done) | (simp; omega) | omega) _ | refine Below.drew ?_))⟩
  · by_cases hn : x < y
    · rw [sgn_neg (by omega)]
      go_enter Try.func57, Try.ntmps57
      go_wp2_with (first | (go_at_call 63; refine (gw_at (cnan_b _ _)).mono ?_; rintro e w1 ⟨rfl, q, rfl⟩))
      go_ret
      exact ⟨rfl, (by repeat (first | with_reducible exact Below.refl _ _ | with_reducible assumption | refine bgw ?_ (by first | (simp; done) | (simp; omega) | omega) _ | refine Below.setCell ?_ (by first | exact Nat.le_of_not_lt (by assumption) | (simp; done) | (simp; omega) | omega) _ | refine Below.alloc ?_ (by first | (simp; done) | (simp; omega) | omega) _ | refine Below.drew ?_))⟩
    · rw [sgn_zero (by omega) (by omega)]
      go_enter Try.func57, Try.ntmps57
      go_wp2_with (first | (go_at_call 63; refine (gw_at (cnan_b _ _)).mono ?_; rintro e w1 ⟨rfl, q, rfl⟩))
      go_ret
      exact ⟨rfl, (by repeat (first | with_reducible exact Below.refl _ _ | with_reducible assumption | refine bgw ?_ (by first | (simp; done) | (simp; omega) | omega) _ | refine Below.setCell ?_ (by first | exact Nat.le_of_not_lt (by assumption) | (simp; done) | (simp; omega) | omega) _ | refine Below.alloc ?_ (by first | (simp; done) | (simp; omega) | omega) _ | refine Below.drew ?_))⟩

theorem round_b (n : Int) (w : World) : Calls Try.prog 49 #[.int .i64 n] w fun e w' => e = .returned (.int .i64 (sat (rdiv n 65536))) ∧ Below w.heap.size w w' := by
  go_enter Try.func49, Try.ntmps49
  go_wp2_with (first | (go_at_call 59; refine (gw_at (rd_b _ _ _)).mono ?_; rintro e w1 ⟨rfl, q, rfl⟩) | (go_at_call 58; refine (gw_at (sat_b _ _)).mono ?_; rintro e w1 ⟨rfl, q, rfl⟩))
  go_ret
  exact ⟨rfl, (by repeat (first | with_reducible exact Below.refl _ _ | with_reducible assumption | refine bgw ?_ (by first | (simp; done) | (simp; omega) | omega) _ | refine Below.setCell ?_ (by first | exact Nat.le_of_not_lt (by assumption) | (simp; done) | (simp; omega) | omega) _ | refine Below.alloc ?_ (by first | (simp; done) | (simp; omega) | omega) _ | refine Below.drew ?_))⟩

theorem vadd_b (ax ay bx b_y : Int) (w : World) : Calls Try.prog 9 #[.agg #[.int .i64 ax, .int .i64 ay], .agg #[.int .i64 bx, .int .i64 b_y]] w fun e w' => e = .returned (.agg #[.int .i64 (add ax bx), .int .i64 (add ay b_y)]) ∧ Below w.heap.size w w' := by
  go_enter Try.func9, Try.ntmps9
  go_wp2_with (first | (go_at_call 39; refine (gw_at (add_b _ _ _)).mono ?_; rintro e w1 ⟨rfl, q, rfl⟩))
  repeat
    refine wp_region_gw_tail 11 (by kernel_rfl) (by kernel_rfl) ?_
    simp only [List.take_succ_cons, List.take_zero, List.drop_succ_cons, List.drop_zero]
    repeat (go_big_quiet_step ((first | (go_at_call 39; exact gw_call (add_b _ _ _)))))
    refine wpQuiet_nil ?_
    intro w1 hw1
    obtain ⟨q, rfl⟩ := hw1
    go_wp2_with (first | (go_at_call 39; refine (gw_at (add_b _ _ _)).mono ?_; rintro e w1 ⟨rfl, q, rfl⟩))
  exact bodyPost_ret (v := .agg #[.int .i64 (add ax bx), .int .i64 (add ay b_y)]) (by simp [results, Try.results9, go_sem]; try (first | rfl | exact ⟨rfl, rfl⟩ | exact ⟨rfl, rfl, rfl⟩ | exact ⟨rfl, rfl, rfl, rfl⟩)) rfl ⟨rfl, (by repeat (first | with_reducible exact Below.refl _ _ | with_reducible assumption | refine bgw ?_ (by first | (simp; done) | (simp; omega) | omega) _ | refine Below.setCell ?_ (by first | exact Nat.le_of_not_lt (by assumption) | (simp; done) | (simp; omega) | omega) _ | refine Below.alloc ?_ (by first | (simp; done) | (simp; omega) | omega) _ | refine Below.drew ?_))⟩

theorem vsub_b (ax ay bx b_y : Int) (w : World) : Calls Try.prog 11 #[.agg #[.int .i64 ax, .int .i64 ay], .agg #[.int .i64 bx, .int .i64 b_y]] w fun e w' => e = .returned (.agg #[.int .i64 (sub ax bx), .int .i64 (sub ay b_y)]) ∧ Below w.heap.size w w' := by
  go_enter Try.func11, Try.ntmps11
  go_wp2_with (first | (go_at_call 41; refine (gw_at (sub_b _ _ _)).mono ?_; rintro e w1 ⟨rfl, q, rfl⟩))
  repeat
    refine wp_region_gw_tail 11 (by kernel_rfl) (by kernel_rfl) ?_
    simp only [List.take_succ_cons, List.take_zero, List.drop_succ_cons, List.drop_zero]
    repeat (go_big_quiet_step ((first | (go_at_call 41; exact gw_call (sub_b _ _ _)))))
    refine wpQuiet_nil ?_
    intro w1 hw1
    obtain ⟨q, rfl⟩ := hw1
    go_wp2_with (first | (go_at_call 41; refine (gw_at (sub_b _ _ _)).mono ?_; rintro e w1 ⟨rfl, q, rfl⟩))
  exact bodyPost_ret (v := .agg #[.int .i64 (sub ax bx), .int .i64 (sub ay b_y)]) (by simp [results, Try.results11, go_sem]; try (first | rfl | exact ⟨rfl, rfl⟩ | exact ⟨rfl, rfl, rfl⟩ | exact ⟨rfl, rfl, rfl, rfl⟩)) rfl ⟨rfl, (by repeat (first | with_reducible exact Below.refl _ _ | with_reducible assumption | refine bgw ?_ (by first | (simp; done) | (simp; omega) | omega) _ | refine Below.setCell ?_ (by first | exact Nat.le_of_not_lt (by assumption) | (simp; done) | (simp; omega) | omega) _ | refine Below.alloc ?_ (by first | (simp; done) | (simp; omega) | omega) _ | refine Below.drew ?_))⟩

theorem vscale_b (x y k : Int) (w : World) : Calls Try.prog 13 #[.agg #[.int .i64 x, .int .i64 y], .int .i64 k] w fun e w' => e = .returned (.agg #[.int .i64 (mul x k), .int .i64 (mul y k)]) ∧ Below w.heap.size w w' := by
  go_enter Try.func13, Try.ntmps13
  go_wp2_with (first | (go_at_call 43; refine (gw_at (mul_b _ _ _)).mono ?_; rintro e w1 ⟨rfl, q, rfl⟩))
  repeat
    refine wp_region_gw_tail 9 (by kernel_rfl) (by kernel_rfl) ?_
    simp only [List.take_succ_cons, List.take_zero, List.drop_succ_cons, List.drop_zero]
    repeat (go_big_quiet_step ((first | (go_at_call 43; exact gw_call (mul_b _ _ _)))))
    refine wpQuiet_nil ?_
    intro w1 hw1
    obtain ⟨q, rfl⟩ := hw1
    go_wp2_with (first | (go_at_call 43; refine (gw_at (mul_b _ _ _)).mono ?_; rintro e w1 ⟨rfl, q, rfl⟩))
  exact bodyPost_ret (v := .agg #[.int .i64 (mul x k), .int .i64 (mul y k)]) (by simp [results, Try.results13, go_sem]; try (first | rfl | exact ⟨rfl, rfl⟩ | exact ⟨rfl, rfl, rfl⟩ | exact ⟨rfl, rfl, rfl, rfl⟩)) rfl ⟨rfl, (by repeat (first | with_reducible exact Below.refl _ _ | with_reducible assumption | refine bgw ?_ (by first | (simp; done) | (simp; omega) | omega) _ | refine Below.setCell ?_ (by first | exact Nat.le_of_not_lt (by assumption) | (simp; done) | (simp; omega) | omega) _ | refine Below.alloc ?_ (by first | (simp; done) | (simp; omega) | omega) _ | refine Below.drew ?_))⟩

theorem vperp_b (x y : Int) (w : World) : Calls Try.prog 15 #[.agg #[.int .i64 x, .int .i64 y]] w fun e w' => e = .returned (.agg #[.int .i64 (-sat y), .int .i64 (sat x)]) ∧ Below w.heap.size w w' := by
  have h1 := sat_le y; have h2 := sat_ge y
  go_enter Try.func15, Try.ntmps15
  go_wp2_with (first | (go_at_call 45; refine (gw_at (vsat_b _ _ _)).mono ?_; rintro e w1 ⟨rfl, q, rfl⟩))
  exact bodyPost_ret (v := .agg #[.int .i64 (-sat y), .int .i64 (sat x)]) (by simp [results, Try.results15, go_sem]; try (first | rfl | exact ⟨rfl, rfl⟩ | exact ⟨rfl, rfl, rfl⟩ | exact ⟨rfl, rfl, rfl, rfl⟩)) rfl ⟨rfl, (by repeat (first | with_reducible exact Below.refl _ _ | with_reducible assumption | refine bgw ?_ (by first | (simp; done) | (simp; omega) | omega) _ | refine Below.setCell ?_ (by first | exact Nat.le_of_not_lt (by assumption) | (simp; done) | (simp; omega) | omega) _ | refine Below.alloc ?_ (by first | (simp; done) | (simp; omega) | omega) _ | refine Below.drew ?_))⟩

theorem vcs_b (k x y : Int) (w : World) : Calls Try.prog 17 #[.int .i64 k, .agg #[.int .i64 x, .int .i64 y]] w fun e w' => e = .returned (.agg #[.int .i64 (-mul k y), .int .i64 (mul k x)]) ∧ Below w.heap.size w w' := by
  have h1 : -536870911 ≤ mul k y := sat_ge _
  have h2 : mul k y ≤ 536870911 := sat_le _
  go_enter Try.func17, Try.ntmps17
  go_wp2_with (first | (go_at_call 43; refine (gw_at (mul_b _ _ _)).mono ?_; rintro e w1 ⟨rfl, q, rfl⟩))
  repeat
    refine wp_region_gw_tail 10 (by kernel_rfl) (by kernel_rfl) ?_
    simp only [List.take_succ_cons, List.take_zero, List.drop_succ_cons, List.drop_zero]
    repeat (go_big_quiet_step ((first | (go_at_call 43; exact gw_call (mul_b _ _ _)))))
    refine wpQuiet_nil ?_
    intro w1 hw1
    obtain ⟨q, rfl⟩ := hw1
    go_wp2_with (first | (go_at_call 43; refine (gw_at (mul_b _ _ _)).mono ?_; rintro e w1 ⟨rfl, q, rfl⟩))
  exact bodyPost_ret (v := .agg #[.int .i64 (-mul k y), .int .i64 (mul k x)]) (by simp [results, Try.results17, go_sem]; try (first | rfl | exact ⟨rfl, rfl⟩ | exact ⟨rfl, rfl, rfl⟩ | exact ⟨rfl, rfl, rfl, rfl⟩)) rfl ⟨rfl, (by repeat (first | with_reducible exact Below.refl _ _ | with_reducible assumption | refine bgw ?_ (by first | (simp; done) | (simp; omega) | omega) _ | refine Below.setCell ?_ (by first | exact Nat.le_of_not_lt (by assumption) | (simp; done) | (simp; omega) | omega) _ | refine Below.alloc ?_ (by first | (simp; done) | (simp; omega) | omega) _ | refine Below.drew ?_))⟩

theorem vlerp_b (ax ay bx b_y t : Int) (w : World) : Calls Try.prog 19 #[.agg #[.int .i64 ax, .int .i64 ay], .agg #[.int .i64 bx, .int .i64 b_y], .int .i64 t] w fun e w' => e = .returned (.agg #[.int .i64 (lerp ax bx t), .int .i64 (lerp ay b_y t)]) ∧ Below w.heap.size w w' := by
  go_enter Try.func19, Try.ntmps19
  go_wp2_with (first | (go_at_call 47; refine (gw_at (lerp_b _ _ _ _)).mono ?_; rintro e w1 ⟨rfl, q, rfl⟩))
  repeat
    refine wp_region_gw_tail 13 (by kernel_rfl) (by kernel_rfl) ?_
    simp only [List.take_succ_cons, List.take_zero, List.drop_succ_cons, List.drop_zero]
    repeat (go_big_quiet_step ((first | (go_at_call 47; exact gw_call (lerp_b _ _ _ _)))))
    refine wpQuiet_nil ?_
    intro w1 hw1
    obtain ⟨q, rfl⟩ := hw1
    go_wp2_with (first | (go_at_call 47; refine (gw_at (lerp_b _ _ _ _)).mono ?_; rintro e w1 ⟨rfl, q, rfl⟩))
  exact bodyPost_ret (v := .agg #[.int .i64 (lerp ax bx t), .int .i64 (lerp ay b_y t)]) (by simp [results, Try.results19, go_sem]; try (first | rfl | exact ⟨rfl, rfl⟩ | exact ⟨rfl, rfl, rfl⟩ | exact ⟨rfl, rfl, rfl, rfl⟩)) rfl ⟨rfl, (by repeat (first | with_reducible exact Below.refl _ _ | with_reducible assumption | refine bgw ?_ (by first | (simp; done) | (simp; omega) | omega) _ | refine Below.setCell ?_ (by first | exact Nat.le_of_not_lt (by assumption) | (simp; done) | (simp; omega) | omega) _ | refine Below.alloc ?_ (by first | (simp; done) | (simp; omega) | omega) _ | refine Below.drew ?_))⟩

theorem dot_b (ax ay bx b_y : Int) (w : World) : Calls Try.prog 21 #[.agg #[.int .i64 ax, .int .i64 ay], .agg #[.int .i64 bx, .int .i64 b_y]] w fun e w' => e = .returned (.int .i64 (dot ax ay bx b_y)) ∧ Below w.heap.size w w' := by
  have h1 := satmul ax bx; have h2 := satmul ay b_y
  go_enter Try.func21, Try.ntmps21
  go_wp2_with (first | (go_at_call 45; refine (gw_at (vsat_b _ _ _)).mono ?_; rintro e w1 ⟨rfl, q, rfl⟩) | (go_at_call 49; refine (gw_at (round_b _ _)).mono ?_; rintro e w1 ⟨rfl, q, rfl⟩))
  repeat
    refine wp_region_gw_tail 4 (by kernel_rfl) (by kernel_rfl) ?_
    simp only [List.take_succ_cons, List.take_zero, List.drop_succ_cons, List.drop_zero]
    repeat (go_big_quiet_step ((first | (go_at_call 45; exact gw_call (vsat_b _ _ _)) | (go_at_call 49; exact gw_call (round_b _ _)))))
    refine wpQuiet_nil ?_
    intro w1 hw1
    obtain ⟨q, rfl⟩ := hw1
    go_wp2_with (first | (go_at_call 45; refine (gw_at (vsat_b _ _ _)).mono ?_; rintro e w1 ⟨rfl, q, rfl⟩) | (go_at_call 49; refine (gw_at (round_b _ _)).mono ?_; rintro e w1 ⟨rfl, q, rfl⟩))
  go_ret
  exact ⟨rfl, (by repeat (first | with_reducible exact Below.refl _ _ | with_reducible assumption | refine bgw ?_ (by first | (simp; done) | (simp; omega) | omega) _ | refine Below.setCell ?_ (by first | exact Nat.le_of_not_lt (by assumption) | (simp; done) | (simp; omega) | omega) _ | refine Below.alloc ?_ (by first | (simp; done) | (simp; omega) | omega) _ | refine Below.drew ?_))⟩

theorem cross_b (ax ay bx b_y : Int) (w : World) : Calls Try.prog 23 #[.agg #[.int .i64 ax, .int .i64 ay], .agg #[.int .i64 bx, .int .i64 b_y]] w fun e w' => e = .returned (.int .i64 (cross ax ay bx b_y)) ∧ Below w.heap.size w w' := by
  have h1 := satmul ax b_y; have h2 := satmul ay bx
  go_enter Try.func23, Try.ntmps23
  go_wp2_with (first | (go_at_call 45; refine (gw_at (vsat_b _ _ _)).mono ?_; rintro e w1 ⟨rfl, q, rfl⟩) | (go_at_call 49; refine (gw_at (round_b _ _)).mono ?_; rintro e w1 ⟨rfl, q, rfl⟩))
  repeat
    refine wp_region_gw_tail 4 (by kernel_rfl) (by kernel_rfl) ?_
    simp only [List.take_succ_cons, List.take_zero, List.drop_succ_cons, List.drop_zero]
    repeat (go_big_quiet_step ((first | (go_at_call 45; exact gw_call (vsat_b _ _ _)) | (go_at_call 49; exact gw_call (round_b _ _)))))
    refine wpQuiet_nil ?_
    intro w1 hw1
    obtain ⟨q, rfl⟩ := hw1
    go_wp2_with (first | (go_at_call 45; refine (gw_at (vsat_b _ _ _)).mono ?_; rintro e w1 ⟨rfl, q, rfl⟩) | (go_at_call 49; refine (gw_at (round_b _ _)).mono ?_; rintro e w1 ⟨rfl, q, rfl⟩))
  go_ret
  exact ⟨rfl, (by repeat (first | with_reducible exact Below.refl _ _ | with_reducible assumption | refine bgw ?_ (by first | (simp; done) | (simp; omega) | omega) _ | refine Below.setCell ?_ (by first | exact Nat.le_of_not_lt (by assumption) | (simp; done) | (simp; omega) | omega) _ | refine Below.alloc ?_ (by first | (simp; done) | (simp; omega) | omega) _ | refine Below.drew ?_))⟩

theorem vlen_b (x y : Int) (w : World) : Calls Try.prog 25 #[.agg #[.int .i64 x, .int .i64 y]] w fun e w' => e = .returned (.int .i64 (vlen x y)) ∧ Below w.heap.size w w' := by
  have h1 := satmul x x; have h2 := satmul y y
  go_enter Try.func25, Try.ntmps25
  go_wp2_with (first | (go_at_call 45; refine (gw_at (vsat_b _ _ _)).mono ?_; rintro e w1 ⟨rfl, q, rfl⟩) | (go_at_call 51; refine (gw_at (isq_b _ _)).mono ?_; rintro e w1 ⟨rfl, q, rfl⟩))
  go_ret
  exact ⟨rfl, (by repeat (first | with_reducible exact Below.refl _ _ | with_reducible assumption | refine bgw ?_ (by first | (simp; done) | (simp; omega) | omega) _ | refine Below.setCell ?_ (by first | exact Nat.le_of_not_lt (by assumption) | (simp; done) | (simp; omega) | omega) _ | refine Below.alloc ?_ (by first | (simp; done) | (simp; omega) | omega) _ | refine Below.drew ?_))⟩

theorem vnorm0_b (x y : Int) (h : (vlen x y == 0) = true) (w : World) : Calls Try.prog 27 #[.agg #[.int .i64 x, .int .i64 y]] w fun e w' => e = .returned (.agg #[.int .i64 0, .int .i64 0]) ∧ Below w.heap.size w w' := by
  go_enter Try.func27, Try.ntmps27
  go_wp2_with (first | (go_at_call 25; refine (gw_at (vlen_b _ _ _)).mono ?_; rintro e w1 ⟨rfl, q, rfl⟩) | (go_at_call 53; refine (gw_at (div_b _ _ _)).mono ?_; rintro e w1 ⟨rfl, q, rfl⟩))
  exact bodyPost_ret (v := .agg #[.int .i64 0, .int .i64 0]) (by simp [results, Try.results27, go_sem]; try (first | rfl | exact ⟨rfl, rfl⟩ | exact ⟨rfl, rfl, rfl⟩ | exact ⟨rfl, rfl, rfl, rfl⟩)) rfl ⟨rfl, (by repeat (first | with_reducible exact Below.refl _ _ | with_reducible assumption | refine bgw ?_ (by first | (simp; done) | (simp; omega) | omega) _ | refine Below.setCell ?_ (by first | exact Nat.le_of_not_lt (by assumption) | (simp; done) | (simp; omega) | omega) _ | refine Below.alloc ?_ (by first | (simp; done) | (simp; omega) | omega) _ | refine Below.drew ?_))⟩

theorem vnorm1_b (x y : Int) (h : (vlen x y == 0) = false) (w : World) : Calls Try.prog 27 #[.agg #[.int .i64 x, .int .i64 y]] w fun e w' => e = .returned (.agg #[.int .i64 (quo x (vlen x y)), .int .i64 (quo y (vlen x y))]) ∧ Below w.heap.size w w' := by
  go_enter Try.func27, Try.ntmps27
  go_wp2_with (first | (go_at_call 25; refine (gw_at (vlen_b _ _ _)).mono ?_; rintro e w1 ⟨rfl, q, rfl⟩) | (go_at_call 53; refine (gw_at (div_b _ _ _)).mono ?_; rintro e w1 ⟨rfl, q, rfl⟩))
  repeat
    refine wp_region_gw_tail 9 (by kernel_rfl) (by kernel_rfl) ?_
    simp only [List.take_succ_cons, List.take_zero, List.drop_succ_cons, List.drop_zero]
    repeat (go_big_quiet_step ((first | (go_at_call 25; exact gw_call (vlen_b _ _ _)) | (go_at_call 53; exact gw_call (div_b _ _ _)))))
    refine wpQuiet_nil ?_
    intro w1 hw1
    obtain ⟨q, rfl⟩ := hw1
    go_wp2_with (first | (go_at_call 25; refine (gw_at (vlen_b _ _ _)).mono ?_; rintro e w1 ⟨rfl, q, rfl⟩) | (go_at_call 53; refine (gw_at (div_b _ _ _)).mono ?_; rintro e w1 ⟨rfl, q, rfl⟩))
  exact bodyPost_ret (v := .agg #[.int .i64 (quo x (vlen x y)), .int .i64 (quo y (vlen x y))]) (by simp [results, Try.results27, go_sem]; try (first | rfl | exact ⟨rfl, rfl⟩ | exact ⟨rfl, rfl, rfl⟩ | exact ⟨rfl, rfl, rfl, rfl⟩)) rfl ⟨rfl, (by repeat (first | with_reducible exact Below.refl _ _ | with_reducible assumption | refine bgw ?_ (by first | (simp; done) | (simp; omega) | omega) _ | refine Below.setCell ?_ (by first | exact Nat.le_of_not_lt (by assumption) | (simp; done) | (simp; omega) | omega) _ | refine Below.alloc ?_ (by first | (simp; done) | (simp; omega) | omega) _ | refine Below.drew ?_))⟩

theorem vnorm_b (x y : Int) (w : World) : Calls Try.prog 27 #[.agg #[.int .i64 x, .int .i64 y]] w fun e w' => e = .returned (.agg #[.int .i64 (unit x (vlen x y)), .int .i64 (unit y (vlen x y))]) ∧ Below w.heap.size w w' := by
  by_cases h : vlen x y = 0
  · have e : ∀ c, unit c (vlen x y) = 0 := fun c => by unfold unit; rw [if_pos h]
    rw [e x, e y]; exact vnorm0_b x y (by rw [beq_iff_eq]; exact h) w
  · have e : ∀ c, unit c (vlen x y) = quo c (vlen x y) := fun c => by unfold unit; rw [if_neg h]
    rw [e x, e y]; exact vnorm1_b x y (by rw [beq_eq_false_iff_ne]; exact h) w

theorem vrot_b (c s x y : Int) (w : World) : Calls Try.prog 32 #[.agg #[.int .i64 c, .int .i64 s], .agg #[.int .i64 x, .int .i64 y]] w fun e w' => e = .returned (.agg #[.int .i64 (rotx c s x y), .int .i64 (roty c s x y)]) ∧ Below w.heap.size w w' := by
  have h1 := satmul c x; have h2 := satmul s y; have h3 := satmul s x; have h4 := satmul c y
  go_enter Try.func32, Try.ntmps32
  go_wp2_with (first | (go_at_call 56; refine (gw_at (vrsat_b _ _ _)).mono ?_; rintro e w1 ⟨rfl, q, rfl⟩) | (go_at_call 45; refine (gw_at (vsat_b _ _ _)).mono ?_; rintro e w1 ⟨rfl, q, rfl⟩) | (go_at_call 49; refine (gw_at (round_b _ _)).mono ?_; rintro e w1 ⟨rfl, q, rfl⟩))
  repeat
    first
      | (refine wp_region_gw_tail 4 (by kernel_rfl) (by decide +kernel) ?_
         simp only [List.take_succ_cons, List.take_zero, List.drop_succ_cons, List.drop_zero]
         repeat (go_big_quiet_step ((first | (go_at_call 56; exact gw_call (vrsat_b _ _ _)) | (go_at_call 45; exact gw_call (vsat_b _ _ _)) | (go_at_call 49; exact gw_call (round_b _ _)))))
         refine wpQuiet_nil ?_
         intro w1 hw1
         obtain ⟨q, rfl⟩ := hw1)
      | (refine wp_region_gw_tail 25 (by kernel_rfl) (by decide +kernel) ?_
         simp only [List.take_succ_cons, List.take_zero, List.drop_succ_cons, List.drop_zero]
         repeat (go_big_quiet_step ((first | (go_at_call 56; exact gw_call (vrsat_b _ _ _)) | (go_at_call 45; exact gw_call (vsat_b _ _ _)) | (go_at_call 49; exact gw_call (round_b _ _)))))
         refine wpQuiet_nil ?_
         intro w1 hw1
         obtain ⟨q, rfl⟩ := hw1)
    go_wp2_with (first | (go_at_call 56; refine (gw_at (vrsat_b _ _ _)).mono ?_; rintro e w1 ⟨rfl, q, rfl⟩) | (go_at_call 45; refine (gw_at (vsat_b _ _ _)).mono ?_; rintro e w1 ⟨rfl, q, rfl⟩) | (go_at_call 49; refine (gw_at (round_b _ _)).mono ?_; rintro e w1 ⟨rfl, q, rfl⟩))
  exact bodyPost_ret (v := .agg #[.int .i64 (rotx c s x y), .int .i64 (roty c s x y)]) (by simp [results, Try.results32, go_sem]; try (first | rfl | exact ⟨rfl, rfl⟩ | exact ⟨rfl, rfl, rfl⟩ | exact ⟨rfl, rfl, rfl, rfl⟩)) rfl ⟨rfl, (by repeat (first | with_reducible exact Below.refl _ _ | with_reducible assumption | refine bgw ?_ (by first | (simp; done) | (simp; omega) | omega) _ | refine Below.setCell ?_ (by first | exact Nat.le_of_not_lt (by assumption) | (simp; done) | (simp; omega) | omega) _ | refine Below.alloc ?_ (by first | (simp; done) | (simp; omega) | omega) _ | refine Below.drew ?_))⟩

theorem virot_b (c s x y : Int) (w : World) : Calls Try.prog 34 #[.agg #[.int .i64 c, .int .i64 s], .agg #[.int .i64 x, .int .i64 y]] w fun e w' => e = .returned (.agg #[.int .i64 (irotx c s x y), .int .i64 (iroty c s x y)]) ∧ Below w.heap.size w w' := by
  have h1 := satmul c x; have h2 := satmul s y; have h3 := satmul s x; have h4 := satmul c y
  go_enter Try.func34, Try.ntmps34
  go_wp2_with (first | (go_at_call 56; refine (gw_at (vrsat_b _ _ _)).mono ?_; rintro e w1 ⟨rfl, q, rfl⟩) | (go_at_call 45; refine (gw_at (vsat_b _ _ _)).mono ?_; rintro e w1 ⟨rfl, q, rfl⟩) | (go_at_call 49; refine (gw_at (round_b _ _)).mono ?_; rintro e w1 ⟨rfl, q, rfl⟩))
  repeat
    first
      | (refine wp_region_gw_tail 4 (by kernel_rfl) (by decide +kernel) ?_
         simp only [List.take_succ_cons, List.take_zero, List.drop_succ_cons, List.drop_zero]
         repeat (go_big_quiet_step ((first | (go_at_call 56; exact gw_call (vrsat_b _ _ _)) | (go_at_call 45; exact gw_call (vsat_b _ _ _)) | (go_at_call 49; exact gw_call (round_b _ _)))))
         refine wpQuiet_nil ?_
         intro w1 hw1
         obtain ⟨q, rfl⟩ := hw1)
      | (refine wp_region_gw_tail 25 (by kernel_rfl) (by decide +kernel) ?_
         simp only [List.take_succ_cons, List.take_zero, List.drop_succ_cons, List.drop_zero]
         repeat (go_big_quiet_step ((first | (go_at_call 56; exact gw_call (vrsat_b _ _ _)) | (go_at_call 45; exact gw_call (vsat_b _ _ _)) | (go_at_call 49; exact gw_call (round_b _ _)))))
         refine wpQuiet_nil ?_
         intro w1 hw1
         obtain ⟨q, rfl⟩ := hw1)
    go_wp2_with (first | (go_at_call 56; refine (gw_at (vrsat_b _ _ _)).mono ?_; rintro e w1 ⟨rfl, q, rfl⟩) | (go_at_call 45; refine (gw_at (vsat_b _ _ _)).mono ?_; rintro e w1 ⟨rfl, q, rfl⟩) | (go_at_call 49; refine (gw_at (round_b _ _)).mono ?_; rintro e w1 ⟨rfl, q, rfl⟩))
  exact bodyPost_ret (v := .agg #[.int .i64 (irotx c s x y), .int .i64 (iroty c s x y)]) (by simp [results, Try.results34, go_sem]; try (first | rfl | exact ⟨rfl, rfl⟩ | exact ⟨rfl, rfl, rfl⟩ | exact ⟨rfl, rfl, rfl, rfl⟩)) rfl ⟨rfl, (by repeat (first | with_reducible exact Below.refl _ _ | with_reducible assumption | refine bgw ?_ (by first | (simp; done) | (simp; omega) | omega) _ | refine Below.setCell ?_ (by first | exact Nat.le_of_not_lt (by assumption) | (simp; done) | (simp; omega) | omega) _ | refine Below.alloc ?_ (by first | (simp; done) | (simp; omega) | omega) _ | refine Below.drew ?_))⟩

theorem orient_b (ax ay bx b_y cx cy : Int) (w : World) : Calls Try.prog 36 #[.agg #[.int .i64 ax, .int .i64 ay], .agg #[.int .i64 bx, .int .i64 b_y], .agg #[.int .i64 cx, .int .i64 cy]] w fun e w' => e = .returned (.int .i64 (orient ax ay bx b_y cx cy)) ∧ Below w.heap.size w w' := by
  have d1 := diffmul (a := bx) (b := ax) (c := cy) (d := ay); have d2 := diffmul (a := b_y) (b := ay) (c := cx) (d := ax)
  go_enter Try.func36, Try.ntmps36
  go_wp2_with (first | (go_at_call 55; refine (gw_at (vdiff_b _ _ _ _ _)).mono ?_; rintro e w1 ⟨rfl, q, rfl⟩) | (go_at_call 57; refine (gw_at (cmp_b _ _ _)).mono ?_; rintro e w1 ⟨rfl, q, rfl⟩))
  repeat
    apply wp_box2 8 26 6 7 7 8 #[.int .i64 0, .int .i64 0] #[.int .i64 0, .int .i64 0] 23 23 (by kernel_rfl) (by rfl) (by kernel_rfl) (by rfl) (by intro o ho a w; simp at ho; subst ho; simp [go_sem, ptr]) (by intro o ho a w; simp at ho; subst ho; simp [go_sem, ptr])
    · intro p0
      simp only [heads, ghost, List.take_succ_cons, List.take_zero, List.map_cons, List.map_nil]
      repeat (go_big_quiet_step ((first | (go_at_call 55; exact gw_call (vdiff_b _ _ _ _ _)) | (go_at_call 57; exact gw_call (cmp_b _ _ _)))))
      exact wpQuiet_nil rfl
    · intro R b1 b2 p0 n1 n2 g1 g2 ne01 ne01' k1 k2 hK
      simp only [List.drop_succ_cons, List.drop_zero, Act.put, ptr, List.setIfInBounds_toArray, List.set_cons_succ, List.set_cons_zero]
      have c1_0 : _ = some _ := blk_cell k1 0
      have c1_1 : _ = some _ := blk_cell k1 1
      have c2_0 : _ = some _ := blk_cell k2 0
      have c2_1 : _ = some _ := blk_cell k2 1
      have f1_0 := blk_free k1 0
      have f1_1 := blk_free k1 1
      have f2_0 := blk_free k2 0
      have f2_1 := blk_free k2 1
      have o1 := blk_older k1
      have o2 := blk_older k2
      go_wp2_with fail
      refine box_end2 g1 g2 hK ?_ ?_ ?_
      · exact (by repeat (first | with_reducible exact Below.refl _ _ | with_reducible assumption | refine bgw ?_ (by first | (simp; done) | (simp; omega) | omega) _ | refine Below.setCell ?_ (by first | exact Nat.le_of_not_lt (by assumption) | (simp; done) | (simp; omega) | omega) _ | refine Below.alloc ?_ (by first | (simp; done) | (simp; omega) | omega) _ | refine Below.drew ?_))
      · exact (by repeat' (first | with_reducible assumption | with_reducible apply blk_gw | with_reducible apply blk_alloc | with_reducible apply blk_set | ((with_reducible apply blk_other); focus (first | omega | assumption))))
      · exact (by repeat' (first | with_reducible assumption | with_reducible apply blk_gw | with_reducible apply blk_alloc | with_reducible apply blk_set | ((with_reducible apply blk_other); focus (first | omega | assumption))))
    intro b1 b2 p0 n1 n2 ne01 ne01' k1 k2
    have c1_0 : _ = some _ := blk_cell k1 0
    have c1_1 : _ = some _ := blk_cell k1 1
    have c2_0 : _ = some _ := blk_cell k2 0
    have c2_1 : _ = some _ := blk_cell k2 1
    have f1_0 := blk_free k1 0
    have f1_1 := blk_free k1 1
    have f2_0 := blk_free k2 0
    have f2_1 := blk_free k2 1
    have o1 := blk_older k1
    have o2 := blk_older k2
    go_wp2_with (first | (go_at_call 55; refine (gw_at (vdiff_b _ _ _ _ _)).mono ?_; rintro e w1 ⟨rfl, q, rfl⟩) | (go_at_call 57; refine (gw_at (cmp_b _ _ _)).mono ?_; rintro e w1 ⟨rfl, q, rfl⟩))
  go_ret
  exact ⟨rfl, (by repeat (first | with_reducible exact Below.refl _ _ | with_reducible assumption | refine bgw ?_ (by first | (simp; done) | (simp; omega) | omega) _ | refine Below.setCell ?_ (by first | exact Nat.le_of_not_lt (by assumption) | (simp; done) | (simp; omega) | omega) _ | refine Below.alloc ?_ (by first | (simp; done) | (simp; omega) | omega) _ | refine Below.drew ?_))⟩

theorem dist2_b (ax ay bx b_y : Int) (w : World) : Calls Try.prog 29 #[.agg #[.int .i64 ax, .int .i64 ay], .agg #[.int .i64 bx, .int .i64 b_y]] w fun e w' => e = .returned (.int .i64 (dist2 ax ay bx b_y)) ∧ Below w.heap.size w w' := by
  have d1 := diffmul (a := bx) (b := ax) (c := bx) (d := ax); have d2 := diffmul (a := b_y) (b := ay) (c := b_y) (d := ay)
  go_enter Try.func29, Try.ntmps29
  go_wp2_with (first | (go_at_call 55; refine (gw_at (vdiff_b _ _ _ _ _)).mono ?_; rintro e w1 ⟨rfl, q, rfl⟩))
  go_ret
  exact ⟨rfl, (by repeat (first | with_reducible exact Below.refl _ _ | with_reducible assumption | refine bgw ?_ (by first | (simp; done) | (simp; omega) | omega) _ | refine Below.setCell ?_ (by first | exact Nat.le_of_not_lt (by assumption) | (simp; done) | (simp; omega) | omega) _ | refine Below.alloc ?_ (by first | (simp; done) | (simp; omega) | omega) _ | refine Below.drew ?_))⟩

theorem rvsat_b (x y : Int) (w : World) : Calls Try.prog 46 #[.agg #[.int .i64 x, .int .i64 y]] w fun e w' => e = .returned (.agg #[.int .i64 (sat x), .int .i64 (sat y)]) ∧ Below w.heap.size w w' := by
  go_enter Try.func46, Try.ntmps46
  go_wp2_with (first | (go_at_call 38; refine (gw_at (rsat_b _ _)).mono ?_; rintro e w1 ⟨rfl, q, rfl⟩))
  repeat
    refine wp_region_gw_tail 7 (by kernel_rfl) (by kernel_rfl) ?_
    simp only [List.take_succ_cons, List.take_zero, List.drop_succ_cons, List.drop_zero]
    repeat (go_big_quiet_step ((first | (go_at_call 38; exact gw_call (rsat_b _ _)))))
    refine wpQuiet_nil ?_
    intro w1 hw1
    obtain ⟨q, rfl⟩ := hw1
    go_wp2_with (first | (go_at_call 38; refine (gw_at (rsat_b _ _)).mono ?_; rintro e w1 ⟨rfl, q, rfl⟩))
  exact bodyPost_ret (v := .agg #[.int .i64 (sat x), .int .i64 (sat y)]) (by simp [results, Try.results46, go_sem]; try (first | rfl | exact ⟨rfl, rfl⟩ | exact ⟨rfl, rfl, rfl⟩ | exact ⟨rfl, rfl, rfl, rfl⟩)) rfl ⟨rfl, (by repeat (first | with_reducible exact Below.refl _ _ | with_reducible assumption | refine bgw ?_ (by first | (simp; done) | (simp; omega) | omega) _ | refine Below.setCell ?_ (by first | exact Nat.le_of_not_lt (by assumption) | (simp; done) | (simp; omega) | omega) _ | refine Below.alloc ?_ (by first | (simp; done) | (simp; omega) | omega) _ | refine Below.drew ?_))⟩

theorem rvadd_b (ax ay bx b_y : Int) (w : World) : Calls Try.prog 10 #[.agg #[.int .i64 ax, .int .i64 ay], .agg #[.int .i64 bx, .int .i64 b_y]] w fun e w' => e = .returned (.agg #[.int .i64 (add ax bx), .int .i64 (add ay b_y)]) ∧ Below w.heap.size w w' := by
  go_enter Try.func10, Try.ntmps10
  go_wp2_with (first | (go_at_call 40; refine (gw_at (radd_b _ _ _)).mono ?_; rintro e w1 ⟨rfl, q, rfl⟩))
  repeat
    refine wp_region_gw_tail 11 (by kernel_rfl) (by kernel_rfl) ?_
    simp only [List.take_succ_cons, List.take_zero, List.drop_succ_cons, List.drop_zero]
    repeat (go_big_quiet_step ((first | (go_at_call 40; exact gw_call (radd_b _ _ _)))))
    refine wpQuiet_nil ?_
    intro w1 hw1
    obtain ⟨q, rfl⟩ := hw1
    go_wp2_with (first | (go_at_call 40; refine (gw_at (radd_b _ _ _)).mono ?_; rintro e w1 ⟨rfl, q, rfl⟩))
  exact bodyPost_ret (v := .agg #[.int .i64 (add ax bx), .int .i64 (add ay b_y)]) (by simp [results, Try.results10, go_sem]; try (first | rfl | exact ⟨rfl, rfl⟩ | exact ⟨rfl, rfl, rfl⟩ | exact ⟨rfl, rfl, rfl, rfl⟩)) rfl ⟨rfl, (by repeat (first | with_reducible exact Below.refl _ _ | with_reducible assumption | refine bgw ?_ (by first | (simp; done) | (simp; omega) | omega) _ | refine Below.setCell ?_ (by first | exact Nat.le_of_not_lt (by assumption) | (simp; done) | (simp; omega) | omega) _ | refine Below.alloc ?_ (by first | (simp; done) | (simp; omega) | omega) _ | refine Below.drew ?_))⟩

theorem rvsub_b (ax ay bx b_y : Int) (w : World) : Calls Try.prog 12 #[.agg #[.int .i64 ax, .int .i64 ay], .agg #[.int .i64 bx, .int .i64 b_y]] w fun e w' => e = .returned (.agg #[.int .i64 (sub ax bx), .int .i64 (sub ay b_y)]) ∧ Below w.heap.size w w' := by
  go_enter Try.func12, Try.ntmps12
  go_wp2_with (first | (go_at_call 42; refine (gw_at (rsub_b _ _ _)).mono ?_; rintro e w1 ⟨rfl, q, rfl⟩))
  repeat
    refine wp_region_gw_tail 11 (by kernel_rfl) (by kernel_rfl) ?_
    simp only [List.take_succ_cons, List.take_zero, List.drop_succ_cons, List.drop_zero]
    repeat (go_big_quiet_step ((first | (go_at_call 42; exact gw_call (rsub_b _ _ _)))))
    refine wpQuiet_nil ?_
    intro w1 hw1
    obtain ⟨q, rfl⟩ := hw1
    go_wp2_with (first | (go_at_call 42; refine (gw_at (rsub_b _ _ _)).mono ?_; rintro e w1 ⟨rfl, q, rfl⟩))
  exact bodyPost_ret (v := .agg #[.int .i64 (sub ax bx), .int .i64 (sub ay b_y)]) (by simp [results, Try.results12, go_sem]; try (first | rfl | exact ⟨rfl, rfl⟩ | exact ⟨rfl, rfl, rfl⟩ | exact ⟨rfl, rfl, rfl, rfl⟩)) rfl ⟨rfl, (by repeat (first | with_reducible exact Below.refl _ _ | with_reducible assumption | refine bgw ?_ (by first | (simp; done) | (simp; omega) | omega) _ | refine Below.setCell ?_ (by first | exact Nat.le_of_not_lt (by assumption) | (simp; done) | (simp; omega) | omega) _ | refine Below.alloc ?_ (by first | (simp; done) | (simp; omega) | omega) _ | refine Below.drew ?_))⟩

theorem rvscale_b (x y k : Int) (w : World) : Calls Try.prog 14 #[.agg #[.int .i64 x, .int .i64 y], .int .i64 k] w fun e w' => e = .returned (.agg #[.int .i64 (mul x k), .int .i64 (mul y k)]) ∧ Below w.heap.size w w' := by
  go_enter Try.func14, Try.ntmps14
  go_wp2_with (first | (go_at_call 44; refine (gw_at (rmul_b _ _ _)).mono ?_; rintro e w1 ⟨rfl, q, rfl⟩))
  repeat
    refine wp_region_gw_tail 9 (by kernel_rfl) (by kernel_rfl) ?_
    simp only [List.take_succ_cons, List.take_zero, List.drop_succ_cons, List.drop_zero]
    repeat (go_big_quiet_step ((first | (go_at_call 44; exact gw_call (rmul_b _ _ _)))))
    refine wpQuiet_nil ?_
    intro w1 hw1
    obtain ⟨q, rfl⟩ := hw1
    go_wp2_with (first | (go_at_call 44; refine (gw_at (rmul_b _ _ _)).mono ?_; rintro e w1 ⟨rfl, q, rfl⟩))
  exact bodyPost_ret (v := .agg #[.int .i64 (mul x k), .int .i64 (mul y k)]) (by simp [results, Try.results14, go_sem]; try (first | rfl | exact ⟨rfl, rfl⟩ | exact ⟨rfl, rfl, rfl⟩ | exact ⟨rfl, rfl, rfl, rfl⟩)) rfl ⟨rfl, (by repeat (first | with_reducible exact Below.refl _ _ | with_reducible assumption | refine bgw ?_ (by first | (simp; done) | (simp; omega) | omega) _ | refine Below.setCell ?_ (by first | exact Nat.le_of_not_lt (by assumption) | (simp; done) | (simp; omega) | omega) _ | refine Below.alloc ?_ (by first | (simp; done) | (simp; omega) | omega) _ | refine Below.drew ?_))⟩

theorem rvperp_b (x y : Int) (w : World) : Calls Try.prog 16 #[.agg #[.int .i64 x, .int .i64 y]] w fun e w' => e = .returned (.agg #[.int .i64 (-sat y), .int .i64 (sat x)]) ∧ Below w.heap.size w w' := by
  have h1 := sat_le y; have h2 := sat_ge y
  go_enter Try.func16, Try.ntmps16
  go_wp2_with (first | (go_at_call 46; refine (gw_at (rvsat_b _ _ _)).mono ?_; rintro e w1 ⟨rfl, q, rfl⟩))
  exact bodyPost_ret (v := .agg #[.int .i64 (-sat y), .int .i64 (sat x)]) (by simp [results, Try.results16, go_sem]; try (first | rfl | exact ⟨rfl, rfl⟩ | exact ⟨rfl, rfl, rfl⟩ | exact ⟨rfl, rfl, rfl, rfl⟩)) rfl ⟨rfl, (by repeat (first | with_reducible exact Below.refl _ _ | with_reducible assumption | refine bgw ?_ (by first | (simp; done) | (simp; omega) | omega) _ | refine Below.setCell ?_ (by first | exact Nat.le_of_not_lt (by assumption) | (simp; done) | (simp; omega) | omega) _ | refine Below.alloc ?_ (by first | (simp; done) | (simp; omega) | omega) _ | refine Below.drew ?_))⟩

theorem rvcs_b (k x y : Int) (w : World) : Calls Try.prog 18 #[.int .i64 k, .agg #[.int .i64 x, .int .i64 y]] w fun e w' => e = .returned (.agg #[.int .i64 (-mul k y), .int .i64 (mul k x)]) ∧ Below w.heap.size w w' := by
  have h1 : -536870911 ≤ mul k y := sat_ge _
  have h2 : mul k y ≤ 536870911 := sat_le _
  go_enter Try.func18, Try.ntmps18
  go_wp2_with (first | (go_at_call 44; refine (gw_at (rmul_b _ _ _)).mono ?_; rintro e w1 ⟨rfl, q, rfl⟩))
  repeat
    refine wp_region_gw_tail 10 (by kernel_rfl) (by kernel_rfl) ?_
    simp only [List.take_succ_cons, List.take_zero, List.drop_succ_cons, List.drop_zero]
    repeat (go_big_quiet_step ((first | (go_at_call 44; exact gw_call (rmul_b _ _ _)))))
    refine wpQuiet_nil ?_
    intro w1 hw1
    obtain ⟨q, rfl⟩ := hw1
    go_wp2_with (first | (go_at_call 44; refine (gw_at (rmul_b _ _ _)).mono ?_; rintro e w1 ⟨rfl, q, rfl⟩))
  exact bodyPost_ret (v := .agg #[.int .i64 (-mul k y), .int .i64 (mul k x)]) (by simp [results, Try.results18, go_sem]; try (first | rfl | exact ⟨rfl, rfl⟩ | exact ⟨rfl, rfl, rfl⟩ | exact ⟨rfl, rfl, rfl, rfl⟩)) rfl ⟨rfl, (by repeat (first | with_reducible exact Below.refl _ _ | with_reducible assumption | refine bgw ?_ (by first | (simp; done) | (simp; omega) | omega) _ | refine Below.setCell ?_ (by first | exact Nat.le_of_not_lt (by assumption) | (simp; done) | (simp; omega) | omega) _ | refine Below.alloc ?_ (by first | (simp; done) | (simp; omega) | omega) _ | refine Below.drew ?_))⟩

theorem rvlerp_b (ax ay bx b_y t : Int) (w : World) : Calls Try.prog 20 #[.agg #[.int .i64 ax, .int .i64 ay], .agg #[.int .i64 bx, .int .i64 b_y], .int .i64 t] w fun e w' => e = .returned (.agg #[.int .i64 (lerp ax bx t), .int .i64 (lerp ay b_y t)]) ∧ Below w.heap.size w w' := by
  go_enter Try.func20, Try.ntmps20
  go_wp2_with (first | (go_at_call 48; refine (gw_at (rlerp_b _ _ _ _)).mono ?_; rintro e w1 ⟨rfl, q, rfl⟩))
  repeat
    refine wp_region_gw_tail 13 (by kernel_rfl) (by kernel_rfl) ?_
    simp only [List.take_succ_cons, List.take_zero, List.drop_succ_cons, List.drop_zero]
    repeat (go_big_quiet_step ((first | (go_at_call 48; exact gw_call (rlerp_b _ _ _ _)))))
    refine wpQuiet_nil ?_
    intro w1 hw1
    obtain ⟨q, rfl⟩ := hw1
    go_wp2_with (first | (go_at_call 48; refine (gw_at (rlerp_b _ _ _ _)).mono ?_; rintro e w1 ⟨rfl, q, rfl⟩))
  exact bodyPost_ret (v := .agg #[.int .i64 (lerp ax bx t), .int .i64 (lerp ay b_y t)]) (by simp [results, Try.results20, go_sem]; try (first | rfl | exact ⟨rfl, rfl⟩ | exact ⟨rfl, rfl, rfl⟩ | exact ⟨rfl, rfl, rfl, rfl⟩)) rfl ⟨rfl, (by repeat (first | with_reducible exact Below.refl _ _ | with_reducible assumption | refine bgw ?_ (by first | (simp; done) | (simp; omega) | omega) _ | refine Below.setCell ?_ (by first | exact Nat.le_of_not_lt (by assumption) | (simp; done) | (simp; omega) | omega) _ | refine Below.alloc ?_ (by first | (simp; done) | (simp; omega) | omega) _ | refine Below.drew ?_))⟩

theorem rdot_b (ax ay bx b_y : Int) (w : World) : Calls Try.prog 22 #[.agg #[.int .i64 ax, .int .i64 ay], .agg #[.int .i64 bx, .int .i64 b_y]] w fun e w' => e = .returned (.int .i64 (dot ax ay bx b_y)) ∧ Below w.heap.size w w' := by
  have h1 := satmul ax bx; have h2 := satmul ay b_y
  go_enter Try.func22, Try.ntmps22
  go_wp2_with (first | (go_at_call 46; refine (gw_at (rvsat_b _ _ _)).mono ?_; rintro e w1 ⟨rfl, q, rfl⟩) | (go_at_call 50; refine (gw_at (rrd_b _ _ _)).mono ?_; rintro e w1 ⟨rfl, q, rfl⟩) | (go_at_call 38; refine (gw_at (rsat_b _ _)).mono ?_; rintro e w1 ⟨rfl, q, rfl⟩))
  go_ret
  exact ⟨rfl, (by repeat (first | with_reducible exact Below.refl _ _ | with_reducible assumption | refine bgw ?_ (by first | (simp; done) | (simp; omega) | omega) _ | refine Below.setCell ?_ (by first | exact Nat.le_of_not_lt (by assumption) | (simp; done) | (simp; omega) | omega) _ | refine Below.alloc ?_ (by first | (simp; done) | (simp; omega) | omega) _ | refine Below.drew ?_))⟩

theorem rcross_b (ax ay bx b_y : Int) (w : World) : Calls Try.prog 24 #[.agg #[.int .i64 ax, .int .i64 ay], .agg #[.int .i64 bx, .int .i64 b_y]] w fun e w' => e = .returned (.int .i64 (cross ax ay bx b_y)) ∧ Below w.heap.size w w' := by
  have h1 := satmul ax b_y; have h2 := satmul ay bx
  go_enter Try.func24, Try.ntmps24
  go_wp2_with (first | (go_at_call 46; refine (gw_at (rvsat_b _ _ _)).mono ?_; rintro e w1 ⟨rfl, q, rfl⟩) | (go_at_call 50; refine (gw_at (rrd_b _ _ _)).mono ?_; rintro e w1 ⟨rfl, q, rfl⟩) | (go_at_call 38; refine (gw_at (rsat_b _ _)).mono ?_; rintro e w1 ⟨rfl, q, rfl⟩))
  go_ret
  exact ⟨rfl, (by repeat (first | with_reducible exact Below.refl _ _ | with_reducible assumption | refine bgw ?_ (by first | (simp; done) | (simp; omega) | omega) _ | refine Below.setCell ?_ (by first | exact Nat.le_of_not_lt (by assumption) | (simp; done) | (simp; omega) | omega) _ | refine Below.alloc ?_ (by first | (simp; done) | (simp; omega) | omega) _ | refine Below.drew ?_))⟩

theorem rvlen_b (x y : Int) (w : World) : Calls Try.prog 26 #[.agg #[.int .i64 x, .int .i64 y]] w fun e w' => e = .returned (.int .i64 (vlen x y)) ∧ Below w.heap.size w w' := by
  have h1 := satmul x x; have h2 := satmul y y
  go_enter Try.func26, Try.ntmps26
  go_wp2_with (first | (go_at_call 46; refine (gw_at (rvsat_b _ _ _)).mono ?_; rintro e w1 ⟨rfl, q, rfl⟩) | (go_at_call 52; refine (gw_at (risq_b _ _)).mono ?_; rintro e w1 ⟨rfl, q, rfl⟩))
  go_ret
  exact ⟨rfl, (by repeat (first | with_reducible exact Below.refl _ _ | with_reducible assumption | refine bgw ?_ (by first | (simp; done) | (simp; omega) | omega) _ | refine Below.setCell ?_ (by first | exact Nat.le_of_not_lt (by assumption) | (simp; done) | (simp; omega) | omega) _ | refine Below.alloc ?_ (by first | (simp; done) | (simp; omega) | omega) _ | refine Below.drew ?_))⟩

theorem rvnorm0_b (x y : Int) (h : (vlen x y == 0) = true) (w : World) : Calls Try.prog 28 #[.agg #[.int .i64 x, .int .i64 y]] w fun e w' => e = .returned (.agg #[.int .i64 0, .int .i64 0]) ∧ Below w.heap.size w w' := by
  go_enter Try.func28, Try.ntmps28
  go_wp2_with (first | (go_at_call 26; refine (gw_at (rvlen_b _ _ _)).mono ?_; rintro e w1 ⟨rfl, q, rfl⟩) | (go_at_call 54; refine (gw_at (rdiv_b _ _ _)).mono ?_; rintro e w1 ⟨rfl, q, rfl⟩))
  exact bodyPost_ret (v := .agg #[.int .i64 0, .int .i64 0]) (by simp [results, Try.results28, go_sem]; try (first | rfl | exact ⟨rfl, rfl⟩ | exact ⟨rfl, rfl, rfl⟩ | exact ⟨rfl, rfl, rfl, rfl⟩)) rfl ⟨rfl, (by repeat (first | with_reducible exact Below.refl _ _ | with_reducible assumption | refine bgw ?_ (by first | (simp; done) | (simp; omega) | omega) _ | refine Below.setCell ?_ (by first | exact Nat.le_of_not_lt (by assumption) | (simp; done) | (simp; omega) | omega) _ | refine Below.alloc ?_ (by first | (simp; done) | (simp; omega) | omega) _ | refine Below.drew ?_))⟩

theorem rvnorm1_b (x y : Int) (h : (vlen x y == 0) = false) (w : World) : Calls Try.prog 28 #[.agg #[.int .i64 x, .int .i64 y]] w fun e w' => e = .returned (.agg #[.int .i64 (quo x (vlen x y)), .int .i64 (quo y (vlen x y))]) ∧ Below w.heap.size w w' := by
  go_enter Try.func28, Try.ntmps28
  go_wp2_with (first | (go_at_call 26; refine (gw_at (rvlen_b _ _ _)).mono ?_; rintro e w1 ⟨rfl, q, rfl⟩) | (go_at_call 54; refine (gw_at (rdiv_b _ _ _)).mono ?_; rintro e w1 ⟨rfl, q, rfl⟩))
  repeat
    refine wp_region_gw_tail 9 (by kernel_rfl) (by kernel_rfl) ?_
    simp only [List.take_succ_cons, List.take_zero, List.drop_succ_cons, List.drop_zero]
    repeat (go_big_quiet_step ((first | (go_at_call 26; exact gw_call (rvlen_b _ _ _)) | (go_at_call 54; exact gw_call (rdiv_b _ _ _)))))
    refine wpQuiet_nil ?_
    intro w1 hw1
    obtain ⟨q, rfl⟩ := hw1
    go_wp2_with (first | (go_at_call 26; refine (gw_at (rvlen_b _ _ _)).mono ?_; rintro e w1 ⟨rfl, q, rfl⟩) | (go_at_call 54; refine (gw_at (rdiv_b _ _ _)).mono ?_; rintro e w1 ⟨rfl, q, rfl⟩))
  exact bodyPost_ret (v := .agg #[.int .i64 (quo x (vlen x y)), .int .i64 (quo y (vlen x y))]) (by simp [results, Try.results28, go_sem]; try (first | rfl | exact ⟨rfl, rfl⟩ | exact ⟨rfl, rfl, rfl⟩ | exact ⟨rfl, rfl, rfl, rfl⟩)) rfl ⟨rfl, (by repeat (first | with_reducible exact Below.refl _ _ | with_reducible assumption | refine bgw ?_ (by first | (simp; done) | (simp; omega) | omega) _ | refine Below.setCell ?_ (by first | exact Nat.le_of_not_lt (by assumption) | (simp; done) | (simp; omega) | omega) _ | refine Below.alloc ?_ (by first | (simp; done) | (simp; omega) | omega) _ | refine Below.drew ?_))⟩

theorem rvnorm_b (x y : Int) (w : World) : Calls Try.prog 28 #[.agg #[.int .i64 x, .int .i64 y]] w fun e w' => e = .returned (.agg #[.int .i64 (unit x (vlen x y)), .int .i64 (unit y (vlen x y))]) ∧ Below w.heap.size w w' := by
  by_cases h : vlen x y = 0
  · have e : ∀ c, unit c (vlen x y) = 0 := fun c => by unfold unit; rw [if_pos h]
    rw [e x, e y]; exact rvnorm0_b x y (by rw [beq_iff_eq]; exact h) w
  · have e : ∀ c, unit c (vlen x y) = quo c (vlen x y) := fun c => by unfold unit; rw [if_neg h]
    rw [e x, e y]; exact rvnorm1_b x y (by rw [beq_eq_false_iff_ne]; exact h) w

theorem rvrot_b (c s x y : Int) (w : World) : Calls Try.prog 33 #[.agg #[.int .i64 c, .int .i64 s], .agg #[.int .i64 x, .int .i64 y]] w fun e w' => e = .returned (.agg #[.int .i64 (rotx c s x y), .int .i64 (roty c s x y)]) ∧ Below w.heap.size w w' := by
  have h1 := satmul c x; have h2 := satmul s y; have h3 := satmul s x; have h4 := satmul c y
  go_enter Try.func33, Try.ntmps33
  go_wp2_with (first | (go_at_call 38; refine (gw_at (rsat_b _ _)).mono ?_; rintro e w1 ⟨rfl, q, rfl⟩) | (go_at_call 46; refine (gw_at (rvsat_b _ _ _)).mono ?_; rintro e w1 ⟨rfl, q, rfl⟩) | (go_at_call 50; refine (gw_at (rrd_b _ _ _)).mono ?_; rintro e w1 ⟨rfl, q, rfl⟩))
  repeat
    refine wp_region_gw_tail 22 (by kernel_rfl) (by kernel_rfl) ?_
    simp only [List.take_succ_cons, List.take_zero, List.drop_succ_cons, List.drop_zero]
    repeat (go_big_quiet_step ((first | (go_at_call 38; exact gw_call (rsat_b _ _)) | (go_at_call 46; exact gw_call (rvsat_b _ _ _)) | (go_at_call 50; exact gw_call (rrd_b _ _ _)))))
    refine wpQuiet_nil ?_
    intro w1 hw1
    obtain ⟨q, rfl⟩ := hw1
    go_wp2_with (first | (go_at_call 38; refine (gw_at (rsat_b _ _)).mono ?_; rintro e w1 ⟨rfl, q, rfl⟩) | (go_at_call 46; refine (gw_at (rvsat_b _ _ _)).mono ?_; rintro e w1 ⟨rfl, q, rfl⟩) | (go_at_call 50; refine (gw_at (rrd_b _ _ _)).mono ?_; rintro e w1 ⟨rfl, q, rfl⟩))
  exact bodyPost_ret (v := .agg #[.int .i64 (rotx c s x y), .int .i64 (roty c s x y)]) (by simp [results, Try.results33, go_sem]; try (first | rfl | exact ⟨rfl, rfl⟩ | exact ⟨rfl, rfl, rfl⟩ | exact ⟨rfl, rfl, rfl, rfl⟩)) rfl ⟨rfl, (by repeat (first | with_reducible exact Below.refl _ _ | with_reducible assumption | refine bgw ?_ (by first | (simp; done) | (simp; omega) | omega) _ | refine Below.setCell ?_ (by first | exact Nat.le_of_not_lt (by assumption) | (simp; done) | (simp; omega) | omega) _ | refine Below.alloc ?_ (by first | (simp; done) | (simp; omega) | omega) _ | refine Below.drew ?_))⟩

theorem rvirot_b (c s x y : Int) (w : World) : Calls Try.prog 35 #[.agg #[.int .i64 c, .int .i64 s], .agg #[.int .i64 x, .int .i64 y]] w fun e w' => e = .returned (.agg #[.int .i64 (irotx c s x y), .int .i64 (iroty c s x y)]) ∧ Below w.heap.size w w' := by
  have h1 := satmul c x; have h2 := satmul s y; have h3 := satmul s x; have h4 := satmul c y
  go_enter Try.func35, Try.ntmps35
  go_wp2_with (first | (go_at_call 38; refine (gw_at (rsat_b _ _)).mono ?_; rintro e w1 ⟨rfl, q, rfl⟩) | (go_at_call 46; refine (gw_at (rvsat_b _ _ _)).mono ?_; rintro e w1 ⟨rfl, q, rfl⟩) | (go_at_call 50; refine (gw_at (rrd_b _ _ _)).mono ?_; rintro e w1 ⟨rfl, q, rfl⟩))
  repeat
    refine wp_region_gw_tail 22 (by kernel_rfl) (by kernel_rfl) ?_
    simp only [List.take_succ_cons, List.take_zero, List.drop_succ_cons, List.drop_zero]
    repeat (go_big_quiet_step ((first | (go_at_call 38; exact gw_call (rsat_b _ _)) | (go_at_call 46; exact gw_call (rvsat_b _ _ _)) | (go_at_call 50; exact gw_call (rrd_b _ _ _)))))
    refine wpQuiet_nil ?_
    intro w1 hw1
    obtain ⟨q, rfl⟩ := hw1
    go_wp2_with (first | (go_at_call 38; refine (gw_at (rsat_b _ _)).mono ?_; rintro e w1 ⟨rfl, q, rfl⟩) | (go_at_call 46; refine (gw_at (rvsat_b _ _ _)).mono ?_; rintro e w1 ⟨rfl, q, rfl⟩) | (go_at_call 50; refine (gw_at (rrd_b _ _ _)).mono ?_; rintro e w1 ⟨rfl, q, rfl⟩))
  exact bodyPost_ret (v := .agg #[.int .i64 (irotx c s x y), .int .i64 (iroty c s x y)]) (by simp [results, Try.results35, go_sem]; try (first | rfl | exact ⟨rfl, rfl⟩ | exact ⟨rfl, rfl, rfl⟩ | exact ⟨rfl, rfl, rfl, rfl⟩)) rfl ⟨rfl, (by repeat (first | with_reducible exact Below.refl _ _ | with_reducible assumption | refine bgw ?_ (by first | (simp; done) | (simp; omega) | omega) _ | refine Below.setCell ?_ (by first | exact Nat.le_of_not_lt (by assumption) | (simp; done) | (simp; omega) | omega) _ | refine Below.alloc ?_ (by first | (simp; done) | (simp; omega) | omega) _ | refine Below.drew ?_))⟩

theorem rorient_b (ax ay bx b_y cx cy : Int) (w : World) : Calls Try.prog 37 #[.agg #[.int .i64 ax, .int .i64 ay], .agg #[.int .i64 bx, .int .i64 b_y], .agg #[.int .i64 cx, .int .i64 cy]] w fun e w' => e = .returned (.int .i64 (orient ax ay bx b_y cx cy)) ∧ Below w.heap.size w w' := by
  have a1 := sat_le ax; have a2 := sat_ge ax; have a3 := sat_le ay; have a4 := sat_ge ay
  have b1 := sat_le bx; have b2 := sat_ge bx; have b3 := sat_le b_y; have b4 := sat_ge b_y
  have c1 := sat_le cx; have c2 := sat_ge cx; have c3 := sat_le cy; have c4 := sat_ge cy
  have d1 := diffmul (a := bx) (b := ax) (c := cy) (d := ay); have d2 := diffmul (a := b_y) (b := ay) (c := cx) (d := ax)
  unfold orient
  by_cases hp : 0 < det ax ay bx b_y cx cy
  · rw [sgn_pos hp]
    unfold det at hp
    go_enter Try.func37, Try.ntmps37
    go_wp2_with (first | (go_at_call 46; refine (gw_at (rvsat_b _ _ _)).mono ?_; rintro e w1 ⟨rfl, q, rfl⟩))
    go_ret
    exact ⟨rfl, (by repeat (first | with_reducible exact Below.refl _ _ | with_reducible assumption | refine bgw ?_ (by first | (simp; done) | (simp; omega) | omega) _ | refine Below.setCell ?_ (by first | exact Nat.le_of_not_lt (by assumption) | (simp; done) | (simp; omega) | omega) _ | refine Below.alloc ?_ (by first | (simp; done) | (simp; omega) | omega) _ | refine Below.drew ?_))⟩
  · by_cases hn : det ax ay bx b_y cx cy < 0
    · rw [sgn_neg hn]
      unfold det at hp hn
      go_enter Try.func37, Try.ntmps37
      go_wp2_with (first | (go_at_call 46; refine (gw_at (rvsat_b _ _ _)).mono ?_; rintro e w1 ⟨rfl, q, rfl⟩))
      go_ret
      exact ⟨rfl, (by repeat (first | with_reducible exact Below.refl _ _ | with_reducible assumption | refine bgw ?_ (by first | (simp; done) | (simp; omega) | omega) _ | refine Below.setCell ?_ (by first | exact Nat.le_of_not_lt (by assumption) | (simp; done) | (simp; omega) | omega) _ | refine Below.alloc ?_ (by first | (simp; done) | (simp; omega) | omega) _ | refine Below.drew ?_))⟩
    · rw [sgn_zero hp hn]
      unfold det at hp hn
      go_enter Try.func37, Try.ntmps37
      go_wp2_with (first | (go_at_call 46; refine (gw_at (rvsat_b _ _ _)).mono ?_; rintro e w1 ⟨rfl, q, rfl⟩))
      go_ret
      exact ⟨rfl, (by repeat (first | with_reducible exact Below.refl _ _ | with_reducible assumption | refine bgw ?_ (by first | (simp; done) | (simp; omega) | omega) _ | refine Below.setCell ?_ (by first | exact Nat.le_of_not_lt (by assumption) | (simp; done) | (simp; omega) | omega) _ | refine Below.alloc ?_ (by first | (simp; done) | (simp; omega) | omega) _ | refine Below.drew ?_))⟩

theorem rdist2_b (ax ay bx b_y : Int) (w : World) : Calls Try.prog 30 #[.agg #[.int .i64 ax, .int .i64 ay], .agg #[.int .i64 bx, .int .i64 b_y]] w fun e w' => e = .returned (.int .i64 (dist2 ax ay bx b_y)) ∧ Below w.heap.size w w' := by
  have a1 := sat_le ax; have a2 := sat_ge ax; have a3 := sat_le ay; have a4 := sat_ge ay
  have b1 := sat_le bx; have b2 := sat_ge bx; have b3 := sat_le b_y; have b4 := sat_ge b_y
  have d1 := diffmul (a := bx) (b := ax) (c := bx) (d := ax); have d2 := diffmul (a := b_y) (b := ay) (c := b_y) (d := ay)
  go_enter Try.func30, Try.ntmps30
  go_wp2_with (first | (go_at_call 46; refine (gw_at (rvsat_b _ _ _)).mono ?_; rintro e w1 ⟨rfl, q, rfl⟩))
  go_ret
  exact ⟨rfl, (by repeat (first | with_reducible exact Below.refl _ _ | with_reducible assumption | refine bgw ?_ (by first | (simp; done) | (simp; omega) | omega) _ | refine Below.setCell ?_ (by first | exact Nat.le_of_not_lt (by assumption) | (simp; done) | (simp; omega) | omega) _ | refine Below.alloc ?_ (by first | (simp; done) | (simp; omega) | omega) _ | refine Below.drew ?_))⟩

end Go.Proofs.Ytlcijdfjnblmiaa
