/- The contracts of chapter 1, of the program and of the reference, in the form that the later chapters use: nothing below the heap's old size has turned. No conditions.
Contracts of package vec2 and of its reference: each returns what the Lean functions of the same meaning give, component by component, and nothing that existed has changed. No conditions. -/
import Derived.Test.YtodbbaimdbibpaaCo1
import Derived.Test.YtodbbaimdbibpaaKi1
import Derived.Test.YtodbbaimdbibpaaMa1

set_option linter.unusedVariables false
namespace Go.Proofs.Ytodbbaimdbibpaa
open Go.RowKit Fx

theorem bl_same {w w' : World} (h : w = w') : Below w.heap.size w w' := h ▸ Below.refl _ _
theorem bl_dr {w w' : World} (h : Dr w w') : Below w.heap.size w w' := by
  obtain ⟨m, rfl⟩ := h; rw [drewN_gw]; exact below_gw _ _
theorem bl_of_same {f : FuncId} {args : Array Value} {w : World} {v : Value} {P : Program} (h : Calls P f args w fun e w' => e = .returned v ∧ w = w') : Calls P f args w fun e w' => e = .returned v ∧ Below w.heap.size w w' :=
  h.mono fun _ _ ⟨he, hw⟩ => ⟨he, bl_same hw⟩
theorem bl_of_dr {f : FuncId} {args : Array Value} {w : World} {v : Value} {P : Program} (h : Calls P f args w fun e w' => e = .returned v ∧ Dr w w') : Calls P f args w fun e w' => e = .returned v ∧ Below w.heap.size w w' :=
  h.mono fun _ _ ⟨he, hw⟩ => ⟨he, bl_dr hw⟩

theorem sat_b (a : Int) (w : World) : Calls Try.prog 57 #[.int .i64 a] w fun e w' => e = .returned (.int .i64 (sat a)) ∧ Below w.heap.size w w' := bl_of_same (sat_p a w)

theorem sub_b (a b : Int) (w : World) : Calls Try.prog 53 #[.int .i64 a, .int .i64 b] w fun e w' => e = .returned (.int .i64 (sub a b)) ∧ Below w.heap.size w w' := bl_of_same (sub_p a b w)

theorem rd_b (n d : Int) (w : World) : Calls Try.prog 58 #[.int .i64 n, .int .i64 d] w fun e w' => e = .returned (.int .i64 (rdiv n d)) ∧ Below w.heap.size w w' := bl_of_dr (rd_p n d w)

theorem div_b (a b : Int) (w : World) : Calls Try.prog 44 #[.int .i64 a, .int .i64 b] w fun e w' => e = .returned (.int .i64 (quo a b)) ∧ Below w.heap.size w w' := bl_of_dr (div_p a b w)

theorem isq_b (n : Int) (w : World) : Calls Try.prog 55 #[.int .i64 n] w fun e w' => e = .returned (.int .i64 (isq n)) ∧ Below w.heap.size w w' := bl_of_dr (isq_p n w)

theorem rsat_b (a : Int) (w : World) : Calls Try.prog 35 #[.int .i64 a] w fun e w' => e = .returned (.int .i64 (sat a)) ∧ Below w.heap.size w w' := bl_of_same (rsat_p a w)

theorem rsub_b (a b : Int) (w : World) : Calls Try.prog 37 #[.int .i64 a, .int .i64 b] w fun e w' => e = .returned (.int .i64 (sub a b)) ∧ Below w.heap.size w w' := bl_of_same (rsub_p a b w)

theorem rrd_b (n d : Int) (w : World) : Calls Try.prog 36 #[.int .i64 n, .int .i64 d] w fun e w' => e = .returned (.int .i64 (rdiv n d)) ∧ Below w.heap.size w w' := bl_of_dr (rrd_p n d w)

theorem rdiv_b (a b : Int) (w : World) : Calls Try.prog 46 #[.int .i64 a, .int .i64 b] w fun e w' => e = .returned (.int .i64 (quo a b)) ∧ Below w.heap.size w w' := bl_of_dr (rdiv_p a b w)

theorem risq_b (n : Int) (w : World) : Calls Try.prog 59 #[.int .i64 n] w fun e w' => e = .returned (.int .i64 (isq n)) ∧ Below w.heap.size w w' := bl_of_dr (risq_p n w)

end Go.Proofs.Ytodbbaimdbibpaa

set_option linter.unusedVariables false
namespace Go.Proofs.Ytodbbaimdbibpaa
open Go.RowKit Fx

theorem vsat_b (x y : Int) (w : World) : Calls Try.prog 47 #[.agg #[.int .i64 x, .int .i64 y]] w fun e w' => e = .returned (.agg #[.int .i64 (sat x), .int .i64 (sat y)]) ∧ Below w.heap.size w w' := by
  go_enter Try.func47, Try.ntmps47
  go_wp2_with (first | (go_at_call 57; refine Calls.mono (gw_at (sat_b _ _)) ?_; rintro e w1 ⟨rfl, q, rfl⟩))
  repeat
    refine wp_region_gw_tail 7 (by kernel_rfl) (by kernel_rfl) ?_
    simp only [List.take_succ_cons, List.take_zero, List.drop_succ_cons, List.drop_zero]
    repeat (go_big_quiet_step ((first | (go_at_call 57; exact gw_call (sat_b _ _)))))
    refine wpQuiet_nil ?_
    intro w1 hw1
    obtain ⟨q, rfl⟩ := hw1
    go_wp2_with (first | (go_at_call 57; refine Calls.mono (gw_at (sat_b _ _)) ?_; rintro e w1 ⟨rfl, q, rfl⟩))
  exact bodyPost_ret (v := .agg #[.int .i64 (sat x), .int .i64 (sat y)]) (by simp [results, Try.results47, go_sem]; try (first | with_reducible rfl | exact ⟨rfl, rfl⟩ | exact ⟨rfl, rfl, rfl⟩ | exact ⟨rfl, rfl, rfl, rfl⟩ | exact ⟨rfl, rfl, rfl, rfl, rfl⟩ | exact ⟨rfl, rfl, rfl, rfl, rfl, rfl⟩ | rfl)) rfl ⟨rfl, (by repeat (first | with_reducible exact Below.refl _ _ | with_reducible assumption | refine bgw ?_ (by first | (simp; done) | (simp; omega) | omega) _ | refine Below.setCell ?_ (by first | exact Nat.le_of_not_lt (by assumption) | (simp; done) | (simp; omega) | omega) _ | refine Below.alloc ?_ (by first | (simp; done) | (simp; omega) | omega) _ | refine Below.drew ?_))⟩

theorem vdiff_b (ax ay bx b_y : Int) (w : World) : Calls Try.prog 41 #[.agg #[.int .i64 ax, .int .i64 ay], .agg #[.int .i64 bx, .int .i64 b_y]] w fun e w' => e = .returned (.agg #[.int .i64 (sat ax - sat bx), .int .i64 (sat ay - sat b_y)]) ∧ Below w.heap.size w w' := by
  have a1 := sat_le ax; have a2 := sat_ge ax; have a3 := sat_le ay; have a4 := sat_ge ay
  have b1 := sat_le bx; have b2 := sat_ge bx; have b3 := sat_le b_y; have b4 := sat_ge b_y
  go_enter Try.func41, Try.ntmps41
  go_wp2_with (first | (go_at_call 47; refine Calls.mono (gw_at (vsat_b _ _ _)) ?_; rintro e w1 ⟨rfl, q, rfl⟩))
  repeat
    refine wp_region_gw_tail 4 (by kernel_rfl) (by kernel_rfl) ?_
    simp only [List.take_succ_cons, List.take_zero, List.drop_succ_cons, List.drop_zero]
    repeat (go_big_quiet_step ((first | (go_at_call 47; exact gw_call (vsat_b _ _ _)))))
    refine wpQuiet_nil ?_
    intro w1 hw1
    obtain ⟨q, rfl⟩ := hw1
    go_wp2_with (first | (go_at_call 47; refine Calls.mono (gw_at (vsat_b _ _ _)) ?_; rintro e w1 ⟨rfl, q, rfl⟩))
  exact bodyPost_ret (v := .agg #[.int .i64 (sat ax - sat bx), .int .i64 (sat ay - sat b_y)]) (by simp [results, Try.results41, go_sem]; try (first | with_reducible rfl | exact ⟨rfl, rfl⟩ | exact ⟨rfl, rfl, rfl⟩ | exact ⟨rfl, rfl, rfl, rfl⟩ | exact ⟨rfl, rfl, rfl, rfl, rfl⟩ | exact ⟨rfl, rfl, rfl, rfl, rfl, rfl⟩ | rfl)) rfl ⟨rfl, (by repeat (first | with_reducible exact Below.refl _ _ | with_reducible assumption | refine bgw ?_ (by first | (simp; done) | (simp; omega) | omega) _ | refine Below.setCell ?_ (by first | exact Nat.le_of_not_lt (by assumption) | (simp; done) | (simp; omega) | omega) _ | refine Below.alloc ?_ (by first | (simp; done) | (simp; omega) | omega) _ | refine Below.drew ?_))⟩

theorem cnan_b (x : Int) (w : World) : Calls Try.prog 54 #[.int .i64 x] w fun e w' => e = .returned (.bool false) ∧ Below w.heap.size w w' := by
  go_enter Try.func54, Try.ntmps54
  go_wp2_with fail
  go_ret
  exact ⟨rfl, (by repeat (first | with_reducible exact Below.refl _ _ | with_reducible assumption | refine bgw ?_ (by first | (simp; done) | (simp; omega) | omega) _ | refine Below.setCell ?_ (by first | exact Nat.le_of_not_lt (by assumption) | (simp; done) | (simp; omega) | omega) _ | refine Below.alloc ?_ (by first | (simp; done) | (simp; omega) | omega) _ | refine Below.drew ?_))⟩

theorem cmp_b (x y : Int) (w : World) : Calls Try.prog 42 #[.int .i64 x, .int .i64 y] w fun e w' => e = .returned (.int .i64 (sgn (x - y))) ∧ Below w.heap.size w w' := by
  by_cases hp : y < x
  · rw [sgn_pos (by omega)]
    go_enter Try.func42, Try.ntmps42
    go_wp2_with (first | (go_at_call 54; refine Calls.mono (gw_at (cnan_b _ _)) ?_; rintro e w1 ⟨rfl, q, rfl⟩))
    go_ret
    exact ⟨rfl, (by repeat (first | with_reducible exact Below.refl _ _ | with_reducible assumption | refine bgw ?_ (by first | (simp; done) | (simp; omega) | omega) _ | refine Below.setCell ?_ (by first | exact Nat.le_of_not_lt (by assumption) | (simp; done) | (simp; omega) | omega) _ | refine Below.alloc ?_ (by first | (simp; done) | (simp; omega) | omega) _ | refine Below.drew ?_))⟩
  · by_cases hn : x < y
    · rw [sgn_neg (by omega)]
      go_enter Try.func42, Try.ntmps42
      go_wp2_with (first | (go_at_call 54; refine Calls.mono (gw_at (cnan_b _ _)) ?_; rintro e w1 ⟨rfl, q, rfl⟩))
      go_ret
      exact ⟨rfl, (by repeat (first | with_reducible exact Below.refl _ _ | with_reducible assumption | refine bgw ?_ (by first | (simp; done) | (simp; omega) | omega) _ | refine Below.setCell ?_ (by first | exact Nat.le_of_not_lt (by assumption) | (simp; done) | (simp; omega) | omega) _ | refine Below.alloc ?_ (by first | (simp; done) | (simp; omega) | omega) _ | refine Below.drew ?_))⟩
    · rw [sgn_zero (by omega) (by omega)]
      go_enter Try.func42, Try.ntmps42
      go_wp2_with (first | (go_at_call 54; refine Calls.mono (gw_at (cnan_b _ _)) ?_; rintro e w1 ⟨rfl, q, rfl⟩))
      go_ret
      exact ⟨rfl, (by repeat (first | with_reducible exact Below.refl _ _ | with_reducible assumption | refine bgw ?_ (by first | (simp; done) | (simp; omega) | omega) _ | refine Below.setCell ?_ (by first | exact Nat.le_of_not_lt (by assumption) | (simp; done) | (simp; omega) | omega) _ | refine Below.alloc ?_ (by first | (simp; done) | (simp; omega) | omega) _ | refine Below.drew ?_))⟩

theorem round_b (n : Int) (w : World) : Calls Try.prog 48 #[.int .i64 n] w fun e w' => e = .returned (.int .i64 (sat (rdiv n 65536))) ∧ Below w.heap.size w w' := by
  go_enter Try.func48, Try.ntmps48
  go_wp2_with (first | (go_at_call 58; refine Calls.mono (gw_at (rd_b _ _ _)) ?_; rintro e w1 ⟨rfl, q, rfl⟩) | (go_at_call 57; refine Calls.mono (gw_at (sat_b _ _)) ?_; rintro e w1 ⟨rfl, q, rfl⟩))
  go_ret
  exact ⟨rfl, (by repeat (first | with_reducible exact Below.refl _ _ | with_reducible assumption | refine bgw ?_ (by first | (simp; done) | (simp; omega) | omega) _ | refine Below.setCell ?_ (by first | exact Nat.le_of_not_lt (by assumption) | (simp; done) | (simp; omega) | omega) _ | refine Below.alloc ?_ (by first | (simp; done) | (simp; omega) | omega) _ | refine Below.drew ?_))⟩

theorem vsub_b (ax ay bx b_y : Int) (w : World) : Calls Try.prog 40 #[.agg #[.int .i64 ax, .int .i64 ay], .agg #[.int .i64 bx, .int .i64 b_y]] w fun e w' => e = .returned (.agg #[.int .i64 (sub ax bx), .int .i64 (sub ay b_y)]) ∧ Below w.heap.size w w' := by
  go_enter Try.func40, Try.ntmps40
  go_wp2_with (first | (go_at_call 53; refine Calls.mono (gw_at (sub_b _ _ _)) ?_; rintro e w1 ⟨rfl, q, rfl⟩))
  repeat
    refine wp_region_gw_tail 11 (by kernel_rfl) (by kernel_rfl) ?_
    simp only [List.take_succ_cons, List.take_zero, List.drop_succ_cons, List.drop_zero]
    repeat (go_big_quiet_step ((first | (go_at_call 53; exact gw_call (sub_b _ _ _)))))
    refine wpQuiet_nil ?_
    intro w1 hw1
    obtain ⟨q, rfl⟩ := hw1
    go_wp2_with (first | (go_at_call 53; refine Calls.mono (gw_at (sub_b _ _ _)) ?_; rintro e w1 ⟨rfl, q, rfl⟩))
  exact bodyPost_ret (v := .agg #[.int .i64 (sub ax bx), .int .i64 (sub ay b_y)]) (by simp [results, Try.results40, go_sem]; try (first | with_reducible rfl | exact ⟨rfl, rfl⟩ | exact ⟨rfl, rfl, rfl⟩ | exact ⟨rfl, rfl, rfl, rfl⟩ | exact ⟨rfl, rfl, rfl, rfl, rfl⟩ | exact ⟨rfl, rfl, rfl, rfl, rfl, rfl⟩ | rfl)) rfl ⟨rfl, (by repeat (first | with_reducible exact Below.refl _ _ | with_reducible assumption | refine bgw ?_ (by first | (simp; done) | (simp; omega) | omega) _ | refine Below.setCell ?_ (by first | exact Nat.le_of_not_lt (by assumption) | (simp; done) | (simp; omega) | omega) _ | refine Below.alloc ?_ (by first | (simp; done) | (simp; omega) | omega) _ | refine Below.drew ?_))⟩

theorem dot_b (ax ay bx b_y : Int) (w : World) : Calls Try.prog 33 #[.agg #[.int .i64 ax, .int .i64 ay], .agg #[.int .i64 bx, .int .i64 b_y]] w fun e w' => e = .returned (.int .i64 (dot ax ay bx b_y)) ∧ Below w.heap.size w w' := by
  have h1 := satmul ax bx; have h2 := satmul ay b_y
  go_enter Try.func33, Try.ntmps33
  go_wp2_with (first | (go_at_call 47; refine Calls.mono (gw_at (vsat_b _ _ _)) ?_; rintro e w1 ⟨rfl, q, rfl⟩) | (go_at_call 48; refine Calls.mono (gw_at (round_b _ _)) ?_; rintro e w1 ⟨rfl, q, rfl⟩))
  repeat
    refine wp_region_gw_tail 4 (by kernel_rfl) (by kernel_rfl) ?_
    simp only [List.take_succ_cons, List.take_zero, List.drop_succ_cons, List.drop_zero]
    repeat (go_big_quiet_step ((first | (go_at_call 47; exact gw_call (vsat_b _ _ _)) | (go_at_call 48; exact gw_call (round_b _ _)))))
    refine wpQuiet_nil ?_
    intro w1 hw1
    obtain ⟨q, rfl⟩ := hw1
    go_wp2_with (first | (go_at_call 47; refine Calls.mono (gw_at (vsat_b _ _ _)) ?_; rintro e w1 ⟨rfl, q, rfl⟩) | (go_at_call 48; refine Calls.mono (gw_at (round_b _ _)) ?_; rintro e w1 ⟨rfl, q, rfl⟩))
  go_ret
  exact ⟨rfl, (by repeat (first | with_reducible exact Below.refl _ _ | with_reducible assumption | refine bgw ?_ (by first | (simp; done) | (simp; omega) | omega) _ | refine Below.setCell ?_ (by first | exact Nat.le_of_not_lt (by assumption) | (simp; done) | (simp; omega) | omega) _ | refine Below.alloc ?_ (by first | (simp; done) | (simp; omega) | omega) _ | refine Below.drew ?_))⟩

theorem vlen_b (x y : Int) (w : World) : Calls Try.prog 43 #[.agg #[.int .i64 x, .int .i64 y]] w fun e w' => e = .returned (.int .i64 (vlen x y)) ∧ Below w.heap.size w w' := by
  have h1 := satmul x x; have h2 := satmul y y
  go_enter Try.func43, Try.ntmps43
  go_wp2_with (first | (go_at_call 47; refine Calls.mono (gw_at (vsat_b _ _ _)) ?_; rintro e w1 ⟨rfl, q, rfl⟩) | (go_at_call 55; refine Calls.mono (gw_at (isq_b _ _)) ?_; rintro e w1 ⟨rfl, q, rfl⟩))
  go_ret
  exact ⟨rfl, (by repeat (first | with_reducible exact Below.refl _ _ | with_reducible assumption | refine bgw ?_ (by first | (simp; done) | (simp; omega) | omega) _ | refine Below.setCell ?_ (by first | exact Nat.le_of_not_lt (by assumption) | (simp; done) | (simp; omega) | omega) _ | refine Below.alloc ?_ (by first | (simp; done) | (simp; omega) | omega) _ | refine Below.drew ?_))⟩

theorem vnorm0_b (x y : Int) (h : (vlen x y == 0) = true) (w : World) : Calls Try.prog 30 #[.agg #[.int .i64 x, .int .i64 y]] w fun e w' => e = .returned (.agg #[.int .i64 0, .int .i64 0]) ∧ Below w.heap.size w w' := by
  go_enter Try.func30, Try.ntmps30
  go_wp2_with (first | (go_at_call 43; refine Calls.mono (gw_at (vlen_b _ _ _)) ?_; rintro e w1 ⟨rfl, q, rfl⟩) | (go_at_call 44; refine Calls.mono (gw_at (div_b _ _ _)) ?_; rintro e w1 ⟨rfl, q, rfl⟩))
  exact bodyPost_ret (v := .agg #[.int .i64 0, .int .i64 0]) (by simp [results, Try.results30, go_sem]; try (first | with_reducible rfl | exact ⟨rfl, rfl⟩ | exact ⟨rfl, rfl, rfl⟩ | exact ⟨rfl, rfl, rfl, rfl⟩ | exact ⟨rfl, rfl, rfl, rfl, rfl⟩ | exact ⟨rfl, rfl, rfl, rfl, rfl, rfl⟩ | rfl)) rfl ⟨rfl, (by repeat (first | with_reducible exact Below.refl _ _ | with_reducible assumption | refine bgw ?_ (by first | (simp; done) | (simp; omega) | omega) _ | refine Below.setCell ?_ (by first | exact Nat.le_of_not_lt (by assumption) | (simp; done) | (simp; omega) | omega) _ | refine Below.alloc ?_ (by first | (simp; done) | (simp; omega) | omega) _ | refine Below.drew ?_))⟩

theorem vnorm1_b (x y : Int) (h : (vlen x y == 0) = false) (w : World) : Calls Try.prog 30 #[.agg #[.int .i64 x, .int .i64 y]] w fun e w' => e = .returned (.agg #[.int .i64 (quo x (vlen x y)), .int .i64 (quo y (vlen x y))]) ∧ Below w.heap.size w w' := by
  go_enter Try.func30, Try.ntmps30
  go_wp2_with (first | (go_at_call 43; refine Calls.mono (gw_at (vlen_b _ _ _)) ?_; rintro e w1 ⟨rfl, q, rfl⟩) | (go_at_call 44; refine Calls.mono (gw_at (div_b _ _ _)) ?_; rintro e w1 ⟨rfl, q, rfl⟩))
  repeat
    refine wp_region_gw_tail 9 (by kernel_rfl) (by kernel_rfl) ?_
    simp only [List.take_succ_cons, List.take_zero, List.drop_succ_cons, List.drop_zero]
    repeat (go_big_quiet_step ((first | (go_at_call 43; exact gw_call (vlen_b _ _ _)) | (go_at_call 44; exact gw_call (div_b _ _ _)))))
    refine wpQuiet_nil ?_
    intro w1 hw1
    obtain ⟨q, rfl⟩ := hw1
    go_wp2_with (first | (go_at_call 43; refine Calls.mono (gw_at (vlen_b _ _ _)) ?_; rintro e w1 ⟨rfl, q, rfl⟩) | (go_at_call 44; refine Calls.mono (gw_at (div_b _ _ _)) ?_; rintro e w1 ⟨rfl, q, rfl⟩))
  exact bodyPost_ret (v := .agg #[.int .i64 (quo x (vlen x y)), .int .i64 (quo y (vlen x y))]) (by simp [results, Try.results30, go_sem]; try (first | with_reducible rfl | exact ⟨rfl, rfl⟩ | exact ⟨rfl, rfl, rfl⟩ | exact ⟨rfl, rfl, rfl, rfl⟩ | exact ⟨rfl, rfl, rfl, rfl, rfl⟩ | exact ⟨rfl, rfl, rfl, rfl, rfl, rfl⟩ | rfl)) rfl ⟨rfl, (by repeat (first | with_reducible exact Below.refl _ _ | with_reducible assumption | refine bgw ?_ (by first | (simp; done) | (simp; omega) | omega) _ | refine Below.setCell ?_ (by first | exact Nat.le_of_not_lt (by assumption) | (simp; done) | (simp; omega) | omega) _ | refine Below.alloc ?_ (by first | (simp; done) | (simp; omega) | omega) _ | refine Below.drew ?_))⟩

theorem vnorm_b (x y : Int) (w : World) : Calls Try.prog 30 #[.agg #[.int .i64 x, .int .i64 y]] w fun e w' => e = .returned (.agg #[.int .i64 (unit x (vlen x y)), .int .i64 (unit y (vlen x y))]) ∧ Below w.heap.size w w' := by
  by_cases h : vlen x y = 0
  · have e : ∀ c, unit c (vlen x y) = 0 := fun c => by unfold unit; rw [if_pos h]
    rw [e x, e y]; exact vnorm0_b x y (by rw [beq_iff_eq]; exact h) w
  · have e : ∀ c, unit c (vlen x y) = quo c (vlen x y) := fun c => by unfold unit; rw [if_neg h]
    rw [e x, e y]; exact vnorm1_b x y (by rw [beq_eq_false_iff_ne]; exact h) w

theorem orient_b (ax ay bx b_y cx cy : Int) (w : World) : Calls Try.prog 27 #[.agg #[.int .i64 ax, .int .i64 ay], .agg #[.int .i64 bx, .int .i64 b_y], .agg #[.int .i64 cx, .int .i64 cy]] w fun e w' => e = .returned (.int .i64 (orient ax ay bx b_y cx cy)) ∧ Below w.heap.size w w' := by
  have d1 := diffmul (a := bx) (b := ax) (c := cy) (d := ay); have d2 := diffmul (a := b_y) (b := ay) (c := cx) (d := ax)
  go_enter Try.func27, Try.ntmps27
  go_wp2_with (first | (go_at_call 41; refine Calls.mono (gw_at (vdiff_b _ _ _ _ _)) ?_; rintro e w1 ⟨rfl, q, rfl⟩) | (go_at_call 42; refine Calls.mono (gw_at (cmp_b _ _ _)) ?_; rintro e w1 ⟨rfl, q, rfl⟩))
  repeat
    apply wp_box2 8 26 6 7 7 8 #[.int .i64 0, .int .i64 0] #[.int .i64 0, .int .i64 0] 24 24 (by kernel_rfl) (by rfl) (by kernel_rfl) (by rfl) (by intro o ho a w; simp at ho; subst ho; simp [go_sem, ptr]) (by intro o ho a w; simp at ho; subst ho; simp [go_sem, ptr])
    · intro p0
      simp only [heads, ghost, List.take_succ_cons, List.take_zero, List.map_cons, List.map_nil]
      repeat (go_big_quiet_step ((first | (go_at_call 41; exact gw_call (vdiff_b _ _ _ _ _)) | (go_at_call 42; exact gw_call (cmp_b _ _ _)))))
      exact wpQuiet_nil rfl
    · intro R bB1 bB2 p0 nB1 nB2 gB1 gB2 neB01 neB01' kB1 kB2 hK
      simp only [List.drop_succ_cons, List.drop_zero, Act.put, ptr, List.setIfInBounds_toArray, List.set_cons_succ, List.set_cons_zero]
      have cB1_0 : _ = some _ := blk_cell kB1 0
      have cB1_1 : _ = some _ := blk_cell kB1 1
      have cB2_0 : _ = some _ := blk_cell kB2 0
      have cB2_1 : _ = some _ := blk_cell kB2 1
      have fB1_0 := blk_free kB1 0
      have fB1_1 := blk_free kB1 1
      have fB2_0 := blk_free kB2 0
      have fB2_1 := blk_free kB2 1
      have oB1 := blk_older kB1
      have oB2 := blk_older kB2
      go_wp2_with fail
      refine box_end2 gB1 gB2 hK ?_ ?_ ?_
      · exact (by repeat (first | with_reducible exact Below.refl _ _ | with_reducible assumption | refine bgw ?_ (by first | (simp; done) | (simp; omega) | omega) _ | refine Below.setCell ?_ (by first | exact Nat.le_of_not_lt (by assumption) | (simp; done) | (simp; omega) | omega) _ | refine Below.alloc ?_ (by first | (simp; done) | (simp; omega) | omega) _ | refine Below.drew ?_))
      · exact (by repeat' (first | with_reducible assumption | with_reducible apply blk_gw | with_reducible apply blk_alloc | with_reducible apply blk_set | ((with_reducible apply blk_other); focus (first | omega | assumption))))
      · exact (by repeat' (first | with_reducible assumption | with_reducible apply blk_gw | with_reducible apply blk_alloc | with_reducible apply blk_set | ((with_reducible apply blk_other); focus (first | omega | assumption))))
    intro bB1 bB2 p0 nB1 nB2 neB01 neB01' kB1 kB2
    have cB1_0 : _ = some _ := blk_cell kB1 0
    have cB1_1 : _ = some _ := blk_cell kB1 1
    have cB2_0 : _ = some _ := blk_cell kB2 0
    have cB2_1 : _ = some _ := blk_cell kB2 1
    have fB1_0 := blk_free kB1 0
    have fB1_1 := blk_free kB1 1
    have fB2_0 := blk_free kB2 0
    have fB2_1 := blk_free kB2 1
    have oB1 := blk_older kB1
    have oB2 := blk_older kB2
    go_wp2_with (first | (go_at_call 41; refine Calls.mono (gw_at (vdiff_b _ _ _ _ _)) ?_; rintro e w1 ⟨rfl, q, rfl⟩) | (go_at_call 42; refine Calls.mono (gw_at (cmp_b _ _ _)) ?_; rintro e w1 ⟨rfl, q, rfl⟩))
  go_ret
  exact ⟨rfl, (by repeat (first | with_reducible exact Below.refl _ _ | with_reducible assumption | refine bgw ?_ (by first | (simp; done) | (simp; omega) | omega) _ | refine Below.setCell ?_ (by first | exact Nat.le_of_not_lt (by assumption) | (simp; done) | (simp; omega) | omega) _ | refine Below.alloc ?_ (by first | (simp; done) | (simp; omega) | omega) _ | refine Below.drew ?_))⟩

theorem rvsat_b (x y : Int) (w : World) : Calls Try.prog 34 #[.agg #[.int .i64 x, .int .i64 y]] w fun e w' => e = .returned (.agg #[.int .i64 (sat x), .int .i64 (sat y)]) ∧ Below w.heap.size w w' := by
  go_enter Try.func34, Try.ntmps34
  go_wp2_with (first | (go_at_call 35; refine Calls.mono (gw_at (rsat_b _ _)) ?_; rintro e w1 ⟨rfl, q, rfl⟩))
  repeat
    refine wp_region_gw_tail 7 (by kernel_rfl) (by kernel_rfl) ?_
    simp only [List.take_succ_cons, List.take_zero, List.drop_succ_cons, List.drop_zero]
    repeat (go_big_quiet_step ((first | (go_at_call 35; exact gw_call (rsat_b _ _)))))
    refine wpQuiet_nil ?_
    intro w1 hw1
    obtain ⟨q, rfl⟩ := hw1
    go_wp2_with (first | (go_at_call 35; refine Calls.mono (gw_at (rsat_b _ _)) ?_; rintro e w1 ⟨rfl, q, rfl⟩))
  exact bodyPost_ret (v := .agg #[.int .i64 (sat x), .int .i64 (sat y)]) (by simp [results, Try.results34, go_sem]; try (first | with_reducible rfl | exact ⟨rfl, rfl⟩ | exact ⟨rfl, rfl, rfl⟩ | exact ⟨rfl, rfl, rfl, rfl⟩ | exact ⟨rfl, rfl, rfl, rfl, rfl⟩ | exact ⟨rfl, rfl, rfl, rfl, rfl, rfl⟩ | rfl)) rfl ⟨rfl, (by repeat (first | with_reducible exact Below.refl _ _ | with_reducible assumption | refine bgw ?_ (by first | (simp; done) | (simp; omega) | omega) _ | refine Below.setCell ?_ (by first | exact Nat.le_of_not_lt (by assumption) | (simp; done) | (simp; omega) | omega) _ | refine Below.alloc ?_ (by first | (simp; done) | (simp; omega) | omega) _ | refine Below.drew ?_))⟩

theorem rvsub_b (ax ay bx b_y : Int) (w : World) : Calls Try.prog 21 #[.agg #[.int .i64 ax, .int .i64 ay], .agg #[.int .i64 bx, .int .i64 b_y]] w fun e w' => e = .returned (.agg #[.int .i64 (sub ax bx), .int .i64 (sub ay b_y)]) ∧ Below w.heap.size w w' := by
  go_enter Try.func21, Try.ntmps21
  go_wp2_with (first | (go_at_call 37; refine Calls.mono (gw_at (rsub_b _ _ _)) ?_; rintro e w1 ⟨rfl, q, rfl⟩))
  repeat
    refine wp_region_gw_tail 11 (by kernel_rfl) (by kernel_rfl) ?_
    simp only [List.take_succ_cons, List.take_zero, List.drop_succ_cons, List.drop_zero]
    repeat (go_big_quiet_step ((first | (go_at_call 37; exact gw_call (rsub_b _ _ _)))))
    refine wpQuiet_nil ?_
    intro w1 hw1
    obtain ⟨q, rfl⟩ := hw1
    go_wp2_with (first | (go_at_call 37; refine Calls.mono (gw_at (rsub_b _ _ _)) ?_; rintro e w1 ⟨rfl, q, rfl⟩))
  exact bodyPost_ret (v := .agg #[.int .i64 (sub ax bx), .int .i64 (sub ay b_y)]) (by simp [results, Try.results21, go_sem]; try (first | with_reducible rfl | exact ⟨rfl, rfl⟩ | exact ⟨rfl, rfl, rfl⟩ | exact ⟨rfl, rfl, rfl, rfl⟩ | exact ⟨rfl, rfl, rfl, rfl, rfl⟩ | exact ⟨rfl, rfl, rfl, rfl, rfl, rfl⟩ | rfl)) rfl ⟨rfl, (by repeat (first | with_reducible exact Below.refl _ _ | with_reducible assumption | refine bgw ?_ (by first | (simp; done) | (simp; omega) | omega) _ | refine Below.setCell ?_ (by first | exact Nat.le_of_not_lt (by assumption) | (simp; done) | (simp; omega) | omega) _ | refine Below.alloc ?_ (by first | (simp; done) | (simp; omega) | omega) _ | refine Below.drew ?_))⟩

theorem rdot_b (ax ay bx b_y : Int) (w : World) : Calls Try.prog 20 #[.agg #[.int .i64 ax, .int .i64 ay], .agg #[.int .i64 bx, .int .i64 b_y]] w fun e w' => e = .returned (.int .i64 (dot ax ay bx b_y)) ∧ Below w.heap.size w w' := by
  have h1 := satmul ax bx; have h2 := satmul ay b_y
  go_enter Try.func20, Try.ntmps20
  go_wp2_with (first | (go_at_call 34; refine Calls.mono (gw_at (rvsat_b _ _ _)) ?_; rintro e w1 ⟨rfl, q, rfl⟩) | (go_at_call 36; refine Calls.mono (gw_at (rrd_b _ _ _)) ?_; rintro e w1 ⟨rfl, q, rfl⟩) | (go_at_call 35; refine Calls.mono (gw_at (rsat_b _ _)) ?_; rintro e w1 ⟨rfl, q, rfl⟩))
  go_ret
  exact ⟨rfl, (by repeat (first | with_reducible exact Below.refl _ _ | with_reducible assumption | refine bgw ?_ (by first | (simp; done) | (simp; omega) | omega) _ | refine Below.setCell ?_ (by first | exact Nat.le_of_not_lt (by assumption) | (simp; done) | (simp; omega) | omega) _ | refine Below.alloc ?_ (by first | (simp; done) | (simp; omega) | omega) _ | refine Below.drew ?_))⟩

theorem rvlen_b (x y : Int) (w : World) : Calls Try.prog 45 #[.agg #[.int .i64 x, .int .i64 y]] w fun e w' => e = .returned (.int .i64 (vlen x y)) ∧ Below w.heap.size w w' := by
  have h1 := satmul x x; have h2 := satmul y y
  go_enter Try.func45, Try.ntmps45
  go_wp2_with (first | (go_at_call 34; refine Calls.mono (gw_at (rvsat_b _ _ _)) ?_; rintro e w1 ⟨rfl, q, rfl⟩) | (go_at_call 59; refine Calls.mono (gw_at (risq_b _ _)) ?_; rintro e w1 ⟨rfl, q, rfl⟩))
  go_ret
  exact ⟨rfl, (by repeat (first | with_reducible exact Below.refl _ _ | with_reducible assumption | refine bgw ?_ (by first | (simp; done) | (simp; omega) | omega) _ | refine Below.setCell ?_ (by first | exact Nat.le_of_not_lt (by assumption) | (simp; done) | (simp; omega) | omega) _ | refine Below.alloc ?_ (by first | (simp; done) | (simp; omega) | omega) _ | refine Below.drew ?_))⟩

theorem rvnorm0_b (x y : Int) (h : (vlen x y == 0) = true) (w : World) : Calls Try.prog 32 #[.agg #[.int .i64 x, .int .i64 y]] w fun e w' => e = .returned (.agg #[.int .i64 0, .int .i64 0]) ∧ Below w.heap.size w w' := by
  go_enter Try.func32, Try.ntmps32
  go_wp2_with (first | (go_at_call 45; refine Calls.mono (gw_at (rvlen_b _ _ _)) ?_; rintro e w1 ⟨rfl, q, rfl⟩) | (go_at_call 46; refine Calls.mono (gw_at (rdiv_b _ _ _)) ?_; rintro e w1 ⟨rfl, q, rfl⟩))
  exact bodyPost_ret (v := .agg #[.int .i64 0, .int .i64 0]) (by simp [results, Try.results32, go_sem]; try (first | with_reducible rfl | exact ⟨rfl, rfl⟩ | exact ⟨rfl, rfl, rfl⟩ | exact ⟨rfl, rfl, rfl, rfl⟩ | exact ⟨rfl, rfl, rfl, rfl, rfl⟩ | exact ⟨rfl, rfl, rfl, rfl, rfl, rfl⟩ | rfl)) rfl ⟨rfl, (by repeat (first | with_reducible exact Below.refl _ _ | with_reducible assumption | refine bgw ?_ (by first | (simp; done) | (simp; omega) | omega) _ | refine Below.setCell ?_ (by first | exact Nat.le_of_not_lt (by assumption) | (simp; done) | (simp; omega) | omega) _ | refine Below.alloc ?_ (by first | (simp; done) | (simp; omega) | omega) _ | refine Below.drew ?_))⟩

theorem rvnorm1_b (x y : Int) (h : (vlen x y == 0) = false) (w : World) : Calls Try.prog 32 #[.agg #[.int .i64 x, .int .i64 y]] w fun e w' => e = .returned (.agg #[.int .i64 (quo x (vlen x y)), .int .i64 (quo y (vlen x y))]) ∧ Below w.heap.size w w' := by
  go_enter Try.func32, Try.ntmps32
  go_wp2_with (first | (go_at_call 45; refine Calls.mono (gw_at (rvlen_b _ _ _)) ?_; rintro e w1 ⟨rfl, q, rfl⟩) | (go_at_call 46; refine Calls.mono (gw_at (rdiv_b _ _ _)) ?_; rintro e w1 ⟨rfl, q, rfl⟩))
  repeat
    refine wp_region_gw_tail 9 (by kernel_rfl) (by kernel_rfl) ?_
    simp only [List.take_succ_cons, List.take_zero, List.drop_succ_cons, List.drop_zero]
    repeat (go_big_quiet_step ((first | (go_at_call 45; exact gw_call (rvlen_b _ _ _)) | (go_at_call 46; exact gw_call (rdiv_b _ _ _)))))
    refine wpQuiet_nil ?_
    intro w1 hw1
    obtain ⟨q, rfl⟩ := hw1
    go_wp2_with (first | (go_at_call 45; refine Calls.mono (gw_at (rvlen_b _ _ _)) ?_; rintro e w1 ⟨rfl, q, rfl⟩) | (go_at_call 46; refine Calls.mono (gw_at (rdiv_b _ _ _)) ?_; rintro e w1 ⟨rfl, q, rfl⟩))
  exact bodyPost_ret (v := .agg #[.int .i64 (quo x (vlen x y)), .int .i64 (quo y (vlen x y))]) (by simp [results, Try.results32, go_sem]; try (first | with_reducible rfl | exact ⟨rfl, rfl⟩ | exact ⟨rfl, rfl, rfl⟩ | exact ⟨rfl, rfl, rfl, rfl⟩ | exact ⟨rfl, rfl, rfl, rfl, rfl⟩ | exact ⟨rfl, rfl, rfl, rfl, rfl, rfl⟩ | rfl)) rfl ⟨rfl, (by repeat (first | with_reducible exact Below.refl _ _ | with_reducible assumption | refine bgw ?_ (by first | (simp; done) | (simp; omega) | omega) _ | refine Below.setCell ?_ (by first | exact Nat.le_of_not_lt (by assumption) | (simp; done) | (simp; omega) | omega) _ | refine Below.alloc ?_ (by first | (simp; done) | (simp; omega) | omega) _ | refine Below.drew ?_))⟩

theorem rvnorm_b (x y : Int) (w : World) : Calls Try.prog 32 #[.agg #[.int .i64 x, .int .i64 y]] w fun e w' => e = .returned (.agg #[.int .i64 (unit x (vlen x y)), .int .i64 (unit y (vlen x y))]) ∧ Below w.heap.size w w' := by
  by_cases h : vlen x y = 0
  · have e : ∀ c, unit c (vlen x y) = 0 := fun c => by unfold unit; rw [if_pos h]
    rw [e x, e y]; exact rvnorm0_b x y (by rw [beq_iff_eq]; exact h) w
  · have e : ∀ c, unit c (vlen x y) = quo c (vlen x y) := fun c => by unfold unit; rw [if_neg h]
    rw [e x, e y]; exact rvnorm1_b x y (by rw [beq_eq_false_iff_ne]; exact h) w

end Go.Proofs.Ytodbbaimdbibpaa
