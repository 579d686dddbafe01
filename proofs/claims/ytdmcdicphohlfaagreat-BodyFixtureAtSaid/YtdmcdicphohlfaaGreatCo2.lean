/- The contracts of chapter 1, of the program and of the reference, in the form that the later chapters use: nothing below the heap's old size has turned. No conditions.
Contracts of package vec2 and of its reference: each returns what the Lean functions of the same meaning give, component by component, and nothing that existed has changed. No conditions. -/
import Derived.Test.YtdmcdicphohlfaaGreatCo1
import Derived.Test.YtdmcdicphohlfaaGreatKi1
import Derived.Test.YtdmcdicphohlfaaGreatMa1

set_option linter.unusedVariables false
namespace Go.Proofs.YtdmcdicphohlfaaGreat
open Go.RowKit Fx

theorem bl_same {w w' : World} (h : w = w') : Below w.heap.size w w' := h ▸ Below.refl _ _
theorem bl_dr {w w' : World} (h : Dr w w') : Below w.heap.size w w' := by
  obtain ⟨m, rfl⟩ := h; rw [drewN_gw]; exact below_gw _ _
theorem bl_of_same {f : FuncId} {args : Array Value} {w : World} {v : Value} {P : Program} (h : Calls P f args w fun e w' => e = .returned v ∧ w = w') : Calls P f args w fun e w' => e = .returned v ∧ Below w.heap.size w w' :=
  h.mono fun _ _ ⟨he, hw⟩ => ⟨he, bl_same hw⟩
theorem bl_of_dr {f : FuncId} {args : Array Value} {w : World} {v : Value} {P : Program} (h : Calls P f args w fun e w' => e = .returned v ∧ Dr w w') : Calls P f args w fun e w' => e = .returned v ∧ Below w.heap.size w w' :=
  h.mono fun _ _ ⟨he, hw⟩ => ⟨he, bl_dr hw⟩

theorem sat_b (a : Int) (w : World) : Calls Tryz.prog 164 #[.int .i64 a] w fun e w' => e = .returned (.int .i64 (sat a)) ∧ Below w.heap.size w w' := bl_of_same (sat_p a w)

theorem add_b (a b : Int) (w : World) : Calls Tryz.prog 150 #[.int .i64 a, .int .i64 b] w fun e w' => e = .returned (.int .i64 (add a b)) ∧ Below w.heap.size w w' := bl_of_same (add_p a b w)

theorem sub_b (a b : Int) (w : World) : Calls Tryz.prog 163 #[.int .i64 a, .int .i64 b] w fun e w' => e = .returned (.int .i64 (sub a b)) ∧ Below w.heap.size w w' := bl_of_same (sub_p a b w)

theorem rd_b (n d : Int) (w : World) : Calls Tryz.prog 206 #[.int .i64 n, .int .i64 d] w fun e w' => e = .returned (.int .i64 (rdiv n d)) ∧ Below w.heap.size w w' := bl_of_dr (rd_p n d w)

theorem mul_b (a b : Int) (w : World) : Calls Tryz.prog 151 #[.int .i64 a, .int .i64 b] w fun e w' => e = .returned (.int .i64 (mul a b)) ∧ Below w.heap.size w w' := bl_of_dr (mul_p a b w)

theorem div_b (a b : Int) (w : World) : Calls Tryz.prog 148 #[.int .i64 a, .int .i64 b] w fun e w' => e = .returned (.int .i64 (quo a b)) ∧ Below w.heap.size w w' := bl_of_dr (div_p a b w)

theorem lerp_b (a b t : Int) (w : World) : Calls Tryz.prog 273 #[.int .i64 a, .int .i64 b, .int .i64 t] w fun e w' => e = .returned (.int .i64 (lerp a b t)) ∧ Below w.heap.size w w' := bl_of_dr (lerp_p a b t w)

theorem clamp_b (x low high : Int) (w : World) : Calls Tryz.prog 91 #[.int .i64 x, .int .i64 low, .int .i64 high] w fun e w' => e = .returned (.int .i64 (clamp x low high)) ∧ Below w.heap.size w w' := bl_of_same (clamp_p x low high w)

theorem rt_b (n d : Int) (w : World) : Calls Tryz.prog 256 #[.int .i64 n, .int .i64 d] w fun e w' => e = .returned (.int .i64 (ratio n d)) ∧ Below w.heap.size w w' := bl_of_dr (rt_p n d w)

theorem isq_b (n : Int) (w : World) : Calls Tryz.prog 162 #[.int .i64 n] w fun e w' => e = .returned (.int .i64 (isq n)) ∧ Below w.heap.size w w' := bl_of_dr (isq_p n w)

theorem rsat_b (a : Int) (w : World) : Calls Tryz.prog 158 #[.int .i64 a] w fun e w' => e = .returned (.int .i64 (sat a)) ∧ Below w.heap.size w w' := bl_of_same (rsat_p a w)

theorem radd_b (a b : Int) (w : World) : Calls Tryz.prog 89 #[.int .i64 a, .int .i64 b] w fun e w' => e = .returned (.int .i64 (add a b)) ∧ Below w.heap.size w w' := bl_of_same (radd_p a b w)

theorem rsub_b (a b : Int) (w : World) : Calls Tryz.prog 137 #[.int .i64 a, .int .i64 b] w fun e w' => e = .returned (.int .i64 (sub a b)) ∧ Below w.heap.size w w' := bl_of_same (rsub_p a b w)

theorem rrd_b (n d : Int) (w : World) : Calls Tryz.prog 159 #[.int .i64 n, .int .i64 d] w fun e w' => e = .returned (.int .i64 (rdiv n d)) ∧ Below w.heap.size w w' := bl_of_dr (rrd_p n d w)

theorem rmul_b (a b : Int) (w : World) : Calls Tryz.prog 86 #[.int .i64 a, .int .i64 b] w fun e w' => e = .returned (.int .i64 (mul a b)) ∧ Below w.heap.size w w' := bl_of_dr (rmul_p a b w)

theorem rdiv_b (a b : Int) (w : World) : Calls Tryz.prog 149 #[.int .i64 a, .int .i64 b] w fun e w' => e = .returned (.int .i64 (quo a b)) ∧ Below w.heap.size w w' := bl_of_dr (rdiv_p a b w)

theorem rlerp_b (a b t : Int) (w : World) : Calls Tryz.prog 242 #[.int .i64 a, .int .i64 b, .int .i64 t] w fun e w' => e = .returned (.int .i64 (lerp a b t)) ∧ Below w.heap.size w w' := bl_of_dr (rlerp_p a b t w)

theorem rclamp_b (x low high : Int) (w : World) : Calls Tryz.prog 92 #[.int .i64 x, .int .i64 low, .int .i64 high] w fun e w' => e = .returned (.int .i64 (clamp x low high)) ∧ Below w.heap.size w w' := bl_of_same (rclamp_p x low high w)

theorem rrt_b (n d : Int) (w : World) : Calls Tryz.prog 251 #[.int .i64 n, .int .i64 d] w fun e w' => e = .returned (.int .i64 (ratio n d)) ∧ Below w.heap.size w w' := bl_of_dr (rrt_p n d w)

theorem risq_b (n : Int) (w : World) : Calls Tryz.prog 185 #[.int .i64 n] w fun e w' => e = .returned (.int .i64 (isq n)) ∧ Below w.heap.size w w' := bl_of_dr (risq_p n w)

end Go.Proofs.YtdmcdicphohlfaaGreat

set_option linter.unusedVariables false
namespace Go.Proofs.YtdmcdicphohlfaaGreat
open Go.RowKit Fx

theorem vsat_b (x y : Int) (w : World) : Calls Tryz.prog 156 #[.agg #[.int .i64 x, .int .i64 y]] w fun e w' => e = .returned (.agg #[.int .i64 (sat x), .int .i64 (sat y)]) ∧ Below w.heap.size w w' := by
  go_enter Tryz.func156, Tryz.ntmps156
  go_wp2_with (first | (go_at_call 164; refine Calls.mono (gw_at (sat_b _ _)) ?_; rintro e w1 ⟨rfl, q, rfl⟩))
  repeat
    refine wp_region_gw_tail 7 (by kernel_rfl) (by kernel_rfl) ?_
    simp only [List.take_succ_cons, List.take_zero, List.drop_succ_cons, List.drop_zero]
    repeat (go_big_quiet_step ((first | (go_at_call 164; exact gw_call (sat_b _ _)))))
    refine wpQuiet_nil ?_
    intro w1 hw1
    obtain ⟨q, rfl⟩ := hw1
    go_wp2_with (first | (go_at_call 164; refine Calls.mono (gw_at (sat_b _ _)) ?_; rintro e w1 ⟨rfl, q, rfl⟩))
  exact bodyPost_ret (v := .agg #[.int .i64 (sat x), .int .i64 (sat y)]) (by simp [results, Tryz.results156, go_sem]; try (first | with_reducible rfl | exact ⟨rfl, rfl⟩ | exact ⟨rfl, rfl, rfl⟩ | exact ⟨rfl, rfl, rfl, rfl⟩ | exact ⟨rfl, rfl, rfl, rfl, rfl⟩ | exact ⟨rfl, rfl, rfl, rfl, rfl, rfl⟩ | rfl)) rfl ⟨rfl, bBel⟩

theorem vrsat_b (c s : Int) (w : World) : Calls Tryz.prog 200 #[.agg #[.int .i64 c, .int .i64 s]] w fun e w' => e = .returned (.agg #[.int .i64 (sat c), .int .i64 (sat s)]) ∧ Below w.heap.size w w' := by
  go_enter Tryz.func200, Tryz.ntmps200
  go_wp2_with (first | (go_at_call 164; refine Calls.mono (gw_at (sat_b _ _)) ?_; rintro e w1 ⟨rfl, q, rfl⟩))
  repeat
    refine wp_region_gw_tail 7 (by kernel_rfl) (by kernel_rfl) ?_
    simp only [List.take_succ_cons, List.take_zero, List.drop_succ_cons, List.drop_zero]
    repeat (go_big_quiet_step ((first | (go_at_call 164; exact gw_call (sat_b _ _)))))
    refine wpQuiet_nil ?_
    intro w1 hw1
    obtain ⟨q, rfl⟩ := hw1
    go_wp2_with (first | (go_at_call 164; refine Calls.mono (gw_at (sat_b _ _)) ?_; rintro e w1 ⟨rfl, q, rfl⟩))
  exact bodyPost_ret (v := .agg #[.int .i64 (sat c), .int .i64 (sat s)]) (by simp [results, Tryz.results200, go_sem]; try (first | with_reducible rfl | exact ⟨rfl, rfl⟩ | exact ⟨rfl, rfl, rfl⟩ | exact ⟨rfl, rfl, rfl, rfl⟩ | exact ⟨rfl, rfl, rfl, rfl, rfl⟩ | exact ⟨rfl, rfl, rfl, rfl, rfl, rfl⟩ | rfl)) rfl ⟨rfl, bBel⟩

theorem vdiff_b (ax ay bx b_y : Int) (w : World) : Calls Tryz.prog 214 #[.agg #[.int .i64 ax, .int .i64 ay], .agg #[.int .i64 bx, .int .i64 b_y]] w fun e w' => e = .returned (.agg #[.int .i64 (sat ax - sat bx), .int .i64 (sat ay - sat b_y)]) ∧ Below w.heap.size w w' := by
  have a1 := sat_le ax; have a2 := sat_ge ax; have a3 := sat_le ay; have a4 := sat_ge ay
  have b1 := sat_le bx; have b2 := sat_ge bx; have b3 := sat_le b_y; have b4 := sat_ge b_y
  go_enter Tryz.func214, Tryz.ntmps214
  go_wp2_with (first | (go_at_call 156; refine Calls.mono (gw_at (vsat_b _ _ _)) ?_; rintro e w1 ⟨rfl, q, rfl⟩))
  repeat
    refine wp_region_gw_tail 4 (by kernel_rfl) (by kernel_rfl) ?_
    simp only [List.take_succ_cons, List.take_zero, List.drop_succ_cons, List.drop_zero]
    repeat (go_big_quiet_step ((first | (go_at_call 156; exact gw_call (vsat_b _ _ _)))))
    refine wpQuiet_nil ?_
    intro w1 hw1
    obtain ⟨q, rfl⟩ := hw1
    go_wp2_with (first | (go_at_call 156; refine Calls.mono (gw_at (vsat_b _ _ _)) ?_; rintro e w1 ⟨rfl, q, rfl⟩))
  exact bodyPost_ret (v := .agg #[.int .i64 (sat ax - sat bx), .int .i64 (sat ay - sat b_y)]) (by simp [results, Tryz.results214, go_sem]; try (first | with_reducible rfl | exact ⟨rfl, rfl⟩ | exact ⟨rfl, rfl, rfl⟩ | exact ⟨rfl, rfl, rfl, rfl⟩ | exact ⟨rfl, rfl, rfl, rfl, rfl⟩ | exact ⟨rfl, rfl, rfl, rfl, rfl, rfl⟩ | rfl)) rfl ⟨rfl, bBel⟩

theorem cnan_b (x : Int) (w : World) : Calls Tryz.prog 220 #[.int .i64 x] w fun e w' => e = .returned (.bool false) ∧ Below w.heap.size w w' := by
  go_enter Tryz.func220, Tryz.ntmps220
  go_wp2_with fail
  go_ret
  exact ⟨rfl, bBel⟩

theorem cmp_b (x y : Int) (w : World) : Calls Tryz.prog 171 #[.int .i64 x, .int .i64 y] w fun e w' => e = .returned (.int .i64 (sgn (x - y))) ∧ Below w.heap.size w w' := by
  by_cases hp : y < x
  · rw [sgn_pos (by omega)]
    go_enter Tryz.func171, Tryz.ntmps171
    go_wp2_with (first | (go_at_call 220; refine Calls.mono (gw_at (cnan_b _ _)) ?_; rintro e w1 ⟨rfl, q, rfl⟩))
    go_ret
    exact ⟨rfl, bBel⟩
  · by_cases hn : x < y
    · rw [sgn_neg (by omega)]
      go_enter Tryz.func171, Tryz.ntmps171
      go_wp2_with (first | (go_at_call 220; refine Calls.mono (gw_at (cnan_b _ _)) ?_; rintro e w1 ⟨rfl, q, rfl⟩))
      go_ret
      exact ⟨rfl, bBel⟩
    · rw [sgn_zero (by omega) (by omega)]
      go_enter Tryz.func171, Tryz.ntmps171
      go_wp2_with (first | (go_at_call 220; refine Calls.mono (gw_at (cnan_b _ _)) ?_; rintro e w1 ⟨rfl, q, rfl⟩))
      go_ret
      exact ⟨rfl, bBel⟩

theorem round_b (n : Int) (w : World) : Calls Tryz.prog 157 #[.int .i64 n] w fun e w' => e = .returned (.int .i64 (sat (rdiv n 65536))) ∧ Below w.heap.size w w' := by
  go_enter Tryz.func157, Tryz.ntmps157
  go_wp2_with (first | (go_at_call 206; refine Calls.mono (gw_at (rd_b _ _ _)) ?_; rintro e w1 ⟨rfl, q, rfl⟩) | (go_at_call 164; refine Calls.mono (gw_at (sat_b _ _)) ?_; rintro e w1 ⟨rfl, q, rfl⟩))
  go_ret
  exact ⟨rfl, bBel⟩

theorem vadd_b (ax ay bx b_y : Int) (w : World) : Calls Tryz.prog 74 #[.agg #[.int .i64 ax, .int .i64 ay], .agg #[.int .i64 bx, .int .i64 b_y]] w fun e w' => e = .returned (.agg #[.int .i64 (add ax bx), .int .i64 (add ay b_y)]) ∧ Below w.heap.size w w' := by
  go_enter Tryz.func74, Tryz.ntmps74
  go_wp2_with (first | (go_at_call 150; refine Calls.mono (gw_at (add_b _ _ _)) ?_; rintro e w1 ⟨rfl, q, rfl⟩))
  repeat
    refine wp_region_gw_tail 11 (by kernel_rfl) (by kernel_rfl) ?_
    simp only [List.take_succ_cons, List.take_zero, List.drop_succ_cons, List.drop_zero]
    repeat (go_big_quiet_step ((first | (go_at_call 150; exact gw_call (add_b _ _ _)))))
    refine wpQuiet_nil ?_
    intro w1 hw1
    obtain ⟨q, rfl⟩ := hw1
    go_wp2_with (first | (go_at_call 150; refine Calls.mono (gw_at (add_b _ _ _)) ?_; rintro e w1 ⟨rfl, q, rfl⟩))
  exact bodyPost_ret (v := .agg #[.int .i64 (add ax bx), .int .i64 (add ay b_y)]) (by simp [results, Tryz.results74, go_sem]; try (first | with_reducible rfl | exact ⟨rfl, rfl⟩ | exact ⟨rfl, rfl, rfl⟩ | exact ⟨rfl, rfl, rfl, rfl⟩ | exact ⟨rfl, rfl, rfl, rfl, rfl⟩ | exact ⟨rfl, rfl, rfl, rfl, rfl, rfl⟩ | rfl)) rfl ⟨rfl, bBel⟩

theorem vsub_b (ax ay bx b_y : Int) (w : World) : Calls Tryz.prog 97 #[.agg #[.int .i64 ax, .int .i64 ay], .agg #[.int .i64 bx, .int .i64 b_y]] w fun e w' => e = .returned (.agg #[.int .i64 (sub ax bx), .int .i64 (sub ay b_y)]) ∧ Below w.heap.size w w' := by
  go_enter Tryz.func97, Tryz.ntmps97
  go_wp2_with (first | (go_at_call 163; refine Calls.mono (gw_at (sub_b _ _ _)) ?_; rintro e w1 ⟨rfl, q, rfl⟩))
  repeat
    refine wp_region_gw_tail 11 (by kernel_rfl) (by kernel_rfl) ?_
    simp only [List.take_succ_cons, List.take_zero, List.drop_succ_cons, List.drop_zero]
    repeat (go_big_quiet_step ((first | (go_at_call 163; exact gw_call (sub_b _ _ _)))))
    refine wpQuiet_nil ?_
    intro w1 hw1
    obtain ⟨q, rfl⟩ := hw1
    go_wp2_with (first | (go_at_call 163; refine Calls.mono (gw_at (sub_b _ _ _)) ?_; rintro e w1 ⟨rfl, q, rfl⟩))
  exact bodyPost_ret (v := .agg #[.int .i64 (sub ax bx), .int .i64 (sub ay b_y)]) (by simp [results, Tryz.results97, go_sem]; try (first | with_reducible rfl | exact ⟨rfl, rfl⟩ | exact ⟨rfl, rfl, rfl⟩ | exact ⟨rfl, rfl, rfl, rfl⟩ | exact ⟨rfl, rfl, rfl, rfl, rfl⟩ | exact ⟨rfl, rfl, rfl, rfl, rfl, rfl⟩ | rfl)) rfl ⟨rfl, bBel⟩

theorem vscale_b (x y k : Int) (w : World) : Calls Tryz.prog 155 #[.agg #[.int .i64 x, .int .i64 y], .int .i64 k] w fun e w' => e = .returned (.agg #[.int .i64 (mul x k), .int .i64 (mul y k)]) ∧ Below w.heap.size w w' := by
  go_enter Tryz.func155, Tryz.ntmps155
  go_wp2_with (first | (go_at_call 151; refine Calls.mono (gw_at (mul_b _ _ _)) ?_; rintro e w1 ⟨rfl, q, rfl⟩))
  repeat
    refine wp_region_gw_tail 9 (by kernel_rfl) (by kernel_rfl) ?_
    simp only [List.take_succ_cons, List.take_zero, List.drop_succ_cons, List.drop_zero]
    repeat (go_big_quiet_step ((first | (go_at_call 151; exact gw_call (mul_b _ _ _)))))
    refine wpQuiet_nil ?_
    intro w1 hw1
    obtain ⟨q, rfl⟩ := hw1
    go_wp2_with (first | (go_at_call 151; refine Calls.mono (gw_at (mul_b _ _ _)) ?_; rintro e w1 ⟨rfl, q, rfl⟩))
  exact bodyPost_ret (v := .agg #[.int .i64 (mul x k), .int .i64 (mul y k)]) (by simp [results, Tryz.results155, go_sem]; try (first | with_reducible rfl | exact ⟨rfl, rfl⟩ | exact ⟨rfl, rfl, rfl⟩ | exact ⟨rfl, rfl, rfl, rfl⟩ | exact ⟨rfl, rfl, rfl, rfl, rfl⟩ | exact ⟨rfl, rfl, rfl, rfl, rfl, rfl⟩ | rfl)) rfl ⟨rfl, bBel⟩

theorem vcs_b (k x y : Int) (w : World) : Calls Tryz.prog 75 #[.int .i64 k, .agg #[.int .i64 x, .int .i64 y]] w fun e w' => e = .returned (.agg #[.int .i64 (-mul k y), .int .i64 (mul k x)]) ∧ Below w.heap.size w w' := by
  have h1 : -536870911 ≤ mul k y := sat_ge _
  have h2 : mul k y ≤ 536870911 := sat_le _
  go_enter Tryz.func75, Tryz.ntmps75
  go_wp2_with (first | (go_at_call 151; refine Calls.mono (gw_at (mul_b _ _ _)) ?_; rintro e w1 ⟨rfl, q, rfl⟩))
  repeat
    refine wp_region_gw_tail 10 (by kernel_rfl) (by kernel_rfl) ?_
    simp only [List.take_succ_cons, List.take_zero, List.drop_succ_cons, List.drop_zero]
    repeat (go_big_quiet_step ((first | (go_at_call 151; exact gw_call (mul_b _ _ _)))))
    refine wpQuiet_nil ?_
    intro w1 hw1
    obtain ⟨q, rfl⟩ := hw1
    go_wp2_with (first | (go_at_call 151; refine Calls.mono (gw_at (mul_b _ _ _)) ?_; rintro e w1 ⟨rfl, q, rfl⟩))
  exact bodyPost_ret (v := .agg #[.int .i64 (-mul k y), .int .i64 (mul k x)]) (by simp [results, Tryz.results75, go_sem]; try (first | with_reducible rfl | exact ⟨rfl, rfl⟩ | exact ⟨rfl, rfl, rfl⟩ | exact ⟨rfl, rfl, rfl, rfl⟩ | exact ⟨rfl, rfl, rfl, rfl, rfl⟩ | exact ⟨rfl, rfl, rfl, rfl, rfl, rfl⟩ | rfl)) rfl ⟨rfl, bBel⟩

theorem vlerp_b (ax ay bx b_y t : Int) (w : World) : Calls Tryz.prog 238 #[.agg #[.int .i64 ax, .int .i64 ay], .agg #[.int .i64 bx, .int .i64 b_y], .int .i64 t] w fun e w' => e = .returned (.agg #[.int .i64 (lerp ax bx t), .int .i64 (lerp ay b_y t)]) ∧ Below w.heap.size w w' := by
  go_enter Tryz.func238, Tryz.ntmps238
  go_wp2_with (first | (go_at_call 273; refine Calls.mono (gw_at (lerp_b _ _ _ _)) ?_; rintro e w1 ⟨rfl, q, rfl⟩))
  repeat
    refine wp_region_gw_tail 13 (by kernel_rfl) (by kernel_rfl) ?_
    simp only [List.take_succ_cons, List.take_zero, List.drop_succ_cons, List.drop_zero]
    repeat (go_big_quiet_step ((first | (go_at_call 273; exact gw_call (lerp_b _ _ _ _)))))
    refine wpQuiet_nil ?_
    intro w1 hw1
    obtain ⟨q, rfl⟩ := hw1
    go_wp2_with (first | (go_at_call 273; refine Calls.mono (gw_at (lerp_b _ _ _ _)) ?_; rintro e w1 ⟨rfl, q, rfl⟩))
  exact bodyPost_ret (v := .agg #[.int .i64 (lerp ax bx t), .int .i64 (lerp ay b_y t)]) (by simp [results, Tryz.results238, go_sem]; try (first | with_reducible rfl | exact ⟨rfl, rfl⟩ | exact ⟨rfl, rfl, rfl⟩ | exact ⟨rfl, rfl, rfl, rfl⟩ | exact ⟨rfl, rfl, rfl, rfl, rfl⟩ | exact ⟨rfl, rfl, rfl, rfl, rfl, rfl⟩ | rfl)) rfl ⟨rfl, bBel⟩

theorem dot_b (ax ay bx b_y : Int) (w : World) : Calls Tryz.prog 195 #[.agg #[.int .i64 ax, .int .i64 ay], .agg #[.int .i64 bx, .int .i64 b_y]] w fun e w' => e = .returned (.int .i64 (dot ax ay bx b_y)) ∧ Below w.heap.size w w' := by
  have h1 := satmul ax bx; have h2 := satmul ay b_y
  go_enter Tryz.func195, Tryz.ntmps195
  go_wp2_with (first | (go_at_call 156; refine Calls.mono (gw_at (vsat_b _ _ _)) ?_; rintro e w1 ⟨rfl, q, rfl⟩) | (go_at_call 157; refine Calls.mono (gw_at (round_b _ _)) ?_; rintro e w1 ⟨rfl, q, rfl⟩))
  repeat
    refine wp_region_gw_tail 4 (by kernel_rfl) (by kernel_rfl) ?_
    simp only [List.take_succ_cons, List.take_zero, List.drop_succ_cons, List.drop_zero]
    repeat (go_big_quiet_step ((first | (go_at_call 156; exact gw_call (vsat_b _ _ _)) | (go_at_call 157; exact gw_call (round_b _ _)))))
    refine wpQuiet_nil ?_
    intro w1 hw1
    obtain ⟨q, rfl⟩ := hw1
    go_wp2_with (first | (go_at_call 156; refine Calls.mono (gw_at (vsat_b _ _ _)) ?_; rintro e w1 ⟨rfl, q, rfl⟩) | (go_at_call 157; refine Calls.mono (gw_at (round_b _ _)) ?_; rintro e w1 ⟨rfl, q, rfl⟩))
  go_ret
  exact ⟨rfl, bBel⟩

theorem cross_b (ax ay bx b_y : Int) (w : World) : Calls Tryz.prog 85 #[.agg #[.int .i64 ax, .int .i64 ay], .agg #[.int .i64 bx, .int .i64 b_y]] w fun e w' => e = .returned (.int .i64 (cross ax ay bx b_y)) ∧ Below w.heap.size w w' := by
  have h1 := satmul ax b_y; have h2 := satmul ay bx
  go_enter Tryz.func85, Tryz.ntmps85
  go_wp2_with (first | (go_at_call 156; refine Calls.mono (gw_at (vsat_b _ _ _)) ?_; rintro e w1 ⟨rfl, q, rfl⟩) | (go_at_call 157; refine Calls.mono (gw_at (round_b _ _)) ?_; rintro e w1 ⟨rfl, q, rfl⟩))
  repeat
    refine wp_region_gw_tail 4 (by kernel_rfl) (by kernel_rfl) ?_
    simp only [List.take_succ_cons, List.take_zero, List.drop_succ_cons, List.drop_zero]
    repeat (go_big_quiet_step ((first | (go_at_call 156; exact gw_call (vsat_b _ _ _)) | (go_at_call 157; exact gw_call (round_b _ _)))))
    refine wpQuiet_nil ?_
    intro w1 hw1
    obtain ⟨q, rfl⟩ := hw1
    go_wp2_with (first | (go_at_call 156; refine Calls.mono (gw_at (vsat_b _ _ _)) ?_; rintro e w1 ⟨rfl, q, rfl⟩) | (go_at_call 157; refine Calls.mono (gw_at (round_b _ _)) ?_; rintro e w1 ⟨rfl, q, rfl⟩))
  go_ret
  exact ⟨rfl, bBel⟩

theorem vlen_b (x y : Int) (w : World) : Calls Tryz.prog 96 #[.agg #[.int .i64 x, .int .i64 y]] w fun e w' => e = .returned (.int .i64 (vlen x y)) ∧ Below w.heap.size w w' := by
  have h1 := satmul x x; have h2 := satmul y y
  go_enter Tryz.func96, Tryz.ntmps96
  go_wp2_with (first | (go_at_call 156; refine Calls.mono (gw_at (vsat_b _ _ _)) ?_; rintro e w1 ⟨rfl, q, rfl⟩) | (go_at_call 162; refine Calls.mono (gw_at (isq_b _ _)) ?_; rintro e w1 ⟨rfl, q, rfl⟩))
  go_ret
  exact ⟨rfl, bBel⟩

theorem vrot_b (c s x y : Int) (w : World) : Calls Tryz.prog 144 #[.agg #[.int .i64 c, .int .i64 s], .agg #[.int .i64 x, .int .i64 y]] w fun e w' => e = .returned (.agg #[.int .i64 (rotx c s x y), .int .i64 (roty c s x y)]) ∧ Below w.heap.size w w' := by
  have h1 := satmul c x; have h2 := satmul s y; have h3 := satmul s x; have h4 := satmul c y
  go_enter Tryz.func144, Tryz.ntmps144
  go_wp2_with (first | (go_at_call 200; refine Calls.mono (gw_at (vrsat_b _ _ _)) ?_; rintro e w1 ⟨rfl, q, rfl⟩) | (go_at_call 156; refine Calls.mono (gw_at (vsat_b _ _ _)) ?_; rintro e w1 ⟨rfl, q, rfl⟩) | (go_at_call 157; refine Calls.mono (gw_at (round_b _ _)) ?_; rintro e w1 ⟨rfl, q, rfl⟩))
  repeat
    first
      | (refine wp_region_gw_tail 4 (by kernel_rfl) (by decide +kernel) ?_
         simp only [List.take_succ_cons, List.take_zero, List.drop_succ_cons, List.drop_zero]
         repeat (go_big_quiet_step ((first | (go_at_call 200; exact gw_call (vrsat_b _ _ _)) | (go_at_call 156; exact gw_call (vsat_b _ _ _)) | (go_at_call 157; exact gw_call (round_b _ _)))))
         refine wpQuiet_nil ?_
         intro w1 hw1
         obtain ⟨q, rfl⟩ := hw1)
      | (refine wp_region_gw_tail 25 (by kernel_rfl) (by decide +kernel) ?_
         simp only [List.take_succ_cons, List.take_zero, List.drop_succ_cons, List.drop_zero]
         repeat (go_big_quiet_step ((first | (go_at_call 200; exact gw_call (vrsat_b _ _ _)) | (go_at_call 156; exact gw_call (vsat_b _ _ _)) | (go_at_call 157; exact gw_call (round_b _ _)))))
         refine wpQuiet_nil ?_
         intro w1 hw1
         obtain ⟨q, rfl⟩ := hw1)
    go_wp2_with (first | (go_at_call 200; refine Calls.mono (gw_at (vrsat_b _ _ _)) ?_; rintro e w1 ⟨rfl, q, rfl⟩) | (go_at_call 156; refine Calls.mono (gw_at (vsat_b _ _ _)) ?_; rintro e w1 ⟨rfl, q, rfl⟩) | (go_at_call 157; refine Calls.mono (gw_at (round_b _ _)) ?_; rintro e w1 ⟨rfl, q, rfl⟩))
  exact bodyPost_ret (v := .agg #[.int .i64 (rotx c s x y), .int .i64 (roty c s x y)]) (by simp [results, Tryz.results144, go_sem]; try (first | with_reducible rfl | exact ⟨rfl, rfl⟩ | exact ⟨rfl, rfl, rfl⟩ | exact ⟨rfl, rfl, rfl, rfl⟩ | exact ⟨rfl, rfl, rfl, rfl, rfl⟩ | exact ⟨rfl, rfl, rfl, rfl, rfl, rfl⟩ | rfl)) rfl ⟨rfl, bBel⟩

theorem orient_b (ax ay bx b_y cx cy : Int) (w : World) : Calls Tryz.prog 167 #[.agg #[.int .i64 ax, .int .i64 ay], .agg #[.int .i64 bx, .int .i64 b_y], .agg #[.int .i64 cx, .int .i64 cy]] w fun e w' => e = .returned (.int .i64 (orient ax ay bx b_y cx cy)) ∧ Below w.heap.size w w' := by
  have d1 := diffmul (a := bx) (b := ax) (c := cy) (d := ay); have d2 := diffmul (a := b_y) (b := ay) (c := cx) (d := ax)
  go_enter Tryz.func167, Tryz.ntmps167
  go_wp2_with (first | (go_at_call 214; refine Calls.mono (gw_at (vdiff_b _ _ _ _ _)) ?_; rintro e w1 ⟨rfl, q, rfl⟩) | (go_at_call 171; refine Calls.mono (gw_at (cmp_b _ _ _)) ?_; rintro e w1 ⟨rfl, q, rfl⟩))
  repeat
    apply wp_box2 8 26 6 7 7 8 #[.int .i64 0, .int .i64 0] #[.int .i64 0, .int .i64 0] 24 24 (by kernel_rfl) (by rfl) (by kernel_rfl) (by rfl) (by intro o ho a w; simp at ho; subst ho; simp [go_sem, ptr]) (by intro o ho a w; simp at ho; subst ho; simp [go_sem, ptr])
    · intro p0
      simp only [heads, ghost, List.take_succ_cons, List.take_zero, List.map_cons, List.map_nil]
      repeat (go_big_quiet_step ((first | (go_at_call 214; exact gw_call (vdiff_b _ _ _ _ _)) | (go_at_call 171; exact gw_call (cmp_b _ _ _)))))
      exact wpQuiet_nil rfl
    · intro R bB1 bB2 p0 nB1 nB2 gB1 gB2 neB01 neB01' kB1 kB2 hK
      simp only [List.drop_succ_cons, List.drop_zero, Act.put, ptr, List.setIfInBounds_toArray, List.set_cons_succ, List.set_cons_zero]
      have cB1_0 : _ = some _ := blk_cell kB1 0
      have cB1_1 : _ = some _ := blk_cell kB1 1
      have cB2_0 : _ = some _ := blk_cell kB2 0
      have cB2_1 : _ = some _ := blk_cell kB2 1
      have fB1_0 := blk_free kB1 0
      have fB1_1 := blk_free kB1 1
      have fB2_0 := blk_free kB2 0
      have fB2_1 := blk_free kB2 1
      have oB1 := blk_older kB1
      have oB2 := blk_older kB2
      go_wp2_with fail
      refine box_end2 gB1 gB2 hK ?_ ?_ ?_
      · exact bBel
      · exact (by repeat' (first | with_reducible assumption | with_reducible apply blk_gw | with_reducible apply blk_alloc | with_reducible apply blk_set | ((with_reducible apply blk_other); focus (first | omega | assumption))))
      · exact (by repeat' (first | with_reducible assumption | with_reducible apply blk_gw | with_reducible apply blk_alloc | with_reducible apply blk_set | ((with_reducible apply blk_other); focus (first | omega | assumption))))
    intro bB1 bB2 p0 nB1 nB2 neB01 neB01' kB1 kB2
    have cB1_0 : _ = some _ := blk_cell kB1 0
    have cB1_1 : _ = some _ := blk_cell kB1 1
    have cB2_0 : _ = some _ := blk_cell kB2 0
    have cB2_1 : _ = some _ := blk_cell kB2 1
    have fB1_0 := blk_free kB1 0
    have fB1_1 := blk_free kB1 1
    have fB2_0 := blk_free kB2 0
    have fB2_1 := blk_free kB2 1
    have oB1 := blk_older kB1
    have oB2 := blk_older kB2
    go_wp2_with (first | (go_at_call 214; refine Calls.mono (gw_at (vdiff_b _ _ _ _ _)) ?_; rintro e w1 ⟨rfl, q, rfl⟩) | (go_at_call 171; refine Calls.mono (gw_at (cmp_b _ _ _)) ?_; rintro e w1 ⟨rfl, q, rfl⟩))
  go_ret
  exact ⟨rfl, bBel⟩

theorem dist2_b (ax ay bx b_y : Int) (w : World) : Calls Tryz.prog 165 #[.agg #[.int .i64 ax, .int .i64 ay], .agg #[.int .i64 bx, .int .i64 b_y]] w fun e w' => e = .returned (.int .i64 (dist2 ax ay bx b_y)) ∧ Below w.heap.size w w' := by
  have d1 := diffmul (a := bx) (b := ax) (c := bx) (d := ax); have d2 := diffmul (a := b_y) (b := ay) (c := b_y) (d := ay)
  go_enter Tryz.func165, Tryz.ntmps165
  go_wp2_with (first | (go_at_call 214; refine Calls.mono (gw_at (vdiff_b _ _ _ _ _)) ?_; rintro e w1 ⟨rfl, q, rfl⟩))
  go_ret
  exact ⟨rfl, bBel⟩

theorem rvsat_b (x y : Int) (w : World) : Calls Tryz.prog 160 #[.agg #[.int .i64 x, .int .i64 y]] w fun e w' => e = .returned (.agg #[.int .i64 (sat x), .int .i64 (sat y)]) ∧ Below w.heap.size w w' := by
  go_enter Tryz.func160, Tryz.ntmps160
  go_wp2_with (first | (go_at_call 158; refine Calls.mono (gw_at (rsat_b _ _)) ?_; rintro e w1 ⟨rfl, q, rfl⟩))
  repeat
    refine wp_region_gw_tail 7 (by kernel_rfl) (by kernel_rfl) ?_
    simp only [List.take_succ_cons, List.take_zero, List.drop_succ_cons, List.drop_zero]
    repeat (go_big_quiet_step ((first | (go_at_call 158; exact gw_call (rsat_b _ _)))))
    refine wpQuiet_nil ?_
    intro w1 hw1
    obtain ⟨q, rfl⟩ := hw1
    go_wp2_with (first | (go_at_call 158; refine Calls.mono (gw_at (rsat_b _ _)) ?_; rintro e w1 ⟨rfl, q, rfl⟩))
  exact bodyPost_ret (v := .agg #[.int .i64 (sat x), .int .i64 (sat y)]) (by simp [results, Tryz.results160, go_sem]; try (first | with_reducible rfl | exact ⟨rfl, rfl⟩ | exact ⟨rfl, rfl, rfl⟩ | exact ⟨rfl, rfl, rfl, rfl⟩ | exact ⟨rfl, rfl, rfl, rfl, rfl⟩ | exact ⟨rfl, rfl, rfl, rfl, rfl, rfl⟩ | rfl)) rfl ⟨rfl, bBel⟩

theorem rvadd_b (ax ay bx b_y : Int) (w : World) : Calls Tryz.prog 77 #[.agg #[.int .i64 ax, .int .i64 ay], .agg #[.int .i64 bx, .int .i64 b_y]] w fun e w' => e = .returned (.agg #[.int .i64 (add ax bx), .int .i64 (add ay b_y)]) ∧ Below w.heap.size w w' := by
  go_enter Tryz.func77, Tryz.ntmps77
  go_wp2_with (first | (go_at_call 89; refine Calls.mono (gw_at (radd_b _ _ _)) ?_; rintro e w1 ⟨rfl, q, rfl⟩))
  repeat
    refine wp_region_gw_tail 11 (by kernel_rfl) (by kernel_rfl) ?_
    simp only [List.take_succ_cons, List.take_zero, List.drop_succ_cons, List.drop_zero]
    repeat (go_big_quiet_step ((first | (go_at_call 89; exact gw_call (radd_b _ _ _)))))
    refine wpQuiet_nil ?_
    intro w1 hw1
    obtain ⟨q, rfl⟩ := hw1
    go_wp2_with (first | (go_at_call 89; refine Calls.mono (gw_at (radd_b _ _ _)) ?_; rintro e w1 ⟨rfl, q, rfl⟩))
  exact bodyPost_ret (v := .agg #[.int .i64 (add ax bx), .int .i64 (add ay b_y)]) (by simp [results, Tryz.results77, go_sem]; try (first | with_reducible rfl | exact ⟨rfl, rfl⟩ | exact ⟨rfl, rfl, rfl⟩ | exact ⟨rfl, rfl, rfl, rfl⟩ | exact ⟨rfl, rfl, rfl, rfl, rfl⟩ | exact ⟨rfl, rfl, rfl, rfl, rfl, rfl⟩ | rfl)) rfl ⟨rfl, bBel⟩

theorem rvsub_b (ax ay bx b_y : Int) (w : World) : Calls Tryz.prog 79 #[.agg #[.int .i64 ax, .int .i64 ay], .agg #[.int .i64 bx, .int .i64 b_y]] w fun e w' => e = .returned (.agg #[.int .i64 (sub ax bx), .int .i64 (sub ay b_y)]) ∧ Below w.heap.size w w' := by
  go_enter Tryz.func79, Tryz.ntmps79
  go_wp2_with (first | (go_at_call 137; refine Calls.mono (gw_at (rsub_b _ _ _)) ?_; rintro e w1 ⟨rfl, q, rfl⟩))
  repeat
    refine wp_region_gw_tail 11 (by kernel_rfl) (by kernel_rfl) ?_
    simp only [List.take_succ_cons, List.take_zero, List.drop_succ_cons, List.drop_zero]
    repeat (go_big_quiet_step ((first | (go_at_call 137; exact gw_call (rsub_b _ _ _)))))
    refine wpQuiet_nil ?_
    intro w1 hw1
    obtain ⟨q, rfl⟩ := hw1
    go_wp2_with (first | (go_at_call 137; refine Calls.mono (gw_at (rsub_b _ _ _)) ?_; rintro e w1 ⟨rfl, q, rfl⟩))
  exact bodyPost_ret (v := .agg #[.int .i64 (sub ax bx), .int .i64 (sub ay b_y)]) (by simp [results, Tryz.results79, go_sem]; try (first | with_reducible rfl | exact ⟨rfl, rfl⟩ | exact ⟨rfl, rfl, rfl⟩ | exact ⟨rfl, rfl, rfl, rfl⟩ | exact ⟨rfl, rfl, rfl, rfl, rfl⟩ | exact ⟨rfl, rfl, rfl, rfl, rfl, rfl⟩ | rfl)) rfl ⟨rfl, bBel⟩

theorem rvscale_b (x y k : Int) (w : World) : Calls Tryz.prog 88 #[.agg #[.int .i64 x, .int .i64 y], .int .i64 k] w fun e w' => e = .returned (.agg #[.int .i64 (mul x k), .int .i64 (mul y k)]) ∧ Below w.heap.size w w' := by
  go_enter Tryz.func88, Tryz.ntmps88
  go_wp2_with (first | (go_at_call 86; refine Calls.mono (gw_at (rmul_b _ _ _)) ?_; rintro e w1 ⟨rfl, q, rfl⟩))
  repeat
    refine wp_region_gw_tail 9 (by kernel_rfl) (by kernel_rfl) ?_
    simp only [List.take_succ_cons, List.take_zero, List.drop_succ_cons, List.drop_zero]
    repeat (go_big_quiet_step ((first | (go_at_call 86; exact gw_call (rmul_b _ _ _)))))
    refine wpQuiet_nil ?_
    intro w1 hw1
    obtain ⟨q, rfl⟩ := hw1
    go_wp2_with (first | (go_at_call 86; refine Calls.mono (gw_at (rmul_b _ _ _)) ?_; rintro e w1 ⟨rfl, q, rfl⟩))
  exact bodyPost_ret (v := .agg #[.int .i64 (mul x k), .int .i64 (mul y k)]) (by simp [results, Tryz.results88, go_sem]; try (first | with_reducible rfl | exact ⟨rfl, rfl⟩ | exact ⟨rfl, rfl, rfl⟩ | exact ⟨rfl, rfl, rfl, rfl⟩ | exact ⟨rfl, rfl, rfl, rfl, rfl⟩ | exact ⟨rfl, rfl, rfl, rfl, rfl, rfl⟩ | rfl)) rfl ⟨rfl, bBel⟩

theorem rvcs_b (k x y : Int) (w : World) : Calls Tryz.prog 78 #[.int .i64 k, .agg #[.int .i64 x, .int .i64 y]] w fun e w' => e = .returned (.agg #[.int .i64 (-mul k y), .int .i64 (mul k x)]) ∧ Below w.heap.size w w' := by
  have h1 : -536870911 ≤ mul k y := sat_ge _
  have h2 : mul k y ≤ 536870911 := sat_le _
  go_enter Tryz.func78, Tryz.ntmps78
  go_wp2_with (first | (go_at_call 86; refine Calls.mono (gw_at (rmul_b _ _ _)) ?_; rintro e w1 ⟨rfl, q, rfl⟩))
  repeat
    refine wp_region_gw_tail 10 (by kernel_rfl) (by kernel_rfl) ?_
    simp only [List.take_succ_cons, List.take_zero, List.drop_succ_cons, List.drop_zero]
    repeat (go_big_quiet_step ((first | (go_at_call 86; exact gw_call (rmul_b _ _ _)))))
    refine wpQuiet_nil ?_
    intro w1 hw1
    obtain ⟨q, rfl⟩ := hw1
    go_wp2_with (first | (go_at_call 86; refine Calls.mono (gw_at (rmul_b _ _ _)) ?_; rintro e w1 ⟨rfl, q, rfl⟩))
  exact bodyPost_ret (v := .agg #[.int .i64 (-mul k y), .int .i64 (mul k x)]) (by simp [results, Tryz.results78, go_sem]; try (first | with_reducible rfl | exact ⟨rfl, rfl⟩ | exact ⟨rfl, rfl, rfl⟩ | exact ⟨rfl, rfl, rfl, rfl⟩ | exact ⟨rfl, rfl, rfl, rfl, rfl⟩ | exact ⟨rfl, rfl, rfl, rfl, rfl, rfl⟩ | rfl)) rfl ⟨rfl, bBel⟩

theorem rvlerp_b (ax ay bx b_y t : Int) (w : World) : Calls Tryz.prog 196 #[.agg #[.int .i64 ax, .int .i64 ay], .agg #[.int .i64 bx, .int .i64 b_y], .int .i64 t] w fun e w' => e = .returned (.agg #[.int .i64 (lerp ax bx t), .int .i64 (lerp ay b_y t)]) ∧ Below w.heap.size w w' := by
  go_enter Tryz.func196, Tryz.ntmps196
  go_wp2_with (first | (go_at_call 242; refine Calls.mono (gw_at (rlerp_b _ _ _ _)) ?_; rintro e w1 ⟨rfl, q, rfl⟩))
  repeat
    refine wp_region_gw_tail 13 (by kernel_rfl) (by kernel_rfl) ?_
    simp only [List.take_succ_cons, List.take_zero, List.drop_succ_cons, List.drop_zero]
    repeat (go_big_quiet_step ((first | (go_at_call 242; exact gw_call (rlerp_b _ _ _ _)))))
    refine wpQuiet_nil ?_
    intro w1 hw1
    obtain ⟨q, rfl⟩ := hw1
    go_wp2_with (first | (go_at_call 242; refine Calls.mono (gw_at (rlerp_b _ _ _ _)) ?_; rintro e w1 ⟨rfl, q, rfl⟩))
  exact bodyPost_ret (v := .agg #[.int .i64 (lerp ax bx t), .int .i64 (lerp ay b_y t)]) (by simp [results, Tryz.results196, go_sem]; try (first | with_reducible rfl | exact ⟨rfl, rfl⟩ | exact ⟨rfl, rfl, rfl⟩ | exact ⟨rfl, rfl, rfl, rfl⟩ | exact ⟨rfl, rfl, rfl, rfl, rfl⟩ | exact ⟨rfl, rfl, rfl, rfl, rfl, rfl⟩ | rfl)) rfl ⟨rfl, bBel⟩

theorem rdot_b (ax ay bx b_y : Int) (w : World) : Calls Tryz.prog 199 #[.agg #[.int .i64 ax, .int .i64 ay], .agg #[.int .i64 bx, .int .i64 b_y]] w fun e w' => e = .returned (.int .i64 (dot ax ay bx b_y)) ∧ Below w.heap.size w w' := by
  have h1 := satmul ax bx; have h2 := satmul ay b_y
  go_enter Tryz.func199, Tryz.ntmps199
  go_wp2_with (first | (go_at_call 160; refine Calls.mono (gw_at (rvsat_b _ _ _)) ?_; rintro e w1 ⟨rfl, q, rfl⟩) | (go_at_call 159; refine Calls.mono (gw_at (rrd_b _ _ _)) ?_; rintro e w1 ⟨rfl, q, rfl⟩) | (go_at_call 158; refine Calls.mono (gw_at (rsat_b _ _)) ?_; rintro e w1 ⟨rfl, q, rfl⟩))
  go_ret
  exact ⟨rfl, bBel⟩

theorem rcross_b (ax ay bx b_y : Int) (w : World) : Calls Tryz.prog 87 #[.agg #[.int .i64 ax, .int .i64 ay], .agg #[.int .i64 bx, .int .i64 b_y]] w fun e w' => e = .returned (.int .i64 (cross ax ay bx b_y)) ∧ Below w.heap.size w w' := by
  have h1 := satmul ax b_y; have h2 := satmul ay bx
  go_enter Tryz.func87, Tryz.ntmps87
  go_wp2_with (first | (go_at_call 160; refine Calls.mono (gw_at (rvsat_b _ _ _)) ?_; rintro e w1 ⟨rfl, q, rfl⟩) | (go_at_call 159; refine Calls.mono (gw_at (rrd_b _ _ _)) ?_; rintro e w1 ⟨rfl, q, rfl⟩) | (go_at_call 158; refine Calls.mono (gw_at (rsat_b _ _)) ?_; rintro e w1 ⟨rfl, q, rfl⟩))
  go_ret
  exact ⟨rfl, bBel⟩

theorem rvlen_b (x y : Int) (w : World) : Calls Tryz.prog 130 #[.agg #[.int .i64 x, .int .i64 y]] w fun e w' => e = .returned (.int .i64 (vlen x y)) ∧ Below w.heap.size w w' := by
  have h1 := satmul x x; have h2 := satmul y y
  go_enter Tryz.func130, Tryz.ntmps130
  go_wp2_with (first | (go_at_call 160; refine Calls.mono (gw_at (rvsat_b _ _ _)) ?_; rintro e w1 ⟨rfl, q, rfl⟩) | (go_at_call 185; refine Calls.mono (gw_at (risq_b _ _)) ?_; rintro e w1 ⟨rfl, q, rfl⟩))
  go_ret
  exact ⟨rfl, bBel⟩

theorem rvrot_b (c s x y : Int) (w : World) : Calls Tryz.prog 146 #[.agg #[.int .i64 c, .int .i64 s], .agg #[.int .i64 x, .int .i64 y]] w fun e w' => e = .returned (.agg #[.int .i64 (rotx c s x y), .int .i64 (roty c s x y)]) ∧ Below w.heap.size w w' := by
  have h1 := satmul c x; have h2 := satmul s y; have h3 := satmul s x; have h4 := satmul c y
  go_enter Tryz.func146, Tryz.ntmps146
  go_wp2_with (first | (go_at_call 158; refine Calls.mono (gw_at (rsat_b _ _)) ?_; rintro e w1 ⟨rfl, q, rfl⟩) | (go_at_call 160; refine Calls.mono (gw_at (rvsat_b _ _ _)) ?_; rintro e w1 ⟨rfl, q, rfl⟩) | (go_at_call 159; refine Calls.mono (gw_at (rrd_b _ _ _)) ?_; rintro e w1 ⟨rfl, q, rfl⟩))
  repeat
    refine wp_region_gw_tail 22 (by kernel_rfl) (by kernel_rfl) ?_
    simp only [List.take_succ_cons, List.take_zero, List.drop_succ_cons, List.drop_zero]
    repeat (go_big_quiet_step ((first | (go_at_call 158; exact gw_call (rsat_b _ _)) | (go_at_call 160; exact gw_call (rvsat_b _ _ _)) | (go_at_call 159; exact gw_call (rrd_b _ _ _)))))
    refine wpQuiet_nil ?_
    intro w1 hw1
    obtain ⟨q, rfl⟩ := hw1
    go_wp2_with (first | (go_at_call 158; refine Calls.mono (gw_at (rsat_b _ _)) ?_; rintro e w1 ⟨rfl, q, rfl⟩) | (go_at_call 160; refine Calls.mono (gw_at (rvsat_b _ _ _)) ?_; rintro e w1 ⟨rfl, q, rfl⟩) | (go_at_call 159; refine Calls.mono (gw_at (rrd_b _ _ _)) ?_; rintro e w1 ⟨rfl, q, rfl⟩))
  exact bodyPost_ret (v := .agg #[.int .i64 (rotx c s x y), .int .i64 (roty c s x y)]) (by simp [results, Tryz.results146, go_sem]; try (first | with_reducible rfl | exact ⟨rfl, rfl⟩ | exact ⟨rfl, rfl, rfl⟩ | exact ⟨rfl, rfl, rfl, rfl⟩ | exact ⟨rfl, rfl, rfl, rfl, rfl⟩ | exact ⟨rfl, rfl, rfl, rfl, rfl, rfl⟩ | rfl)) rfl ⟨rfl, bBel⟩

theorem rorient_b (ax ay bx b_y cx cy : Int) (w : World) : Calls Tryz.prog 153 #[.agg #[.int .i64 ax, .int .i64 ay], .agg #[.int .i64 bx, .int .i64 b_y], .agg #[.int .i64 cx, .int .i64 cy]] w fun e w' => e = .returned (.int .i64 (orient ax ay bx b_y cx cy)) ∧ Below w.heap.size w w' := by
  have a1 := sat_le ax; have a2 := sat_ge ax; have a3 := sat_le ay; have a4 := sat_ge ay
  have b1 := sat_le bx; have b2 := sat_ge bx; have b3 := sat_le b_y; have b4 := sat_ge b_y
  have c1 := sat_le cx; have c2 := sat_ge cx; have c3 := sat_le cy; have c4 := sat_ge cy
  have d1 := diffmul (a := bx) (b := ax) (c := cy) (d := ay); have d2 := diffmul (a := b_y) (b := ay) (c := cx) (d := ax)
  unfold orient
  by_cases hp : 0 < det ax ay bx b_y cx cy
  · rw [sgn_pos hp]
    unfold det at hp
    go_enter Tryz.func153, Tryz.ntmps153
    go_wp2_with (first | (go_at_call 160; refine Calls.mono (gw_at (rvsat_b _ _ _)) ?_; rintro e w1 ⟨rfl, q, rfl⟩))
    go_ret
    exact ⟨rfl, bBel⟩
  · by_cases hn : det ax ay bx b_y cx cy < 0
    · rw [sgn_neg hn]
      unfold det at hp hn
      go_enter Tryz.func153, Tryz.ntmps153
      go_wp2_with (first | (go_at_call 160; refine Calls.mono (gw_at (rvsat_b _ _ _)) ?_; rintro e w1 ⟨rfl, q, rfl⟩))
      go_ret
      exact ⟨rfl, bBel⟩
    · rw [sgn_zero hp hn]
      unfold det at hp hn
      go_enter Tryz.func153, Tryz.ntmps153
      go_wp2_with (first | (go_at_call 160; refine Calls.mono (gw_at (rvsat_b _ _ _)) ?_; rintro e w1 ⟨rfl, q, rfl⟩))
      go_ret
      exact ⟨rfl, bBel⟩

theorem rdist2_b (ax ay bx b_y : Int) (w : World) : Calls Tryz.prog 209 #[.agg #[.int .i64 ax, .int .i64 ay], .agg #[.int .i64 bx, .int .i64 b_y]] w fun e w' => e = .returned (.int .i64 (dist2 ax ay bx b_y)) ∧ Below w.heap.size w w' := by
  have a1 := sat_le ax; have a2 := sat_ge ax; have a3 := sat_le ay; have a4 := sat_ge ay
  have b1 := sat_le bx; have b2 := sat_ge bx; have b3 := sat_le b_y; have b4 := sat_ge b_y
  have d1 := diffmul (a := bx) (b := ax) (c := bx) (d := ax); have d2 := diffmul (a := b_y) (b := ay) (c := b_y) (d := ay)
  go_enter Tryz.func209, Tryz.ntmps209
  go_wp2_with (first | (go_at_call 160; refine Calls.mono (gw_at (rvsat_b _ _ _)) ?_; rintro e w1 ⟨rfl, q, rfl⟩))
  go_ret
  exact ⟨rfl, bBel⟩

end Go.Proofs.YtdmcdicphohlfaaGreat
