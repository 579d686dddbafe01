/- The contracts of chapter 1, of the program and of the reference, in the form that the later chapters use: nothing below the heap's old size has turned. No conditions.
Contracts of package vec2 and of its reference: each returns what the Lean functions of the same meaning give, component by component, and nothing that existed has changed. No conditions. -/
import Derived.Test.YtaahgblkmajceaaGreatCo1
import Derived.Test.YtaahgblkmajceaaGreatKi1
import Derived.Test.YtaahgblkmajceaaGreatMa1

set_option linter.unusedVariables false
namespace Go.Proofs.YtaahgblkmajceaaGreat
open Go.RowKit Fx

theorem bl_same {w w' : World} (h : w = w') : Below w.heap.size w w' := h ▸ Below.refl _ _
theorem bl_dr {w w' : World} (h : Dr w w') : Below w.heap.size w w' := by
  obtain ⟨m, rfl⟩ := h; rw [drewN_gw]; exact below_gw _ _
theorem bl_of_same {f : FuncId} {args : Array Value} {w : World} {v : Value} {P : Program} (h : Calls P f args w fun e w' => e = .returned v ∧ w = w') : Calls P f args w fun e w' => e = .returned v ∧ Below w.heap.size w w' :=
  h.mono fun _ _ ⟨he, hw⟩ => ⟨he, bl_same hw⟩
theorem bl_of_dr {f : FuncId} {args : Array Value} {w : World} {v : Value} {P : Program} (h : Calls P f args w fun e w' => e = .returned v ∧ Dr w w') : Calls P f args w fun e w' => e = .returned v ∧ Below w.heap.size w w' :=
  h.mono fun _ _ ⟨he, hw⟩ => ⟨he, bl_dr hw⟩

theorem sat_b (a : Int) (w : World) : Calls Tryz.prog 125 #[.int .i64 a] w fun e w' => e = .returned (.int .i64 (sat a)) ∧ Below w.heap.size w w' := bl_of_same (sat_p a w)

theorem add_b (a b : Int) (w : World) : Calls Tryz.prog 88 #[.int .i64 a, .int .i64 b] w fun e w' => e = .returned (.int .i64 (add a b)) ∧ Below w.heap.size w w' := bl_of_same (add_p a b w)

theorem sub_b (a b : Int) (w : World) : Calls Tryz.prog 87 #[.int .i64 a, .int .i64 b] w fun e w' => e = .returned (.int .i64 (sub a b)) ∧ Below w.heap.size w w' := bl_of_same (sub_p a b w)

theorem rd_b (n d : Int) (w : World) : Calls Tryz.prog 170 #[.int .i64 n, .int .i64 d] w fun e w' => e = .returned (.int .i64 (rdiv n d)) ∧ Below w.heap.size w w' := bl_of_dr (rd_p n d w)

theorem mul_b (a b : Int) (w : World) : Calls Tryz.prog 178 #[.int .i64 a, .int .i64 b] w fun e w' => e = .returned (.int .i64 (mul a b)) ∧ Below w.heap.size w w' := bl_of_dr (mul_p a b w)

theorem div_b (a b : Int) (w : World) : Calls Tryz.prog 159 #[.int .i64 a, .int .i64 b] w fun e w' => e = .returned (.int .i64 (quo a b)) ∧ Below w.heap.size w w' := bl_of_dr (div_p a b w)

theorem isq_b (n : Int) (w : World) : Calls Tryz.prog 158 #[.int .i64 n] w fun e w' => e = .returned (.int .i64 (isq n)) ∧ Below w.heap.size w w' := bl_of_dr (isq_p n w)

theorem rsat_b (a : Int) (w : World) : Calls Tryz.prog 84 #[.int .i64 a] w fun e w' => e = .returned (.int .i64 (sat a)) ∧ Below w.heap.size w w' := bl_of_same (rsat_p a w)

theorem radd_b (a b : Int) (w : World) : Calls Tryz.prog 64 #[.int .i64 a, .int .i64 b] w fun e w' => e = .returned (.int .i64 (add a b)) ∧ Below w.heap.size w w' := bl_of_same (radd_p a b w)

theorem rsub_b (a b : Int) (w : World) : Calls Tryz.prog 63 #[.int .i64 a, .int .i64 b] w fun e w' => e = .returned (.int .i64 (sub a b)) ∧ Below w.heap.size w w' := bl_of_same (rsub_p a b w)

theorem rrd_b (n d : Int) (w : World) : Calls Tryz.prog 144 #[.int .i64 n, .int .i64 d] w fun e w' => e = .returned (.int .i64 (rdiv n d)) ∧ Below w.heap.size w w' := bl_of_dr (rrd_p n d w)

theorem rmul_b (a b : Int) (w : World) : Calls Tryz.prog 174 #[.int .i64 a, .int .i64 b] w fun e w' => e = .returned (.int .i64 (mul a b)) ∧ Below w.heap.size w w' := bl_of_dr (rmul_p a b w)

theorem rdiv_b (a b : Int) (w : World) : Calls Tryz.prog 147 #[.int .i64 a, .int .i64 b] w fun e w' => e = .returned (.int .i64 (quo a b)) ∧ Below w.heap.size w w' := bl_of_dr (rdiv_p a b w)

theorem risq_b (n : Int) (w : World) : Calls Tryz.prog 140 #[.int .i64 n] w fun e w' => e = .returned (.int .i64 (isq n)) ∧ Below w.heap.size w w' := bl_of_dr (risq_p n w)

end Go.Proofs.YtaahgblkmajceaaGreat

set_option linter.unusedVariables false
namespace Go.Proofs.YtaahgblkmajceaaGreat
open Go.RowKit Fx

theorem vsat_b (x y : Int) (w : World) : Calls Tryz.prog 154 #[.agg #[.int .i64 x, .int .i64 y]] w fun e w' => e = .returned (.agg #[.int .i64 (sat x), .int .i64 (sat y)]) ∧ Below w.heap.size w w' := by
  go_enter Tryz.func154, Tryz.ntmps154
  go_wp2_with (first | (go_at_call 125; refine Calls.mono (gw_at (sat_b _ _)) ?_; rintro e w1 ⟨rfl, q, rfl⟩))
  repeat
    refine wp_region_gw_tail 7 (by kernel_rfl) (by kernel_rfl) ?_
    simp only [List.take_succ_cons, List.take_zero, List.drop_succ_cons, List.drop_zero]
    repeat (go_big_quiet_step ((first | (go_at_call 125; exact gw_call (sat_b _ _)))))
    refine wpQuiet_nil ?_
    intro w1 hw1
    obtain ⟨q, rfl⟩ := hw1
    go_wp2_with (first | (go_at_call 125; refine Calls.mono (gw_at (sat_b _ _)) ?_; rintro e w1 ⟨rfl, q, rfl⟩))
  exact bodyPost_ret (v := .agg #[.int .i64 (sat x), .int .i64 (sat y)]) (by simp [results, Tryz.results154, go_sem]; try (first | with_reducible rfl | exact ⟨rfl, rfl⟩ | exact ⟨rfl, rfl, rfl⟩ | exact ⟨rfl, rfl, rfl, rfl⟩ | exact ⟨rfl, rfl, rfl, rfl, rfl⟩ | exact ⟨rfl, rfl, rfl, rfl, rfl, rfl⟩ | rfl)) rfl ⟨rfl, bBel⟩

theorem vrsat_b (c s : Int) (w : World) : Calls Tryz.prog 153 #[.agg #[.int .i64 c, .int .i64 s]] w fun e w' => e = .returned (.agg #[.int .i64 (sat c), .int .i64 (sat s)]) ∧ Below w.heap.size w w' := by
  go_enter Tryz.func153, Tryz.ntmps153
  go_wp2_with (first | (go_at_call 125; refine Calls.mono (gw_at (sat_b _ _)) ?_; rintro e w1 ⟨rfl, q, rfl⟩))
  repeat
    refine wp_region_gw_tail 7 (by kernel_rfl) (by kernel_rfl) ?_
    simp only [List.take_succ_cons, List.take_zero, List.drop_succ_cons, List.drop_zero]
    repeat (go_big_quiet_step ((first | (go_at_call 125; exact gw_call (sat_b _ _)))))
    refine wpQuiet_nil ?_
    intro w1 hw1
    obtain ⟨q, rfl⟩ := hw1
    go_wp2_with (first | (go_at_call 125; refine Calls.mono (gw_at (sat_b _ _)) ?_; rintro e w1 ⟨rfl, q, rfl⟩))
  exact bodyPost_ret (v := .agg #[.int .i64 (sat c), .int .i64 (sat s)]) (by simp [results, Tryz.results153, go_sem]; try (first | with_reducible rfl | exact ⟨rfl, rfl⟩ | exact ⟨rfl, rfl, rfl⟩ | exact ⟨rfl, rfl, rfl, rfl⟩ | exact ⟨rfl, rfl, rfl, rfl, rfl⟩ | exact ⟨rfl, rfl, rfl, rfl, rfl, rfl⟩ | rfl)) rfl ⟨rfl, bBel⟩

theorem vdiff_b (ax ay bx b_y : Int) (w : World) : Calls Tryz.prog 179 #[.agg #[.int .i64 ax, .int .i64 ay], .agg #[.int .i64 bx, .int .i64 b_y]] w fun e w' => e = .returned (.agg #[.int .i64 (sat ax - sat bx), .int .i64 (sat ay - sat b_y)]) ∧ Below w.heap.size w w' := by
  have a1 := sat_le ax; have a2 := sat_ge ax; have a3 := sat_le ay; have a4 := sat_ge ay
  have b1 := sat_le bx; have b2 := sat_ge bx; have b3 := sat_le b_y; have b4 := sat_ge b_y
  go_enter Tryz.func179, Tryz.ntmps179
  go_wp2_with (first | (go_at_call 154; refine Calls.mono (gw_at (vsat_b _ _ _)) ?_; rintro e w1 ⟨rfl, q, rfl⟩))
  repeat
    refine wp_region_gw_tail 4 (by kernel_rfl) (by kernel_rfl) ?_
    simp only [List.take_succ_cons, List.take_zero, List.drop_succ_cons, List.drop_zero]
    repeat (go_big_quiet_step ((first | (go_at_call 154; exact gw_call (vsat_b _ _ _)))))
    refine wpQuiet_nil ?_
    intro w1 hw1
    obtain ⟨q, rfl⟩ := hw1
    go_wp2_with (first | (go_at_call 154; refine Calls.mono (gw_at (vsat_b _ _ _)) ?_; rintro e w1 ⟨rfl, q, rfl⟩))
  exact bodyPost_ret (v := .agg #[.int .i64 (sat ax - sat bx), .int .i64 (sat ay - sat b_y)]) (by simp [results, Tryz.results179, go_sem]; try (first | with_reducible rfl | exact ⟨rfl, rfl⟩ | exact ⟨rfl, rfl, rfl⟩ | exact ⟨rfl, rfl, rfl, rfl⟩ | exact ⟨rfl, rfl, rfl, rfl, rfl⟩ | exact ⟨rfl, rfl, rfl, rfl, rfl, rfl⟩ | rfl)) rfl ⟨rfl, bBel⟩

theorem cnan_b (x : Int) (w : World) : Calls Tryz.prog 57 #[.int .i64 x] w fun e w' => e = .returned (.bool false) ∧ Below w.heap.size w w' := by
  go_enter Tryz.func57, Tryz.ntmps57
  go_wp2_with fail
  go_ret
  exact ⟨rfl, bBel⟩

theorem cmp_b (x y : Int) (w : World) : Calls Tryz.prog 42 #[.int .i64 x, .int .i64 y] w fun e w' => e = .returned (.int .i64 (sgn (x - y))) ∧ Below w.heap.size w w' := by
  by_cases hp : y < x
  · rw [sgn_pos (by omega)]
    go_enter Tryz.func42, Tryz.ntmps42
    go_wp2_with (first | (go_at_call 57; refine Calls.mono (gw_at (cnan_b _ _)) ?_; rintro e w1 ⟨rfl, q, rfl⟩))
    go_ret
    exact ⟨rfl, bBel⟩
  · by_cases hn : x < y
    · rw [sgn_neg (by omega)]
      go_enter Tryz.func42, Tryz.ntmps42
      go_wp2_with (first | (go_at_call 57; refine Calls.mono (gw_at (cnan_b _ _)) ?_; rintro e w1 ⟨rfl, q, rfl⟩))
      go_ret
      exact ⟨rfl, bBel⟩
    · rw [sgn_zero (by omega) (by omega)]
      go_enter Tryz.func42, Tryz.ntmps42
      go_wp2_with (first | (go_at_call 57; refine Calls.mono (gw_at (cnan_b _ _)) ?_; rintro e w1 ⟨rfl, q, rfl⟩))
      go_ret
      exact ⟨rfl, bBel⟩

theorem round_b (n : Int) (w : World) : Calls Tryz.prog 155 #[.int .i64 n] w fun e w' => e = .returned (.int .i64 (sat (rdiv n 65536))) ∧ Below w.heap.size w w' := by
  go_enter Tryz.func155, Tryz.ntmps155
  go_wp2_with (first | (go_at_call 170; refine Calls.mono (gw_at (rd_b _ _ _)) ?_; rintro e w1 ⟨rfl, q, rfl⟩) | (go_at_call 125; refine Calls.mono (gw_at (sat_b _ _)) ?_; rintro e w1 ⟨rfl, q, rfl⟩))
  go_ret
  exact ⟨rfl, bBel⟩

theorem vadd_b (ax ay bx b_y : Int) (w : World) : Calls Tryz.prog 67 #[.agg #[.int .i64 ax, .int .i64 ay], .agg #[.int .i64 bx, .int .i64 b_y]] w fun e w' => e = .returned (.agg #[.int .i64 (add ax bx), .int .i64 (add ay b_y)]) ∧ Below w.heap.size w w' := by
  go_enter Tryz.func67, Tryz.ntmps67
  go_wp2_with (first | (go_at_call 88; refine Calls.mono (gw_at (add_b _ _ _)) ?_; rintro e w1 ⟨rfl, q, rfl⟩))
  repeat
    refine wp_region_gw_tail 11 (by kernel_rfl) (by kernel_rfl) ?_
    simp only [List.take_succ_cons, List.take_zero, List.drop_succ_cons, List.drop_zero]
    repeat (go_big_quiet_step ((first | (go_at_call 88; exact gw_call (add_b _ _ _)))))
    refine wpQuiet_nil ?_
    intro w1 hw1
    obtain ⟨q, rfl⟩ := hw1
    go_wp2_with (first | (go_at_call 88; refine Calls.mono (gw_at (add_b _ _ _)) ?_; rintro e w1 ⟨rfl, q, rfl⟩))
  exact bodyPost_ret (v := .agg #[.int .i64 (add ax bx), .int .i64 (add ay b_y)]) (by simp [results, Tryz.results67, go_sem]; try (first | with_reducible rfl | exact ⟨rfl, rfl⟩ | exact ⟨rfl, rfl, rfl⟩ | exact ⟨rfl, rfl, rfl, rfl⟩ | exact ⟨rfl, rfl, rfl, rfl, rfl⟩ | exact ⟨rfl, rfl, rfl, rfl, rfl, rfl⟩ | rfl)) rfl ⟨rfl, bBel⟩

theorem vsub_b (ax ay bx b_y : Int) (w : World) : Calls Tryz.prog 66 #[.agg #[.int .i64 ax, .int .i64 ay], .agg #[.int .i64 bx, .int .i64 b_y]] w fun e w' => e = .returned (.agg #[.int .i64 (sub ax bx), .int .i64 (sub ay b_y)]) ∧ Below w.heap.size w w' := by
  go_enter Tryz.func66, Tryz.ntmps66
  go_wp2_with (first | (go_at_call 87; refine Calls.mono (gw_at (sub_b _ _ _)) ?_; rintro e w1 ⟨rfl, q, rfl⟩))
  repeat
    refine wp_region_gw_tail 11 (by kernel_rfl) (by kernel_rfl) ?_
    simp only [List.take_succ_cons, List.take_zero, List.drop_succ_cons, List.drop_zero]
    repeat (go_big_quiet_step ((first | (go_at_call 87; exact gw_call (sub_b _ _ _)))))
    refine wpQuiet_nil ?_
    intro w1 hw1
    obtain ⟨q, rfl⟩ := hw1
    go_wp2_with (first | (go_at_call 87; refine Calls.mono (gw_at (sub_b _ _ _)) ?_; rintro e w1 ⟨rfl, q, rfl⟩))
  exact bodyPost_ret (v := .agg #[.int .i64 (sub ax bx), .int .i64 (sub ay b_y)]) (by simp [results, Tryz.results66, go_sem]; try (first | with_reducible rfl | exact ⟨rfl, rfl⟩ | exact ⟨rfl, rfl, rfl⟩ | exact ⟨rfl, rfl, rfl, rfl⟩ | exact ⟨rfl, rfl, rfl, rfl, rfl⟩ | exact ⟨rfl, rfl, rfl, rfl, rfl, rfl⟩ | rfl)) rfl ⟨rfl, bBel⟩

theorem cross_b (ax ay bx b_y : Int) (w : World) : Calls Tryz.prog 177 #[.agg #[.int .i64 ax, .int .i64 ay], .agg #[.int .i64 bx, .int .i64 b_y]] w fun e w' => e = .returned (.int .i64 (cross ax ay bx b_y)) ∧ Below w.heap.size w w' := by
  have h1 := satmul ax b_y; have h2 := satmul ay bx
  go_enter Tryz.func177, Tryz.ntmps177
  go_wp2_with (first | (go_at_call 154; refine Calls.mono (gw_at (vsat_b _ _ _)) ?_; rintro e w1 ⟨rfl, q, rfl⟩) | (go_at_call 155; refine Calls.mono (gw_at (round_b _ _)) ?_; rintro e w1 ⟨rfl, q, rfl⟩))
  repeat
    refine wp_region_gw_tail 4 (by kernel_rfl) (by kernel_rfl) ?_
    simp only [List.take_succ_cons, List.take_zero, List.drop_succ_cons, List.drop_zero]
    repeat (go_big_quiet_step ((first | (go_at_call 154; exact gw_call (vsat_b _ _ _)) | (go_at_call 155; exact gw_call (round_b _ _)))))
    refine wpQuiet_nil ?_
    intro w1 hw1
    obtain ⟨q, rfl⟩ := hw1
    go_wp2_with (first | (go_at_call 154; refine Calls.mono (gw_at (vsat_b _ _ _)) ?_; rintro e w1 ⟨rfl, q, rfl⟩) | (go_at_call 155; refine Calls.mono (gw_at (round_b _ _)) ?_; rintro e w1 ⟨rfl, q, rfl⟩))
  go_ret
  exact ⟨rfl, bBel⟩

theorem vlen_b (x y : Int) (w : World) : Calls Tryz.prog 149 #[.agg #[.int .i64 x, .int .i64 y]] w fun e w' => e = .returned (.int .i64 (vlen x y)) ∧ Below w.heap.size w w' := by
  have h1 := satmul x x; have h2 := satmul y y
  go_enter Tryz.func149, Tryz.ntmps149
  go_wp2_with (first | (go_at_call 154; refine Calls.mono (gw_at (vsat_b _ _ _)) ?_; rintro e w1 ⟨rfl, q, rfl⟩) | (go_at_call 158; refine Calls.mono (gw_at (isq_b _ _)) ?_; rintro e w1 ⟨rfl, q, rfl⟩))
  go_ret
  exact ⟨rfl, bBel⟩

theorem vrot_b (c s x y : Int) (w : World) : Calls Tryz.prog 130 #[.agg #[.int .i64 c, .int .i64 s], .agg #[.int .i64 x, .int .i64 y]] w fun e w' => e = .returned (.agg #[.int .i64 (rotx c s x y), .int .i64 (roty c s x y)]) ∧ Below w.heap.size w w' := by
  have h1 := satmul c x; have h2 := satmul s y; have h3 := satmul s x; have h4 := satmul c y
  go_enter Tryz.func130, Tryz.ntmps130
  go_wp2_with (first | (go_at_call 153; refine Calls.mono (gw_at (vrsat_b _ _ _)) ?_; rintro e w1 ⟨rfl, q, rfl⟩) | (go_at_call 154; refine Calls.mono (gw_at (vsat_b _ _ _)) ?_; rintro e w1 ⟨rfl, q, rfl⟩) | (go_at_call 155; refine Calls.mono (gw_at (round_b _ _)) ?_; rintro e w1 ⟨rfl, q, rfl⟩))
  repeat
    first
      | (refine wp_region_gw_tail 4 (by kernel_rfl) (by decide +kernel) ?_
         simp only [List.take_succ_cons, List.take_zero, List.drop_succ_cons, List.drop_zero]
         repeat (go_big_quiet_step ((first | (go_at_call 153; exact gw_call (vrsat_b _ _ _)) | (go_at_call 154; exact gw_call (vsat_b _ _ _)) | (go_at_call 155; exact gw_call (round_b _ _)))))
         refine wpQuiet_nil ?_
         intro w1 hw1
         obtain ⟨q, rfl⟩ := hw1)
      | (refine wp_region_gw_tail 25 (by kernel_rfl) (by decide +kernel) ?_
         simp only [List.take_succ_cons, List.take_zero, List.drop_succ_cons, List.drop_zero]
         repeat (go_big_quiet_step ((first | (go_at_call 153; exact gw_call (vrsat_b _ _ _)) | (go_at_call 154; exact gw_call (vsat_b _ _ _)) | (go_at_call 155; exact gw_call (round_b _ _)))))
         refine wpQuiet_nil ?_
         intro w1 hw1
         obtain ⟨q, rfl⟩ := hw1)
    go_wp2_with (first | (go_at_call 153; refine Calls.mono (gw_at (vrsat_b _ _ _)) ?_; rintro e w1 ⟨rfl, q, rfl⟩) | (go_at_call 154; refine Calls.mono (gw_at (vsat_b _ _ _)) ?_; rintro e w1 ⟨rfl, q, rfl⟩) | (go_at_call 155; refine Calls.mono (gw_at (round_b _ _)) ?_; rintro e w1 ⟨rfl, q, rfl⟩))
  exact bodyPost_ret (v := .agg #[.int .i64 (rotx c s x y), .int .i64 (roty c s x y)]) (by simp [results, Tryz.results130, go_sem]; try (first | with_reducible rfl | exact ⟨rfl, rfl⟩ | exact ⟨rfl, rfl, rfl⟩ | exact ⟨rfl, rfl, rfl, rfl⟩ | exact ⟨rfl, rfl, rfl, rfl, rfl⟩ | exact ⟨rfl, rfl, rfl, rfl, rfl, rfl⟩ | rfl)) rfl ⟨rfl, bBel⟩

theorem orient_b (ax ay bx b_y cx cy : Int) (w : World) : Calls Tryz.prog 176 #[.agg #[.int .i64 ax, .int .i64 ay], .agg #[.int .i64 bx, .int .i64 b_y], .agg #[.int .i64 cx, .int .i64 cy]] w fun e w' => e = .returned (.int .i64 (orient ax ay bx b_y cx cy)) ∧ Below w.heap.size w w' := by
  have d1 := diffmul (a := bx) (b := ax) (c := cy) (d := ay); have d2 := diffmul (a := b_y) (b := ay) (c := cx) (d := ax)
  go_enter Tryz.func176, Tryz.ntmps176
  go_wp2_with (first | (go_at_call 179; refine Calls.mono (gw_at (vdiff_b _ _ _ _ _)) ?_; rintro e w1 ⟨rfl, q, rfl⟩) | (go_at_call 42; refine Calls.mono (gw_at (cmp_b _ _ _)) ?_; rintro e w1 ⟨rfl, q, rfl⟩))
  repeat
    apply wp_box2 8 26 6 7 7 8 #[.int .i64 0, .int .i64 0] #[.int .i64 0, .int .i64 0] 32 32 (by kernel_rfl) (by rfl) (by kernel_rfl) (by rfl) (by intro o ho a w; simp at ho; subst ho; simp [go_sem, ptr]) (by intro o ho a w; simp at ho; subst ho; simp [go_sem, ptr])
    · intro p0
      simp only [heads, ghost, List.take_succ_cons, List.take_zero, List.map_cons, List.map_nil]
      repeat (go_big_quiet_step ((first | (go_at_call 179; exact gw_call (vdiff_b _ _ _ _ _)) | (go_at_call 42; exact gw_call (cmp_b _ _ _)))))
      exact wpQuiet_nil rfl
    · intro R bB1 bB2 p0 nB1 nB2 gB1 gB2 neB01 neB01' kB1 kB2 hK
      simp only [List.drop_succ_cons, List.drop_zero, Act.put, ptr, List.setIfInBounds_toArray, List.set_cons_succ, List.set_cons_zero]
      have cB1_0 : _ = some _ := blk_cell kB1 0
      have cB1_1 : _ = some _ := blk_cell kB1 1
      have cB2_0 : _ = some _ := blk_cell kB2 0
      have cB2_1 : _ = some _ := blk_cell kB2 1
      have fB1_0 := blk_free kB1 0
      have fB1_1 := blk_free kB1 1
      have fB2_0 := blk_free kB2 0
      have fB2_1 := blk_free kB2 1
      have oB1 := blk_older kB1
      have oB2 := blk_older kB2
      go_wp2_with fail
      refine box_end2 gB1 gB2 hK ?_ ?_ ?_
      · exact bBel
      · exact (by repeat' (first | with_reducible assumption | with_reducible apply blk_gw | with_reducible apply blk_alloc | with_reducible apply blk_set | ((with_reducible apply blk_other); focus (first | omega | assumption))))
      · exact (by repeat' (first | with_reducible assumption | with_reducible apply blk_gw | with_reducible apply blk_alloc | with_reducible apply blk_set | ((with_reducible apply blk_other); focus (first | omega | assumption))))
    intro bB1 bB2 p0 nB1 nB2 neB01 neB01' kB1 kB2
    have cB1_0 : _ = some _ := blk_cell kB1 0
    have cB1_1 : _ = some _ := blk_cell kB1 1
    have cB2_0 : _ = some _ := blk_cell kB2 0
    have cB2_1 : _ = some _ := blk_cell kB2 1
    have fB1_0 := blk_free kB1 0
    have fB1_1 := blk_free kB1 1
    have fB2_0 := blk_free kB2 0
    have fB2_1 := blk_free kB2 1
    have oB1 := blk_older kB1
    have oB2 := blk_older kB2
    go_wp2_with (first | (go_at_call 179; refine Calls.mono (gw_at (vdiff_b _ _ _ _ _)) ?_; rintro e w1 ⟨rfl, q, rfl⟩) | (go_at_call 42; refine Calls.mono (gw_at (cmp_b _ _ _)) ?_; rintro e w1 ⟨rfl, q, rfl⟩))
  go_ret
  exact ⟨rfl, bBel⟩

theorem rvsat_b (x y : Int) (w : World) : Calls Tryz.prog 139 #[.agg #[.int .i64 x, .int .i64 y]] w fun e w' => e = .returned (.agg #[.int .i64 (sat x), .int .i64 (sat y)]) ∧ Below w.heap.size w w' := by
  go_enter Tryz.func139, Tryz.ntmps139
  go_wp2_with (first | (go_at_call 84; refine Calls.mono (gw_at (rsat_b _ _)) ?_; rintro e w1 ⟨rfl, q, rfl⟩))
  repeat
    refine wp_region_gw_tail 7 (by kernel_rfl) (by kernel_rfl) ?_
    simp only [List.take_succ_cons, List.take_zero, List.drop_succ_cons, List.drop_zero]
    repeat (go_big_quiet_step ((first | (go_at_call 84; exact gw_call (rsat_b _ _)))))
    refine wpQuiet_nil ?_
    intro w1 hw1
    obtain ⟨q, rfl⟩ := hw1
    go_wp2_with (first | (go_at_call 84; refine Calls.mono (gw_at (rsat_b _ _)) ?_; rintro e w1 ⟨rfl, q, rfl⟩))
  exact bodyPost_ret (v := .agg #[.int .i64 (sat x), .int .i64 (sat y)]) (by simp [results, Tryz.results139, go_sem]; try (first | with_reducible rfl | exact ⟨rfl, rfl⟩ | exact ⟨rfl, rfl, rfl⟩ | exact ⟨rfl, rfl, rfl, rfl⟩ | exact ⟨rfl, rfl, rfl, rfl, rfl⟩ | exact ⟨rfl, rfl, rfl, rfl, rfl, rfl⟩ | rfl)) rfl ⟨rfl, bBel⟩

theorem rvadd_b (ax ay bx b_y : Int) (w : World) : Calls Tryz.prog 122 #[.agg #[.int .i64 ax, .int .i64 ay], .agg #[.int .i64 bx, .int .i64 b_y]] w fun e w' => e = .returned (.agg #[.int .i64 (add ax bx), .int .i64 (add ay b_y)]) ∧ Below w.heap.size w w' := by
  go_enter Tryz.func122, Tryz.ntmps122
  go_wp2_with (first | (go_at_call 64; refine Calls.mono (gw_at (radd_b _ _ _)) ?_; rintro e w1 ⟨rfl, q, rfl⟩))
  repeat
    refine wp_region_gw_tail 11 (by kernel_rfl) (by kernel_rfl) ?_
    simp only [List.take_succ_cons, List.take_zero, List.drop_succ_cons, List.drop_zero]
    repeat (go_big_quiet_step ((first | (go_at_call 64; exact gw_call (radd_b _ _ _)))))
    refine wpQuiet_nil ?_
    intro w1 hw1
    obtain ⟨q, rfl⟩ := hw1
    go_wp2_with (first | (go_at_call 64; refine Calls.mono (gw_at (radd_b _ _ _)) ?_; rintro e w1 ⟨rfl, q, rfl⟩))
  exact bodyPost_ret (v := .agg #[.int .i64 (add ax bx), .int .i64 (add ay b_y)]) (by simp [results, Tryz.results122, go_sem]; try (first | with_reducible rfl | exact ⟨rfl, rfl⟩ | exact ⟨rfl, rfl, rfl⟩ | exact ⟨rfl, rfl, rfl, rfl⟩ | exact ⟨rfl, rfl, rfl, rfl, rfl⟩ | exact ⟨rfl, rfl, rfl, rfl, rfl, rfl⟩ | rfl)) rfl ⟨rfl, bBel⟩

theorem rvsub_b (ax ay bx b_y : Int) (w : World) : Calls Tryz.prog 118 #[.agg #[.int .i64 ax, .int .i64 ay], .agg #[.int .i64 bx, .int .i64 b_y]] w fun e w' => e = .returned (.agg #[.int .i64 (sub ax bx), .int .i64 (sub ay b_y)]) ∧ Below w.heap.size w w' := by
  go_enter Tryz.func118, Tryz.ntmps118
  go_wp2_with (first | (go_at_call 63; refine Calls.mono (gw_at (rsub_b _ _ _)) ?_; rintro e w1 ⟨rfl, q, rfl⟩))
  repeat
    refine wp_region_gw_tail 11 (by kernel_rfl) (by kernel_rfl) ?_
    simp only [List.take_succ_cons, List.take_zero, List.drop_succ_cons, List.drop_zero]
    repeat (go_big_quiet_step ((first | (go_at_call 63; exact gw_call (rsub_b _ _ _)))))
    refine wpQuiet_nil ?_
    intro w1 hw1
    obtain ⟨q, rfl⟩ := hw1
    go_wp2_with (first | (go_at_call 63; refine Calls.mono (gw_at (rsub_b _ _ _)) ?_; rintro e w1 ⟨rfl, q, rfl⟩))
  exact bodyPost_ret (v := .agg #[.int .i64 (sub ax bx), .int .i64 (sub ay b_y)]) (by simp [results, Tryz.results118, go_sem]; try (first | with_reducible rfl | exact ⟨rfl, rfl⟩ | exact ⟨rfl, rfl, rfl⟩ | exact ⟨rfl, rfl, rfl, rfl⟩ | exact ⟨rfl, rfl, rfl, rfl, rfl⟩ | exact ⟨rfl, rfl, rfl, rfl, rfl, rfl⟩ | rfl)) rfl ⟨rfl, bBel⟩

theorem rvlen_b (x y : Int) (w : World) : Calls Tryz.prog 117 #[.agg #[.int .i64 x, .int .i64 y]] w fun e w' => e = .returned (.int .i64 (vlen x y)) ∧ Below w.heap.size w w' := by
  have h1 := satmul x x; have h2 := satmul y y
  go_enter Tryz.func117, Tryz.ntmps117
  go_wp2_with (first | (go_at_call 139; refine Calls.mono (gw_at (rvsat_b _ _ _)) ?_; rintro e w1 ⟨rfl, q, rfl⟩) | (go_at_call 140; refine Calls.mono (gw_at (risq_b _ _)) ?_; rintro e w1 ⟨rfl, q, rfl⟩))
  go_ret
  exact ⟨rfl, bBel⟩

theorem rvrot_b (c s x y : Int) (w : World) : Calls Tryz.prog 123 #[.agg #[.int .i64 c, .int .i64 s], .agg #[.int .i64 x, .int .i64 y]] w fun e w' => e = .returned (.agg #[.int .i64 (rotx c s x y), .int .i64 (roty c s x y)]) ∧ Below w.heap.size w w' := by
  have h1 := satmul c x; have h2 := satmul s y; have h3 := satmul s x; have h4 := satmul c y
  go_enter Tryz.func123, Tryz.ntmps123
  go_wp2_with (first | (go_at_call 84; refine Calls.mono (gw_at (rsat_b _ _)) ?_; rintro e w1 ⟨rfl, q, rfl⟩) | (go_at_call 139; refine Calls.mono (gw_at (rvsat_b _ _ _)) ?_; rintro e w1 ⟨rfl, q, rfl⟩) | (go_at_call 144; refine Calls.mono (gw_at (rrd_b _ _ _)) ?_; rintro e w1 ⟨rfl, q, rfl⟩))
  repeat
    refine wp_region_gw_tail 22 (by kernel_rfl) (by kernel_rfl) ?_
    simp only [List.take_succ_cons, List.take_zero, List.drop_succ_cons, List.drop_zero]
    repeat (go_big_quiet_step ((first | (go_at_call 84; exact gw_call (rsat_b _ _)) | (go_at_call 139; exact gw_call (rvsat_b _ _ _)) | (go_at_call 144; exact gw_call (rrd_b _ _ _)))))
    refine wpQuiet_nil ?_
    intro w1 hw1
    obtain ⟨q, rfl⟩ := hw1
    go_wp2_with (first | (go_at_call 84; refine Calls.mono (gw_at (rsat_b _ _)) ?_; rintro e w1 ⟨rfl, q, rfl⟩) | (go_at_call 139; refine Calls.mono (gw_at (rvsat_b _ _ _)) ?_; rintro e w1 ⟨rfl, q, rfl⟩) | (go_at_call 144; refine Calls.mono (gw_at (rrd_b _ _ _)) ?_; rintro e w1 ⟨rfl, q, rfl⟩))
  exact bodyPost_ret (v := .agg #[.int .i64 (rotx c s x y), .int .i64 (roty c s x y)]) (by simp [results, Tryz.results123, go_sem]; try (first | with_reducible rfl | exact ⟨rfl, rfl⟩ | exact ⟨rfl, rfl, rfl⟩ | exact ⟨rfl, rfl, rfl, rfl⟩ | exact ⟨rfl, rfl, rfl, rfl, rfl⟩ | exact ⟨rfl, rfl, rfl, rfl, rfl, rfl⟩ | rfl)) rfl ⟨rfl, bBel⟩

theorem rorient_b (ax ay bx b_y cx cy : Int) (w : World) : Calls Tryz.prog 142 #[.agg #[.int .i64 ax, .int .i64 ay], .agg #[.int .i64 bx, .int .i64 b_y], .agg #[.int .i64 cx, .int .i64 cy]] w fun e w' => e = .returned (.int .i64 (orient ax ay bx b_y cx cy)) ∧ Below w.heap.size w w' := by
  have a1 := sat_le ax; have a2 := sat_ge ax; have a3 := sat_le ay; have a4 := sat_ge ay
  have b1 := sat_le bx; have b2 := sat_ge bx; have b3 := sat_le b_y; have b4 := sat_ge b_y
  have c1 := sat_le cx; have c2 := sat_ge cx; have c3 := sat_le cy; have c4 := sat_ge cy
  have d1 := diffmul (a := bx) (b := ax) (c := cy) (d := ay); have d2 := diffmul (a := b_y) (b := ay) (c := cx) (d := ax)
  unfold orient
  by_cases hp : 0 < det ax ay bx b_y cx cy
  · rw [sgn_pos hp]
    unfold det at hp
    go_enter Tryz.func142, Tryz.ntmps142
    go_wp2_with (first | (go_at_call 139; refine Calls.mono (gw_at (rvsat_b _ _ _)) ?_; rintro e w1 ⟨rfl, q, rfl⟩))
    go_ret
    exact ⟨rfl, bBel⟩
  · by_cases hn : det ax ay bx b_y cx cy < 0
    · rw [sgn_neg hn]
      unfold det at hp hn
      go_enter Tryz.func142, Tryz.ntmps142
      go_wp2_with (first | (go_at_call 139; refine Calls.mono (gw_at (rvsat_b _ _ _)) ?_; rintro e w1 ⟨rfl, q, rfl⟩))
      go_ret
      exact ⟨rfl, bBel⟩
    · rw [sgn_zero hp hn]
      unfold det at hp hn
      go_enter Tryz.func142, Tryz.ntmps142
      go_wp2_with (first | (go_at_call 139; refine Calls.mono (gw_at (rvsat_b _ _ _)) ?_; rintro e w1 ⟨rfl, q, rfl⟩))
      go_ret
      exact ⟨rfl, bBel⟩

end Go.Proofs.YtaahgblkmajceaaGreat
