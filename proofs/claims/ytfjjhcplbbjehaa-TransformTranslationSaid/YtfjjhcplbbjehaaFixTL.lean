/- The contract of chapter 4's examples, and the walks of its statements: each returns true for every input, and nothing that existed has changed. No conditions. -/
import Derived.Test.YtfjjhcplbbjehaaFixT
import Derived.Test.YtfjjhcplbbjehaaOp
set_option linter.unusedVariables false
namespace Go.Proofs.Ytfjjhcplbbjehaa
open Go.RowKit Fx

theorem ex4app_b (w : World) : Calls Try.prog 9 #[.agg #[.int .i64 65536, .int .i64 0, .int .i64 102944], .agg #[.int .i64 65536, .int .i64 0]] w fun e w' => e = .returned (.agg #[.int .i64 65536, .int .i64 65536]) ∧ Below w.heap.size w w' := by
  have h := tapp_b 65536 0 102944 65536 0 w
  rw [ex4a, ex4b] at h; exact h

theorem ex4inv_b (w : World) : Calls Try.prog 11 #[.agg #[.int .i64 65536, .int .i64 0, .int .i64 102944], .agg #[.int .i64 65536, .int .i64 65536]] w fun e w' => e = .returned (.agg #[.int .i64 65536, .int .i64 0]) ∧ Below w.heap.size w w' := by
  have h := tinv_b 65536 0 102944 65536 65536 w
  rw [ex4c, ex4d] at h; exact h

theorem example4_b (w : World) : Calls Try.prog 15 #[] w fun e w' => e = .returned (.bool true) ∧ Below w.heap.size w w' := by
  have e5 : tval 65536 0 102944 = true := by decide +kernel
  have e6 : tval 0 0 205888 = false := by decide +kernel
  go_enter Try.func15, Try.ntmps15
  go_wp2_with (first | (go_at_call 9; refine Calls.mono (gw_at (tapp_b _ _ _ _ _ _)) ?_; rintro e w1 ⟨rfl, q, rfl⟩) | (go_at_call 11; refine Calls.mono (gw_at (tinv_b _ _ _ _ _ _)) ?_; rintro e w1 ⟨rfl, q, rfl⟩) | (go_at_call 13; (first | (refine Calls.mono (gw_at (boolIs (tval_b _ _ _ _) (b := true) (by assumption))) ?_; rintro e w1 ⟨rfl, q, rfl⟩) | (refine Calls.mono (gw_at (boolIs (tval_b _ _ _ _) (b := false) (by assumption))) ?_; rintro e w1 ⟨rfl, q, rfl⟩) | (refine Calls.mono (gw_at (tval_b _ _ _ _)) ?_; rintro e w1 ⟨rfl, q, rfl⟩))))
  refine wp_region_gw (by kernel_rfl) (by kernel_rfl) ?_
  repeat (go_big_quiet_step ((first | (go_at_call 9; exact gw_call (ex4app_b _)) | (go_at_call 11; exact gw_call (ex4inv_b _)) | (go_at_call 13; exact gw_call (tval_b _ _ _ _)))))
  refine wpQuiet_nil ?_
  intro w1 hw1
  obtain ⟨q, rfl⟩ := hw1
  go_wp2_with (first | (go_at_call 9; refine Calls.mono (gw_at (tapp_b _ _ _ _ _ _)) ?_; rintro e w1 ⟨rfl, q, rfl⟩) | (go_at_call 11; refine Calls.mono (gw_at (tinv_b _ _ _ _ _ _)) ?_; rintro e w1 ⟨rfl, q, rfl⟩) | (go_at_call 13; (first | (refine Calls.mono (gw_at (boolIs (tval_b _ _ _ _) (b := true) (by assumption))) ?_; rintro e w1 ⟨rfl, q, rfl⟩) | (refine Calls.mono (gw_at (boolIs (tval_b _ _ _ _) (b := false) (by assumption))) ?_; rintro e w1 ⟨rfl, q, rfl⟩) | (refine Calls.mono (gw_at (tval_b _ _ _ _)) ?_; rintro e w1 ⟨rfl, q, rfl⟩))))
  go_ret
  exact ⟨rfl, (by repeat (first | with_reducible exact Below.refl _ _ | with_reducible assumption | refine bgw ?_ (by first | (simp; done) | (simp; omega) | omega) _ | refine Below.setCell ?_ (by first | exact Nat.le_of_not_lt (by assumption) | (simp; done) | (simp; omega) | omega) _ | refine Below.alloc ?_ (by first | (simp; done) | (simp; omega) | omega) _ | refine Below.drew ?_))⟩

theorem tloc_b (x y : Int) (w : World) : Calls Try.prog 22 #[.agg #[.int .i64 x, .int .i64 y]] w fun e w' => e = .returned (.bool (tloc x y)) ∧ Below w.heap.size w w' := by
  go_enter Try.func22, Try.ntmps22
  go_wp2_with fail
  all_goals (go_ret; refine ⟨?_, (by repeat (first | with_reducible exact Below.refl _ _ | with_reducible assumption | refine bgw ?_ (by first | (simp; done) | (simp; omega) | omega) _ | refine Below.setCell ?_ (by first | exact Nat.le_of_not_lt (by assumption) | (simp; done) | (simp; omega) | omega) _ | refine Below.alloc ?_ (by first | (simp; done) | (simp; omega) | omega) _ | refine Below.drew ?_))⟩; first | rfl | (simp [tloc]; done) | (simp [tloc]; omega) | (simp [tloc]; rw [Bool.eq_iff_iff]; first | (simp; done) | (simp; omega)))

theorem walk_TransformApplies (px py a vx vy : Int) (w : World) : Calls Try.prog 3 #[.agg #[.int .i64 px, .int .i64 py, .int .i64 a], .agg #[.int .i64 vx, .int .i64 vy]] w fun e w' => e = .returned (.bool true) ∧ Below w.heap.size w w' := by
  go_enter Try.func3, Try.ntmps3
  go_wp2_with (first | (go_at_call 9; refine Calls.mono (gw_at (tapp_b _ _ _ _ _ _)) ?_; rintro e w1 ⟨rfl, q, rfl⟩) | (go_at_call 10; refine Calls.mono (gw_at (rtapp_b _ _ _ _ _ _)) ?_; rintro e w1 ⟨rfl, q, rfl⟩) | (go_at_call 11; refine Calls.mono (gw_at (tinv_b _ _ _ _ _ _)) ?_; rintro e w1 ⟨rfl, q, rfl⟩) | (go_at_call 12; refine Calls.mono (gw_at (rtinv_b _ _ _ _ _ _)) ?_; rintro e w1 ⟨rfl, q, rfl⟩) | (go_at_call 13; (first | (refine Calls.mono (gw_at (boolIs (tval_b _ _ _ _) (b := true) (by assumption))) ?_; rintro e w1 ⟨rfl, q, rfl⟩) | (refine Calls.mono (gw_at (boolIs (tval_b _ _ _ _) (b := false) (by assumption))) ?_; rintro e w1 ⟨rfl, q, rfl⟩) | (refine Calls.mono (gw_at (tval_b _ _ _ _)) ?_; rintro e w1 ⟨rfl, q, rfl⟩))) | (go_at_call 14; (first | (refine Calls.mono (gw_at (boolIs (rtval_b _ _ _ _) (b := true) (by assumption))) ?_; rintro e w1 ⟨rfl, q, rfl⟩) | (refine Calls.mono (gw_at (boolIs (rtval_b _ _ _ _) (b := false) (by assumption))) ?_; rintro e w1 ⟨rfl, q, rfl⟩) | (refine Calls.mono (gw_at (rtval_b _ _ _ _)) ?_; rintro e w1 ⟨rfl, q, rfl⟩))) | (go_at_call 15; refine Calls.mono (gw_at (example4_b _)) ?_; rintro e w1 ⟨rfl, q, rfl⟩))
  repeat
    refine wp_region_gw (by kernel_rfl) (by kernel_rfl) ?_
    repeat (go_big_quiet_step ((first | (go_at_call 9; exact gw_call (tapp_b _ _ _ _ _ _)) | (go_at_call 10; exact gw_call (rtapp_b _ _ _ _ _ _)) | (go_at_call 11; exact gw_call (tinv_b _ _ _ _ _ _)) | (go_at_call 12; exact gw_call (rtinv_b _ _ _ _ _ _)) | (go_at_call 13; (first | (exact gw_call (boolIs (tval_b _ _ _ _) (b := true) (by assumption))) | (exact gw_call (boolIs (tval_b _ _ _ _) (b := false) (by assumption))) | (exact gw_call (tval_b _ _ _ _)))) | (go_at_call 14; (first | (exact gw_call (boolIs (rtval_b _ _ _ _) (b := true) (by assumption))) | (exact gw_call (boolIs (rtval_b _ _ _ _) (b := false) (by assumption))) | (exact gw_call (rtval_b _ _ _ _)))) | (go_at_call 15; exact gw_call (example4_b _)))))
    refine wpQuiet_nil ?_
    intro w1 hw1
    obtain ⟨q, rfl⟩ := hw1
    go_wp2_with (first | (go_at_call 9; refine Calls.mono (gw_at (tapp_b _ _ _ _ _ _)) ?_; rintro e w1 ⟨rfl, q, rfl⟩) | (go_at_call 10; refine Calls.mono (gw_at (rtapp_b _ _ _ _ _ _)) ?_; rintro e w1 ⟨rfl, q, rfl⟩) | (go_at_call 11; refine Calls.mono (gw_at (tinv_b _ _ _ _ _ _)) ?_; rintro e w1 ⟨rfl, q, rfl⟩) | (go_at_call 12; refine Calls.mono (gw_at (rtinv_b _ _ _ _ _ _)) ?_; rintro e w1 ⟨rfl, q, rfl⟩) | (go_at_call 13; (first | (refine Calls.mono (gw_at (boolIs (tval_b _ _ _ _) (b := true) (by assumption))) ?_; rintro e w1 ⟨rfl, q, rfl⟩) | (refine Calls.mono (gw_at (boolIs (tval_b _ _ _ _) (b := false) (by assumption))) ?_; rintro e w1 ⟨rfl, q, rfl⟩) | (refine Calls.mono (gw_at (tval_b _ _ _ _)) ?_; rintro e w1 ⟨rfl, q, rfl⟩))) | (go_at_call 14; (first | (refine Calls.mono (gw_at (boolIs (rtval_b _ _ _ _) (b := true) (by assumption))) ?_; rintro e w1 ⟨rfl, q, rfl⟩) | (refine Calls.mono (gw_at (boolIs (rtval_b _ _ _ _) (b := false) (by assumption))) ?_; rintro e w1 ⟨rfl, q, rfl⟩) | (refine Calls.mono (gw_at (rtval_b _ _ _ _)) ?_; rintro e w1 ⟨rfl, q, rfl⟩))) | (go_at_call 15; refine Calls.mono (gw_at (example4_b _)) ?_; rintro e w1 ⟨rfl, q, rfl⟩))
  go_ret
  exact ⟨rfl, (by repeat (first | with_reducible exact Below.refl _ _ | with_reducible assumption | refine bgw ?_ (by first | (simp; done) | (simp; omega) | omega) _ | refine Below.setCell ?_ (by first | exact Nat.le_of_not_lt (by assumption) | (simp; done) | (simp; omega) | omega) _ | refine Below.alloc ?_ (by first | (simp; done) | (simp; omega) | omega) _ | refine Below.drew ?_))⟩

theorem walk_TransformComposition (ax ay aa bx b_y ba t : Int) (w : World) : Calls Try.prog 4 #[.agg #[.int .i64 ax, .int .i64 ay, .int .i64 aa], .agg #[.int .i64 bx, .int .i64 b_y, .int .i64 ba], .int .i64 t] w fun e w' => e = .returned (.bool true) ∧ Below w.heap.size w w' := by
  go_enter Try.func4, Try.ntmps4
  go_wp2_with (first | (go_at_call 16; refine Calls.mono (gw_at (tmul_b _ _ _ _ _ _ _)) ?_; rintro e w1 ⟨rfl, q, rfl⟩) | (go_at_call 17; refine Calls.mono (gw_at (rtmul_b _ _ _ _ _ _ _)) ?_; rintro e w1 ⟨rfl, q, rfl⟩) | (go_at_call 18; refine Calls.mono (gw_at (tint_b _ _ _ _ _ _ _ _)) ?_; rintro e w1 ⟨rfl, q, rfl⟩) | (go_at_call 19; refine Calls.mono (gw_at (rtint_b _ _ _ _ _ _ _ _)) ?_; rintro e w1 ⟨rfl, q, rfl⟩) | (go_at_call 15; refine Calls.mono (gw_at (example4_b _)) ?_; rintro e w1 ⟨rfl, q, rfl⟩))
  repeat
    refine wp_region_gw (by kernel_rfl) (by kernel_rfl) ?_
    repeat (go_big_quiet_step ((first | (go_at_call 16; exact gw_call (tmul_b _ _ _ _ _ _ _)) | (go_at_call 17; exact gw_call (rtmul_b _ _ _ _ _ _ _)) | (go_at_call 18; exact gw_call (tint_b _ _ _ _ _ _ _ _)) | (go_at_call 19; exact gw_call (rtint_b _ _ _ _ _ _ _ _)) | (go_at_call 15; exact gw_call (example4_b _)))))
    refine wpQuiet_nil ?_
    intro w1 hw1
    obtain ⟨q, rfl⟩ := hw1
    go_wp2_with (first | (go_at_call 16; refine Calls.mono (gw_at (tmul_b _ _ _ _ _ _ _)) ?_; rintro e w1 ⟨rfl, q, rfl⟩) | (go_at_call 17; refine Calls.mono (gw_at (rtmul_b _ _ _ _ _ _ _)) ?_; rintro e w1 ⟨rfl, q, rfl⟩) | (go_at_call 18; refine Calls.mono (gw_at (tint_b _ _ _ _ _ _ _ _)) ?_; rintro e w1 ⟨rfl, q, rfl⟩) | (go_at_call 19; refine Calls.mono (gw_at (rtint_b _ _ _ _ _ _ _ _)) ?_; rintro e w1 ⟨rfl, q, rfl⟩) | (go_at_call 15; refine Calls.mono (gw_at (example4_b _)) ?_; rintro e w1 ⟨rfl, q, rfl⟩))
  go_ret
  exact ⟨rfl, (by repeat (first | with_reducible exact Below.refl _ _ | with_reducible assumption | refine bgw ?_ (by first | (simp; done) | (simp; omega) | omega) _ | refine Below.setCell ?_ (by first | exact Nat.le_of_not_lt (by assumption) | (simp; done) | (simp; omega) | omega) _ | refine Below.alloc ?_ (by first | (simp; done) | (simp; omega) | omega) _ | refine Below.drew ?_))⟩

theorem walk_TransformIntegration (px py a cx cy vx vy k dt : Int) (w : World) : Calls Try.prog 5 #[.agg #[.int .i64 px, .int .i64 py, .int .i64 a], .agg #[.int .i64 cx, .int .i64 cy], .agg #[.int .i64 vx, .int .i64 vy], .int .i64 k, .int .i64 dt] w fun e w' => e = .returned (.bool true) ∧ Below w.heap.size w w' := by
  go_enter Try.func5, Try.ntmps5
  go_wp2_with (first | (go_at_call 20; refine Calls.mono (gw_at (tgr_b _ _ _ _ _ _ _ _ _ _)) ?_; rintro e w1 ⟨rfl, q, rfl⟩) | (go_at_call 21; refine Calls.mono (gw_at (rtgr_b _ _ _ _ _ _ _ _ _ _)) ?_; rintro e w1 ⟨rfl, q, rfl⟩) | (go_at_call 15; refine Calls.mono (gw_at (example4_b _)) ?_; rintro e w1 ⟨rfl, q, rfl⟩))
  repeat
    refine wp_region_gw (by kernel_rfl) (by kernel_rfl) ?_
    repeat (go_big_quiet_step ((first | (go_at_call 20; exact gw_call (tgr_b _ _ _ _ _ _ _ _ _ _)) | (go_at_call 21; exact gw_call (rtgr_b _ _ _ _ _ _ _ _ _ _)) | (go_at_call 15; exact gw_call (example4_b _)))))
    refine wpQuiet_nil ?_
    intro w1 hw1
    obtain ⟨q, rfl⟩ := hw1
    go_wp2_with (first | (go_at_call 20; refine Calls.mono (gw_at (tgr_b _ _ _ _ _ _ _ _ _ _)) ?_; rintro e w1 ⟨rfl, q, rfl⟩) | (go_at_call 21; refine Calls.mono (gw_at (rtgr_b _ _ _ _ _ _ _ _ _ _)) ?_; rintro e w1 ⟨rfl, q, rfl⟩) | (go_at_call 15; refine Calls.mono (gw_at (example4_b _)) ?_; rintro e w1 ⟨rfl, q, rfl⟩))
  go_ret
  exact ⟨rfl, (by repeat (first | with_reducible exact Below.refl _ _ | with_reducible assumption | refine bgw ?_ (by first | (simp; done) | (simp; omega) | omega) _ | refine Below.setCell ?_ (by first | exact Nat.le_of_not_lt (by assumption) | (simp; done) | (simp; omega) | omega) _ | refine Below.alloc ?_ (by first | (simp; done) | (simp; omega) | omega) _ | refine Below.drew ?_))⟩

theorem walk_TransformUnchanged (ax ay aa bx b_y ba cx cy dt : Int) (w : World) : Calls Try.prog 6 #[.agg #[.int .i64 ax, .int .i64 ay, .int .i64 aa], .agg #[.int .i64 bx, .int .i64 b_y, .int .i64 ba], .agg #[.int .i64 cx, .int .i64 cy], .int .i64 dt] w fun e w' => e = .returned (.bool true) ∧ Below w.heap.size w w' := by
  cases h1 : tval ax ay aa
  focus
    go_enter Try.func6, Try.ntmps6
    go_wp2_with (first | (go_at_call 13; (first | (refine Calls.mono (gw_at (boolIs (tval_b _ _ _ _) (b := true) (by assumption))) ?_; rintro e w1 ⟨rfl, q, rfl⟩) | (refine Calls.mono (gw_at (boolIs (tval_b _ _ _ _) (b := false) (by assumption))) ?_; rintro e w1 ⟨rfl, q, rfl⟩) | (refine Calls.mono (gw_at (tval_b _ _ _ _)) ?_; rintro e w1 ⟨rfl, q, rfl⟩))) | (go_at_call 22; (first | (refine Calls.mono (gw_at (boolIs (tloc_b _ _ _) (b := true) (by assumption))) ?_; rintro e w1 ⟨rfl, q, rfl⟩) | (refine Calls.mono (gw_at (boolIs (tloc_b _ _ _) (b := false) (by assumption))) ?_; rintro e w1 ⟨rfl, q, rfl⟩) | (refine Calls.mono (gw_at (tloc_b _ _ _)) ?_; rintro e w1 ⟨rfl, q, rfl⟩))) | (go_at_call 15; refine Calls.mono (gw_at (example4_b _)) ?_; rintro e w1 ⟨rfl, q, rfl⟩) | (go_at_call 18; refine Calls.mono (gw_at (tint_b _ _ _ _ _ _ _ _)) ?_; rintro e w1 ⟨rfl, q, rfl⟩) | (go_at_call 20; refine Calls.mono (gw_at (tgr_b _ _ _ _ _ _ _ _ _ _)) ?_; rintro e w1 ⟨rfl, q, rfl⟩))
    repeat
      refine wp_region_gw (by kernel_rfl) (by kernel_rfl) ?_
      repeat (go_big_quiet_step ((first | (go_at_call 13; (first | (exact gw_call (boolIs (tval_b _ _ _ _) (b := true) (by assumption))) | (exact gw_call (boolIs (tval_b _ _ _ _) (b := false) (by assumption))) | (exact gw_call (tval_b _ _ _ _)))) | (go_at_call 22; (first | (exact gw_call (boolIs (tloc_b _ _ _) (b := true) (by assumption))) | (exact gw_call (boolIs (tloc_b _ _ _) (b := false) (by assumption))) | (exact gw_call (tloc_b _ _ _)))) | (go_at_call 15; exact gw_call (example4_b _)) | (go_at_call 18; exact gw_call (tint_b _ _ _ _ _ _ _ _)) | (go_at_call 20; exact gw_call (tgr_b _ _ _ _ _ _ _ _ _ _)))))
      refine wpQuiet_nil ?_
      intro w1 hw1
      obtain ⟨q, rfl⟩ := hw1
      go_wp2_with (first | (go_at_call 13; (first | (refine Calls.mono (gw_at (boolIs (tval_b _ _ _ _) (b := true) (by assumption))) ?_; rintro e w1 ⟨rfl, q, rfl⟩) | (refine Calls.mono (gw_at (boolIs (tval_b _ _ _ _) (b := false) (by assumption))) ?_; rintro e w1 ⟨rfl, q, rfl⟩) | (refine Calls.mono (gw_at (tval_b _ _ _ _)) ?_; rintro e w1 ⟨rfl, q, rfl⟩))) | (go_at_call 22; (first | (refine Calls.mono (gw_at (boolIs (tloc_b _ _ _) (b := true) (by assumption))) ?_; rintro e w1 ⟨rfl, q, rfl⟩) | (refine Calls.mono (gw_at (boolIs (tloc_b _ _ _) (b := false) (by assumption))) ?_; rintro e w1 ⟨rfl, q, rfl⟩) | (refine Calls.mono (gw_at (tloc_b _ _ _)) ?_; rintro e w1 ⟨rfl, q, rfl⟩))) | (go_at_call 15; refine Calls.mono (gw_at (example4_b _)) ?_; rintro e w1 ⟨rfl, q, rfl⟩) | (go_at_call 18; refine Calls.mono (gw_at (tint_b _ _ _ _ _ _ _ _)) ?_; rintro e w1 ⟨rfl, q, rfl⟩) | (go_at_call 20; refine Calls.mono (gw_at (tgr_b _ _ _ _ _ _ _ _ _ _)) ?_; rintro e w1 ⟨rfl, q, rfl⟩))
    go_ret
    exact ⟨rfl, (by repeat (first | with_reducible exact Below.refl _ _ | with_reducible assumption | refine bgw ?_ (by first | (simp; done) | (simp; omega) | omega) _ | refine Below.setCell ?_ (by first | exact Nat.le_of_not_lt (by assumption) | (simp; done) | (simp; omega) | omega) _ | refine Below.alloc ?_ (by first | (simp; done) | (simp; omega) | omega) _ | refine Below.drew ?_))⟩
  cases h2 : tval bx b_y ba
  focus
    go_enter Try.func6, Try.ntmps6
    go_wp2_with (first | (go_at_call 13; (first | (refine Calls.mono (gw_at (boolIs (tval_b _ _ _ _) (b := true) (by assumption))) ?_; rintro e w1 ⟨rfl, q, rfl⟩) | (refine Calls.mono (gw_at (boolIs (tval_b _ _ _ _) (b := false) (by assumption))) ?_; rintro e w1 ⟨rfl, q, rfl⟩) | (refine Calls.mono (gw_at (tval_b _ _ _ _)) ?_; rintro e w1 ⟨rfl, q, rfl⟩))) | (go_at_call 22; (first | (refine Calls.mono (gw_at (boolIs (tloc_b _ _ _) (b := true) (by assumption))) ?_; rintro e w1 ⟨rfl, q, rfl⟩) | (refine Calls.mono (gw_at (boolIs (tloc_b _ _ _) (b := false) (by assumption))) ?_; rintro e w1 ⟨rfl, q, rfl⟩) | (refine Calls.mono (gw_at (tloc_b _ _ _)) ?_; rintro e w1 ⟨rfl, q, rfl⟩))) | (go_at_call 15; refine Calls.mono (gw_at (example4_b _)) ?_; rintro e w1 ⟨rfl, q, rfl⟩) | (go_at_call 18; refine Calls.mono (gw_at (tint_b _ _ _ _ _ _ _ _)) ?_; rintro e w1 ⟨rfl, q, rfl⟩) | (go_at_call 20; refine Calls.mono (gw_at (tgr_b _ _ _ _ _ _ _ _ _ _)) ?_; rintro e w1 ⟨rfl, q, rfl⟩))
    repeat
      refine wp_region_gw (by kernel_rfl) (by kernel_rfl) ?_
      repeat (go_big_quiet_step ((first | (go_at_call 13; (first | (exact gw_call (boolIs (tval_b _ _ _ _) (b := true) (by assumption))) | (exact gw_call (boolIs (tval_b _ _ _ _) (b := false) (by assumption))) | (exact gw_call (tval_b _ _ _ _)))) | (go_at_call 22; (first | (exact gw_call (boolIs (tloc_b _ _ _) (b := true) (by assumption))) | (exact gw_call (boolIs (tloc_b _ _ _) (b := false) (by assumption))) | (exact gw_call (tloc_b _ _ _)))) | (go_at_call 15; exact gw_call (example4_b _)) | (go_at_call 18; exact gw_call (tint_b _ _ _ _ _ _ _ _)) | (go_at_call 20; exact gw_call (tgr_b _ _ _ _ _ _ _ _ _ _)))))
      refine wpQuiet_nil ?_
      intro w1 hw1
      obtain ⟨q, rfl⟩ := hw1
      go_wp2_with (first | (go_at_call 13; (first | (refine Calls.mono (gw_at (boolIs (tval_b _ _ _ _) (b := true) (by assumption))) ?_; rintro e w1 ⟨rfl, q, rfl⟩) | (refine Calls.mono (gw_at (boolIs (tval_b _ _ _ _) (b := false) (by assumption))) ?_; rintro e w1 ⟨rfl, q, rfl⟩) | (refine Calls.mono (gw_at (tval_b _ _ _ _)) ?_; rintro e w1 ⟨rfl, q, rfl⟩))) | (go_at_call 22; (first | (refine Calls.mono (gw_at (boolIs (tloc_b _ _ _) (b := true) (by assumption))) ?_; rintro e w1 ⟨rfl, q, rfl⟩) | (refine Calls.mono (gw_at (boolIs (tloc_b _ _ _) (b := false) (by assumption))) ?_; rintro e w1 ⟨rfl, q, rfl⟩) | (refine Calls.mono (gw_at (tloc_b _ _ _)) ?_; rintro e w1 ⟨rfl, q, rfl⟩))) | (go_at_call 15; refine Calls.mono (gw_at (example4_b _)) ?_; rintro e w1 ⟨rfl, q, rfl⟩) | (go_at_call 18; refine Calls.mono (gw_at (tint_b _ _ _ _ _ _ _ _)) ?_; rintro e w1 ⟨rfl, q, rfl⟩) | (go_at_call 20; refine Calls.mono (gw_at (tgr_b _ _ _ _ _ _ _ _ _ _)) ?_; rintro e w1 ⟨rfl, q, rfl⟩))
    go_ret
    exact ⟨rfl, (by repeat (first | with_reducible exact Below.refl _ _ | with_reducible assumption | refine bgw ?_ (by first | (simp; done) | (simp; omega) | omega) _ | refine Below.setCell ?_ (by first | exact Nat.le_of_not_lt (by assumption) | (simp; done) | (simp; omega) | omega) _ | refine Below.alloc ?_ (by first | (simp; done) | (simp; omega) | omega) _ | refine Below.drew ?_))⟩
  cases h3 : tloc cx cy
  focus
    go_enter Try.func6, Try.ntmps6
    go_wp2_with (first | (go_at_call 13; (first | (refine Calls.mono (gw_at (boolIs (tval_b _ _ _ _) (b := true) (by assumption))) ?_; rintro e w1 ⟨rfl, q, rfl⟩) | (refine Calls.mono (gw_at (boolIs (tval_b _ _ _ _) (b := false) (by assumption))) ?_; rintro e w1 ⟨rfl, q, rfl⟩) | (refine Calls.mono (gw_at (tval_b _ _ _ _)) ?_; rintro e w1 ⟨rfl, q, rfl⟩))) | (go_at_call 22; (first | (refine Calls.mono (gw_at (boolIs (tloc_b _ _ _) (b := true) (by assumption))) ?_; rintro e w1 ⟨rfl, q, rfl⟩) | (refine Calls.mono (gw_at (boolIs (tloc_b _ _ _) (b := false) (by assumption))) ?_; rintro e w1 ⟨rfl, q, rfl⟩) | (refine Calls.mono (gw_at (tloc_b _ _ _)) ?_; rintro e w1 ⟨rfl, q, rfl⟩))) | (go_at_call 15; refine Calls.mono (gw_at (example4_b _)) ?_; rintro e w1 ⟨rfl, q, rfl⟩) | (go_at_call 18; refine Calls.mono (gw_at (tint_b _ _ _ _ _ _ _ _)) ?_; rintro e w1 ⟨rfl, q, rfl⟩) | (go_at_call 20; refine Calls.mono (gw_at (tgr_b _ _ _ _ _ _ _ _ _ _)) ?_; rintro e w1 ⟨rfl, q, rfl⟩))
    repeat
      refine wp_region_gw (by kernel_rfl) (by kernel_rfl) ?_
      repeat (go_big_quiet_step ((first | (go_at_call 13; (first | (exact gw_call (boolIs (tval_b _ _ _ _) (b := true) (by assumption))) | (exact gw_call (boolIs (tval_b _ _ _ _) (b := false) (by assumption))) | (exact gw_call (tval_b _ _ _ _)))) | (go_at_call 22; (first | (exact gw_call (boolIs (tloc_b _ _ _) (b := true) (by assumption))) | (exact gw_call (boolIs (tloc_b _ _ _) (b := false) (by assumption))) | (exact gw_call (tloc_b _ _ _)))) | (go_at_call 15; exact gw_call (example4_b _)) | (go_at_call 18; exact gw_call (tint_b _ _ _ _ _ _ _ _)) | (go_at_call 20; exact gw_call (tgr_b _ _ _ _ _ _ _ _ _ _)))))
      refine wpQuiet_nil ?_
      intro w1 hw1
      obtain ⟨q, rfl⟩ := hw1
      go_wp2_with (first | (go_at_call 13; (first | (refine Calls.mono (gw_at (boolIs (tval_b _ _ _ _) (b := true) (by assumption))) ?_; rintro e w1 ⟨rfl, q, rfl⟩) | (refine Calls.mono (gw_at (boolIs (tval_b _ _ _ _) (b := false) (by assumption))) ?_; rintro e w1 ⟨rfl, q, rfl⟩) | (refine Calls.mono (gw_at (tval_b _ _ _ _)) ?_; rintro e w1 ⟨rfl, q, rfl⟩))) | (go_at_call 22; (first | (refine Calls.mono (gw_at (boolIs (tloc_b _ _ _) (b := true) (by assumption))) ?_; rintro e w1 ⟨rfl, q, rfl⟩) | (refine Calls.mono (gw_at (boolIs (tloc_b _ _ _) (b := false) (by assumption))) ?_; rintro e w1 ⟨rfl, q, rfl⟩) | (refine Calls.mono (gw_at (tloc_b _ _ _)) ?_; rintro e w1 ⟨rfl, q, rfl⟩))) | (go_at_call 15; refine Calls.mono (gw_at (example4_b _)) ?_; rintro e w1 ⟨rfl, q, rfl⟩) | (go_at_call 18; refine Calls.mono (gw_at (tint_b _ _ _ _ _ _ _ _)) ?_; rintro e w1 ⟨rfl, q, rfl⟩) | (go_at_call 20; refine Calls.mono (gw_at (tgr_b _ _ _ _ _ _ _ _ _ _)) ?_; rintro e w1 ⟨rfl, q, rfl⟩))
    go_ret
    exact ⟨rfl, (by repeat (first | with_reducible exact Below.refl _ _ | with_reducible assumption | refine bgw ?_ (by first | (simp; done) | (simp; omega) | omega) _ | refine Below.setCell ?_ (by first | exact Nat.le_of_not_lt (by assumption) | (simp; done) | (simp; omega) | omega) _ | refine Below.alloc ?_ (by first | (simp; done) | (simp; omega) | omega) _ | refine Below.drew ?_))⟩
  obtain ⟨⟨x1, x2⟩, ⟨y1, y2⟩, a1, a2⟩ := tval_iff.1 h1
  obtain ⟨c1, c2, c3, c4⟩ := tloc_iff.1 h3
  have e1 : (lerp ax bx 0 == ax) = true := by rw [beq_iff_eq]; exact lerp_still x1 x2
  have e2 : (lerp ay b_y 0 == ay) = true := by rw [beq_iff_eq]; exact lerp_still y1 y2
  have e3 : (tang aa (mul (dif aa ba) 0) == aa) = true := by rw [beq_iff_eq, mul_zero]; exact tang_zero a1 a2
  have e4 : (tgx ax aa cx cy 0 0 dt == ax) = true := by rw [beq_iff_eq]; exact tgx_still h1 c1 c2 c3 c4 (zero_mul' dt) (zero_mul' dt)
  have e5 : (tgy ay aa cx cy 0 0 dt == ay) = true := by rw [beq_iff_eq]; exact tgy_still h1 c1 c2 c3 c4 (zero_mul' dt) (zero_mul' dt)
  have e6 : (tang aa (mul 0 dt) == aa) = true := by rw [beq_iff_eq, zero_mul']; exact tang_zero a1 a2
  have e7 : (tgx ax aa cx cy 7 5 0 == ax) = true := by rw [beq_iff_eq]; exact tgx_still h1 c1 c2 c3 c4 (mul_zero 7) (mul_zero 5)
  have e8 : (tgy ay aa cx cy (-9) 5 0 == ay) = true := by rw [beq_iff_eq]; exact tgy_still h1 c1 c2 c3 c4 (mul_zero (-9)) (mul_zero 5)
  have e9 : (tang aa (mul 5 0) == aa) = true := by rw [beq_iff_eq, mul_zero]; exact tang_zero a1 a2
  clear x1 x2 y1 y2 a1 a2 c1 c2 c3 c4
  go_enter Try.func6, Try.ntmps6
  go_wp2_with (first | (go_at_call 13; (first | (refine Calls.mono (gw_at (boolIs (tval_b _ _ _ _) (b := true) (by assumption))) ?_; rintro e w1 ⟨rfl, q, rfl⟩) | (refine Calls.mono (gw_at (boolIs (tval_b _ _ _ _) (b := false) (by assumption))) ?_; rintro e w1 ⟨rfl, q, rfl⟩) | (refine Calls.mono (gw_at (tval_b _ _ _ _)) ?_; rintro e w1 ⟨rfl, q, rfl⟩))) | (go_at_call 22; (first | (refine Calls.mono (gw_at (boolIs (tloc_b _ _ _) (b := true) (by assumption))) ?_; rintro e w1 ⟨rfl, q, rfl⟩) | (refine Calls.mono (gw_at (boolIs (tloc_b _ _ _) (b := false) (by assumption))) ?_; rintro e w1 ⟨rfl, q, rfl⟩) | (refine Calls.mono (gw_at (tloc_b _ _ _)) ?_; rintro e w1 ⟨rfl, q, rfl⟩))) | (go_at_call 15; refine Calls.mono (gw_at (example4_b _)) ?_; rintro e w1 ⟨rfl, q, rfl⟩) | (go_at_call 18; refine Calls.mono (gw_at (tint_b _ _ _ _ _ _ _ _)) ?_; rintro e w1 ⟨rfl, q, rfl⟩) | (go_at_call 20; refine Calls.mono (gw_at (tgr_b _ _ _ _ _ _ _ _ _ _)) ?_; rintro e w1 ⟨rfl, q, rfl⟩))
  repeat
    refine wp_region_gw (by kernel_rfl) (by kernel_rfl) ?_
    repeat (go_big_quiet_step ((first | (go_at_call 13; (first | (exact gw_call (boolIs (tval_b _ _ _ _) (b := true) (by assumption))) | (exact gw_call (boolIs (tval_b _ _ _ _) (b := false) (by assumption))) | (exact gw_call (tval_b _ _ _ _)))) | (go_at_call 22; (first | (exact gw_call (boolIs (tloc_b _ _ _) (b := true) (by assumption))) | (exact gw_call (boolIs (tloc_b _ _ _) (b := false) (by assumption))) | (exact gw_call (tloc_b _ _ _)))) | (go_at_call 15; exact gw_call (example4_b _)) | (go_at_call 18; exact gw_call (tint_b _ _ _ _ _ _ _ _)) | (go_at_call 20; exact gw_call (tgr_b _ _ _ _ _ _ _ _ _ _)))))
    refine wpQuiet_nil ?_
    intro w1 hw1
    obtain ⟨q, rfl⟩ := hw1
    go_wp2_with (first | (go_at_call 13; (first | (refine Calls.mono (gw_at (boolIs (tval_b _ _ _ _) (b := true) (by assumption))) ?_; rintro e w1 ⟨rfl, q, rfl⟩) | (refine Calls.mono (gw_at (boolIs (tval_b _ _ _ _) (b := false) (by assumption))) ?_; rintro e w1 ⟨rfl, q, rfl⟩) | (refine Calls.mono (gw_at (tval_b _ _ _ _)) ?_; rintro e w1 ⟨rfl, q, rfl⟩))) | (go_at_call 22; (first | (refine Calls.mono (gw_at (boolIs (tloc_b _ _ _) (b := true) (by assumption))) ?_; rintro e w1 ⟨rfl, q, rfl⟩) | (refine Calls.mono (gw_at (boolIs (tloc_b _ _ _) (b := false) (by assumption))) ?_; rintro e w1 ⟨rfl, q, rfl⟩) | (refine Calls.mono (gw_at (tloc_b _ _ _)) ?_; rintro e w1 ⟨rfl, q, rfl⟩))) | (go_at_call 15; refine Calls.mono (gw_at (example4_b _)) ?_; rintro e w1 ⟨rfl, q, rfl⟩) | (go_at_call 18; refine Calls.mono (gw_at (tint_b _ _ _ _ _ _ _ _)) ?_; rintro e w1 ⟨rfl, q, rfl⟩) | (go_at_call 20; refine Calls.mono (gw_at (tgr_b _ _ _ _ _ _ _ _ _ _)) ?_; rintro e w1 ⟨rfl, q, rfl⟩))
  go_ret
  exact ⟨rfl, (by repeat (first | with_reducible exact Below.refl _ _ | with_reducible assumption | refine bgw ?_ (by first | (simp; done) | (simp; omega) | omega) _ | refine Below.setCell ?_ (by first | exact Nat.le_of_not_lt (by assumption) | (simp; done) | (simp; omega) | omega) _ | refine Below.alloc ?_ (by first | (simp; done) | (simp; omega) | omega) _ | refine Below.drew ?_))⟩

theorem tapp0_b (px py vx vy : Int) (w : World) : Calls Try.prog 9 #[.agg #[.int .i64 px, .int .i64 py, .int .i64 0], .agg #[.int .i64 vx, .int .i64 vy]] w fun e w' => e = .returned (.agg #[.int .i64 (add vx px), .int .i64 (add vy py)]) ∧ Below w.heap.size w w' := by
  have h := tapp_b px py 0 vx vy w
  rw [tpx_none, tpy_none] at h; exact h

theorem tinv0_b (px py vx vy : Int) (w : World) : Calls Try.prog 11 #[.agg #[.int .i64 px, .int .i64 py, .int .i64 0], .agg #[.int .i64 vx, .int .i64 vy]] w fun e w' => e = .returned (.agg #[.int .i64 (sub vx px), .int .i64 (sub vy py)]) ∧ Below w.heap.size w w' := by
  have h := tinv_b px py 0 vx vy w
  rw [tqx_none, tqy_none] at h; exact h

theorem tmul0_b (px py vx vy : Int) (w : World) : Calls Try.prog 16 #[.agg #[.int .i64 px, .int .i64 py, .int .i64 0], .agg #[.int .i64 vx, .int .i64 vy, .int .i64 0]] w fun e w' => e = .returned (.agg #[.int .i64 (add vx px), .int .i64 (add vy py), .int .i64 0]) ∧ Below w.heap.size w w' := by
  have h := tmul_b px py 0 vx vy 0 w
  rw [tpx_none, tpy_none, tang_none] at h; exact h

theorem walk_TransformTranslation (px py a vx vy : Int) (w : World) : Calls Try.prog 7 #[.agg #[.int .i64 px, .int .i64 py, .int .i64 a], .agg #[.int .i64 vx, .int .i64 vy]] w fun e w' => e = .returned (.bool true) ∧ Below w.heap.size w w' := by
  go_enter Try.func7, Try.ntmps7
  go_wp2_with (first | (go_at_call 9; refine Calls.mono (gw_at (tapp_b _ _ _ _ _ _)) ?_; rintro e w1 ⟨rfl, q, rfl⟩) | (go_at_call 23; refine Calls.mono (gw_at (vadd_b _ _ _ _ _)) ?_; rintro e w1 ⟨rfl, q, rfl⟩) | (go_at_call 11; refine Calls.mono (gw_at (tinv_b _ _ _ _ _ _)) ?_; rintro e w1 ⟨rfl, q, rfl⟩) | (go_at_call 24; refine Calls.mono (gw_at (vsub_b _ _ _ _ _)) ?_; rintro e w1 ⟨rfl, q, rfl⟩) | (go_at_call 16; refine Calls.mono (gw_at (tmul_b _ _ _ _ _ _ _)) ?_; rintro e w1 ⟨rfl, q, rfl⟩) | (go_at_call 15; refine Calls.mono (gw_at (example4_b _)) ?_; rintro e w1 ⟨rfl, q, rfl⟩))
  refine wp_region_gw (by kernel_rfl) (by kernel_rfl) ?_
  repeat (go_big_quiet_step ((first | (go_at_call 9; exact gw_call (tapp0_b _ _ _ _ _)) | (go_at_call 11; exact gw_call (tinv0_b _ _ _ _ _)) | (go_at_call 16; exact gw_call (tmul0_b _ _ _ _ _)) | (go_at_call 23; exact gw_call (vadd_b _ _ _ _ _)) | (go_at_call 24; exact gw_call (vsub_b _ _ _ _ _)) | (go_at_call 15; exact gw_call (example4_b _)))))
  refine wpQuiet_nil ?_
  intro w1 hw1
  obtain ⟨q, rfl⟩ := hw1
  go_wp2_with (first | (go_at_call 9; refine Calls.mono (gw_at (tapp_b _ _ _ _ _ _)) ?_; rintro e w1 ⟨rfl, q, rfl⟩) | (go_at_call 23; refine Calls.mono (gw_at (vadd_b _ _ _ _ _)) ?_; rintro e w1 ⟨rfl, q, rfl⟩) | (go_at_call 11; refine Calls.mono (gw_at (tinv_b _ _ _ _ _ _)) ?_; rintro e w1 ⟨rfl, q, rfl⟩) | (go_at_call 24; refine Calls.mono (gw_at (vsub_b _ _ _ _ _)) ?_; rintro e w1 ⟨rfl, q, rfl⟩) | (go_at_call 16; refine Calls.mono (gw_at (tmul_b _ _ _ _ _ _ _)) ?_; rintro e w1 ⟨rfl, q, rfl⟩) | (go_at_call 15; refine Calls.mono (gw_at (example4_b _)) ?_; rintro e w1 ⟨rfl, q, rfl⟩))
  go_ret
  exact ⟨rfl, (by repeat (first | with_reducible exact Below.refl _ _ | with_reducible assumption | refine bgw ?_ (by first | (simp; done) | (simp; omega) | omega) _ | refine Below.setCell ?_ (by first | exact Nat.le_of_not_lt (by assumption) | (simp; done) | (simp; omega) | omega) _ | refine Below.alloc ?_ (by first | (simp; done) | (simp; omega) | omega) _ | refine Below.drew ?_))⟩

theorem walk_TransformAngleRange (ax ay aa bx b_y ba k t : Int) (w : World) : Calls Try.prog 8 #[.agg #[.int .i64 ax, .int .i64 ay, .int .i64 aa], .agg #[.int .i64 bx, .int .i64 b_y, .int .i64 ba], .int .i64 k, .int .i64 t] w fun e w' => e = .returned (.bool true) ∧ Below w.heap.size w w' := by
  have h1 := tang_ge aa (nrm ba); have h2 := tang_lt aa (nrm ba)
  have h3 := tang_ge aa (mul (dif aa ba) t); have h4 := tang_lt aa (mul (dif aa ba) t)
  have h5 := tang_ge aa (mul k t); have h6 := tang_lt aa (mul k t)
  have e1 : tval 0 0 (tang aa (nrm ba)) = true := tval_iff.2 ⟨by omega, by omega, h1, h2⟩
  go_enter Try.func8, Try.ntmps8
  go_wp2_with (first | (go_at_call 16; refine Calls.mono (gw_at (tmul_b _ _ _ _ _ _ _)) ?_; rintro e w1 ⟨rfl, q, rfl⟩) | (go_at_call 18; refine Calls.mono (gw_at (tint_b _ _ _ _ _ _ _ _)) ?_; rintro e w1 ⟨rfl, q, rfl⟩) | (go_at_call 20; refine Calls.mono (gw_at (tgr_b _ _ _ _ _ _ _ _ _ _)) ?_; rintro e w1 ⟨rfl, q, rfl⟩) | (go_at_call 13; (first | (refine Calls.mono (gw_at (boolIs (tval_b _ _ _ _) (b := true) (by assumption))) ?_; rintro e w1 ⟨rfl, q, rfl⟩) | (refine Calls.mono (gw_at (boolIs (tval_b _ _ _ _) (b := false) (by assumption))) ?_; rintro e w1 ⟨rfl, q, rfl⟩) | (refine Calls.mono (gw_at (tval_b _ _ _ _)) ?_; rintro e w1 ⟨rfl, q, rfl⟩))) | (go_at_call 15; refine Calls.mono (gw_at (example4_b _)) ?_; rintro e w1 ⟨rfl, q, rfl⟩))
  repeat
    refine wp_region_gw (by kernel_rfl) (by kernel_rfl) ?_
    repeat (go_big_quiet_step ((first | (go_at_call 16; exact gw_call (tmul_b _ _ _ _ _ _ _)) | (go_at_call 18; exact gw_call (tint_b _ _ _ _ _ _ _ _)) | (go_at_call 20; exact gw_call (tgr_b _ _ _ _ _ _ _ _ _ _)) | (go_at_call 13; (first | (exact gw_call (boolIs (tval_b _ _ _ _) (b := true) (by assumption))) | (exact gw_call (boolIs (tval_b _ _ _ _) (b := false) (by assumption))) | (exact gw_call (tval_b _ _ _ _)))) | (go_at_call 15; exact gw_call (example4_b _)))))
    refine wpQuiet_nil ?_
    intro w1 hw1
    obtain ⟨q, rfl⟩ := hw1
    go_wp2_with (first | (go_at_call 16; refine Calls.mono (gw_at (tmul_b _ _ _ _ _ _ _)) ?_; rintro e w1 ⟨rfl, q, rfl⟩) | (go_at_call 18; refine Calls.mono (gw_at (tint_b _ _ _ _ _ _ _ _)) ?_; rintro e w1 ⟨rfl, q, rfl⟩) | (go_at_call 20; refine Calls.mono (gw_at (tgr_b _ _ _ _ _ _ _ _ _ _)) ?_; rintro e w1 ⟨rfl, q, rfl⟩) | (go_at_call 13; (first | (refine Calls.mono (gw_at (boolIs (tval_b _ _ _ _) (b := true) (by assumption))) ?_; rintro e w1 ⟨rfl, q, rfl⟩) | (refine Calls.mono (gw_at (boolIs (tval_b _ _ _ _) (b := false) (by assumption))) ?_; rintro e w1 ⟨rfl, q, rfl⟩) | (refine Calls.mono (gw_at (tval_b _ _ _ _)) ?_; rintro e w1 ⟨rfl, q, rfl⟩))) | (go_at_call 15; refine Calls.mono (gw_at (example4_b _)) ?_; rintro e w1 ⟨rfl, q, rfl⟩))
  go_ret
  exact ⟨rfl, (by repeat (first | with_reducible exact Below.refl _ _ | with_reducible assumption | refine bgw ?_ (by first | (simp; done) | (simp; omega) | omega) _ | refine Below.setCell ?_ (by first | exact Nat.le_of_not_lt (by assumption) | (simp; done) | (simp; omega) | omega) _ | refine Below.alloc ?_ (by first | (simp; done) | (simp; omega) | omega) _ | refine Below.drew ?_))⟩

end Go.Proofs.Ytfjjhcplbbjehaa
