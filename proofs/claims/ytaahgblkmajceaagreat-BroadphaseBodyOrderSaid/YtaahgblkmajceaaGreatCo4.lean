/- Contracts of package aabb and of its reference: each returns what the Lean functions of the same meaning give, and nothing that existed has changed. No conditions.
Contracts of package aabb: each returns what the Lean functions of the same meaning give, and nothing that existed has changed. No conditions.
Contracts of package aabb, those with loops: each returns what the Lean functions of the same meaning give, and nothing that existed has changed. No conditions but the slices' own. -/
import Derived.Test.YtaahgblkmajceaaGreatCo2
import Derived.Test.YtaahgblkmajceaaGreatKi1
import Derived.Test.YtaahgblkmajceaaGreatKi2
import Derived.Test.YtaahgblkmajceaaGreatMa1
import Derived.Outline
import Derived.Test.YtaahgblkmajceaaGreatMa2

set_option linter.unusedVariables false
namespace Go.Proofs.YtaahgblkmajceaaGreat
open Go.RowKit Fx

theorem rxsat_b (x y : Int) (w : World) : Calls Tryz.prog 62 #[.agg #[.int .i64 x, .int .i64 y]] w fun e w' => e = .returned (.agg #[.int .i64 (sat x), .int .i64 (sat y)]) ∧ Below w.heap.size w w' := by
  go_enter Tryz.func62, Tryz.ntmps62
  go_wp2_with (first | (go_at_call 84; refine Calls.mono (gw_at (rsat_b _ _)) ?_; rintro e w1 ⟨rfl, q, rfl⟩))
  repeat
    refine wp_region_gw_tail 7 (by kernel_rfl) (by kernel_rfl) ?_
    simp only [List.take_succ_cons, List.take_zero, List.drop_succ_cons, List.drop_zero]
    repeat (go_big_quiet_step ((first | (go_at_call 84; exact gw_call (rsat_b _ _)))))
    refine wpQuiet_nil ?_
    intro w1 hw1
    obtain ⟨q, rfl⟩ := hw1
    go_wp2_with (first | (go_at_call 84; refine Calls.mono (gw_at (rsat_b _ _)) ?_; rintro e w1 ⟨rfl, q, rfl⟩))
  exact bodyPost_ret (v := .agg #[.int .i64 (sat x), .int .i64 (sat y)]) (by simp [results, Tryz.results62, go_sem]; try (first | with_reducible rfl | exact ⟨rfl, rfl⟩ | exact ⟨rfl, rfl, rfl⟩ | exact ⟨rfl, rfl, rfl, rfl⟩ | exact ⟨rfl, rfl, rfl, rfl, rfl⟩ | exact ⟨rfl, rfl, rfl, rfl, rfl, rfl⟩ | rfl)) rfl ⟨rfl, bBel⟩

theorem rxval_b (x0 y0 x1 y1 : Int) (w : World) : Calls Tryz.prog 46 #[.agg #[.int .i64 x0, .int .i64 y0, .int .i64 x1, .int .i64 y1]] w fun e w' => e = .returned (.bool (val4 x0 y0 x1 y1)) ∧ Below w.heap.size w w' := by
  unfold val4
  have h := Bx.val_cases ⟨x0, y0, x1, y1⟩
  dsimp only at h
  rcases h with ⟨e, h1⟩ | ⟨e, h1, h2⟩ | ⟨e, h1, h2, h3⟩ | ⟨e, h1, h2, h3, h4⟩ | ⟨e, h1, h2, h3, h4, h5⟩ | ⟨e, h1, h2, h3, h4, h5, h6⟩ | ⟨e, h1, h2, h3, h4, h5, h6⟩
  all_goals
    rw [e]
    clear e
    go_enter Tryz.func46, Tryz.ntmps46
    go_wp2_with (first | (go_at_call 62; refine Calls.mono (gw_at (rxsat_b _ _ _)) ?_; rintro e w1 ⟨rfl, q, rfl⟩))
    repeat
      refine wp_region_gw (by kernel_rfl) (by kernel_rfl) ?_
      repeat (go_big_quiet_step ((first | (go_at_call 62; exact gw_call (rxsat_b _ _ _)))))
      refine wpQuiet_nil ?_
      intro w1 hw1
      obtain ⟨q, rfl⟩ := hw1
      go_wp2_with (first | (go_at_call 62; refine Calls.mono (gw_at (rxsat_b _ _ _)) ?_; rintro e w1 ⟨rfl, q, rfl⟩))
    go_ret
    exact ⟨rfl, bBel⟩

theorem rxovl_b (ax0 ay0 ax1 ay1 bx0 by0 bx1 by1 : Int) (w : World) : Calls Tryz.prog 32 #[.agg #[.int .i64 ax0, .int .i64 ay0, .int .i64 ax1, .int .i64 ay1], .agg #[.int .i64 bx0, .int .i64 by0, .int .i64 bx1, .int .i64 by1]] w fun e w' => e = .returned (.bool (ovl8 ax0 ay0 ax1 ay1 bx0 by0 bx1 by1)) ∧ Below w.heap.size w w' := by
  cases h1 : val4 ax0 ay0 ax1 ay1
  focus
    go_enter Tryz.func32, Tryz.ntmps32
    go_wp2_with (first | (go_at_call 46; (first | (refine Calls.mono (gw_at (boolIs (rxval_b _ _ _ _ _) (b := true) (by assumption))) ?_; rintro e w1 ⟨rfl, q, rfl⟩) | (refine Calls.mono (gw_at (boolIs (rxval_b _ _ _ _ _) (b := false) (by assumption))) ?_; rintro e w1 ⟨rfl, q, rfl⟩) | (refine Calls.mono (gw_at (rxval_b _ _ _ _ _)) ?_; rintro e w1 ⟨rfl, q, rfl⟩))))
    all_goals (go_ret; refine ⟨?_, bBel⟩; first | rfl | (simp [ovl8, Bx.ovl, val4_eq, h1]; done) | (simp [ovl8, Bx.ovl, val4_eq, h1]; omega) | (simp [ovl8, Bx.ovl, val4_eq, h1]; rw [Bool.eq_iff_iff]; first | (simp; done) | (simp; omega)))
  cases h2 : val4 bx0 by0 bx1 by1
  focus
    go_enter Tryz.func32, Tryz.ntmps32
    go_wp2_with (first | (go_at_call 46; (first | (refine Calls.mono (gw_at (boolIs (rxval_b _ _ _ _ _) (b := true) (by assumption))) ?_; rintro e w1 ⟨rfl, q, rfl⟩) | (refine Calls.mono (gw_at (boolIs (rxval_b _ _ _ _ _) (b := false) (by assumption))) ?_; rintro e w1 ⟨rfl, q, rfl⟩) | (refine Calls.mono (gw_at (rxval_b _ _ _ _ _)) ?_; rintro e w1 ⟨rfl, q, rfl⟩))))
    all_goals (go_ret; refine ⟨?_, bBel⟩; first | rfl | (simp [ovl8, Bx.ovl, val4_eq, h1, h2]; done) | (simp [ovl8, Bx.ovl, val4_eq, h1, h2]; omega) | (simp [ovl8, Bx.ovl, val4_eq, h1, h2]; rw [Bool.eq_iff_iff]; first | (simp; done) | (simp; omega)))
  go_enter Tryz.func32, Tryz.ntmps32
  go_wp2_with (first | (go_at_call 46; (first | (refine Calls.mono (gw_at (boolIs (rxval_b _ _ _ _ _) (b := true) (by assumption))) ?_; rintro e w1 ⟨rfl, q, rfl⟩) | (refine Calls.mono (gw_at (boolIs (rxval_b _ _ _ _ _) (b := false) (by assumption))) ?_; rintro e w1 ⟨rfl, q, rfl⟩) | (refine Calls.mono (gw_at (rxval_b _ _ _ _ _)) ?_; rintro e w1 ⟨rfl, q, rfl⟩))))
  all_goals (go_ret; refine ⟨?_, bBel⟩; first | rfl | (simp [ovl8, Bx.ovl, val4_eq, h1, h2]; done) | (simp [ovl8, Bx.ovl, val4_eq, h1, h2]; omega) | (simp [ovl8, Bx.ovl, val4_eq, h1, h2]; rw [Bool.eq_iff_iff]; first | (simp; done) | (simp; omega)))

set_option maxHeartbeats 800000 in
theorem rxexp_b (x0 y0 x1 y1 m : Int) (w : World) : Calls Tryz.prog 47 #[.agg #[.int .i64 x0, .int .i64 y0, .int .i64 x1, .int .i64 y1], .int .i64 m] w fun e w' => e = .returned (.agg #[.int .i64 (Bx.exp ⟨x0, y0, x1, y1⟩ m).x0, .int .i64 (Bx.exp ⟨x0, y0, x1, y1⟩ m).y0, .int .i64 (Bx.exp ⟨x0, y0, x1, y1⟩ m).x1, .int .i64 (Bx.exp ⟨x0, y0, x1, y1⟩ m).y1]) ∧ Below w.heap.size w w' := by
  cases h1 : val4 x0 y0 x1 y1
  focus
    rw [show Bx.exp ⟨x0, y0, x1, y1⟩ m = Bx.zero from by simp [Bx.exp, val4_eq, h1]]
    go_enter Tryz.func47, Tryz.ntmps47
    go_wp2_with (first | (go_at_call 63; refine Calls.mono (gw_at (rsub_b _ _ _)) ?_; rintro e w1 ⟨rfl, q, rfl⟩) | (go_at_call 64; refine Calls.mono (gw_at (radd_b _ _ _)) ?_; rintro e w1 ⟨rfl, q, rfl⟩) | (go_at_call 46; (first | (refine Calls.mono (gw_at (boolIs (rxval_b _ _ _ _ _) (b := true) (by assumption))) ?_; rintro e w1 ⟨rfl, q, rfl⟩) | (refine Calls.mono (gw_at (boolIs (rxval_b _ _ _ _ _) (b := false) (by assumption))) ?_; rintro e w1 ⟨rfl, q, rfl⟩) | (refine Calls.mono (gw_at (rxval_b _ _ _ _ _)) ?_; rintro e w1 ⟨rfl, q, rfl⟩))))
    repeat
      apply wp_box1 24 39 23 5 #[.int .i64 0, .int .i64 0, .int .i64 0, .int .i64 0] 42 (by kernel_rfl) (by rfl) (by kernel_rfl) (by intro o ho a w; simp at ho; subst ho; simp [go_sem, ptr])
      · intro p0
        simp only [heads, ghost, List.take_succ_cons, List.take_zero, List.map_cons, List.map_nil]
        repeat (go_big_quiet_step ((first | (go_at_call 63; exact gw_call (rsub_b _ _ _)) | (go_at_call 64; exact gw_call (radd_b _ _ _)) | (go_at_call 46; (first | (exact gw_call (boolIs (rxval_b _ _ _ _ _) (b := true) (by assumption))) | (exact gw_call (boolIs (rxval_b _ _ _ _ _) (b := false) (by assumption))) | (exact gw_call (rxval_b _ _ _ _ _)))))))
        exact wpQuiet_nil rfl
      · intro R bB p0 nB gB  kB hK
        simp only [List.drop_succ_cons, List.drop_zero, Act.put, ptr, List.setIfInBounds_toArray, List.set_cons_succ, List.set_cons_zero]
        have cB_0 : _ = some _ := blk_cell kB 0
        have cB_1 : _ = some _ := blk_cell kB 1
        have cB_2 : _ = some _ := blk_cell kB 2
        have cB_3 : _ = some _ := blk_cell kB 3
        have fB_0 := blk_free kB 0
        have fB_1 := blk_free kB 1
        have fB_2 := blk_free kB 2
        have fB_3 := blk_free kB 3
        have oB := blk_older kB
        go_wp2_with fail
        refine box_end1 gB hK ?_ ?_
        · exact bBel
        · exact (by repeat' (first | with_reducible assumption | with_reducible apply blk_gw | with_reducible apply blk_alloc | with_reducible apply blk_set | ((with_reducible apply blk_other); focus (first | omega | assumption))))
      intro bB p0 nB  kB
      have cB_0 : _ = some _ := blk_cell kB 0
      have cB_1 : _ = some _ := blk_cell kB 1
      have cB_2 : _ = some _ := blk_cell kB 2
      have cB_3 : _ = some _ := blk_cell kB 3
      have fB_0 := blk_free kB 0
      have fB_1 := blk_free kB 1
      have fB_2 := blk_free kB 2
      have fB_3 := blk_free kB 3
      have oB := blk_older kB
      go_wp2_with (first | (go_at_call 63; refine Calls.mono (gw_at (rsub_b _ _ _)) ?_; rintro e w1 ⟨rfl, q, rfl⟩) | (go_at_call 64; refine Calls.mono (gw_at (radd_b _ _ _)) ?_; rintro e w1 ⟨rfl, q, rfl⟩) | (go_at_call 46; (first | (refine Calls.mono (gw_at (boolIs (rxval_b _ _ _ _ _) (b := true) (by assumption))) ?_; rintro e w1 ⟨rfl, q, rfl⟩) | (refine Calls.mono (gw_at (boolIs (rxval_b _ _ _ _ _) (b := false) (by assumption))) ?_; rintro e w1 ⟨rfl, q, rfl⟩) | (refine Calls.mono (gw_at (rxval_b _ _ _ _ _)) ?_; rintro e w1 ⟨rfl, q, rfl⟩))))
    exact bodyPost_ret (v := .agg #[.int .i64 0, .int .i64 0, .int .i64 0, .int .i64 0]) (by simp [results, Tryz.results47, go_sem]; try (first | with_reducible rfl | exact ⟨rfl, rfl⟩ | exact ⟨rfl, rfl, rfl⟩ | exact ⟨rfl, rfl, rfl, rfl⟩ | exact ⟨rfl, rfl, rfl, rfl, rfl⟩ | exact ⟨rfl, rfl, rfl, rfl, rfl, rfl⟩ | rfl)) rfl ⟨rfl, bBel⟩
  cases h2 : val4 (sub x0 m) (sub y0 m) (add x1 m) (add y1 m)
  focus
    rw [show Bx.exp ⟨x0, y0, x1, y1⟩ m = Bx.zero from by simp [Bx.exp, val4_eq, h1, Bx.mar, h2]]
    go_enter Tryz.func47, Tryz.ntmps47
    go_wp2_with (first | (go_at_call 63; refine Calls.mono (gw_at (rsub_b _ _ _)) ?_; rintro e w1 ⟨rfl, q, rfl⟩) | (go_at_call 64; refine Calls.mono (gw_at (radd_b _ _ _)) ?_; rintro e w1 ⟨rfl, q, rfl⟩) | (go_at_call 46; (first | (refine Calls.mono (gw_at (boolIs (rxval_b _ _ _ _ _) (b := true) (by assumption))) ?_; rintro e w1 ⟨rfl, q, rfl⟩) | (refine Calls.mono (gw_at (boolIs (rxval_b _ _ _ _ _) (b := false) (by assumption))) ?_; rintro e w1 ⟨rfl, q, rfl⟩) | (refine Calls.mono (gw_at (rxval_b _ _ _ _ _)) ?_; rintro e w1 ⟨rfl, q, rfl⟩))))
    repeat
      apply wp_box1 24 39 23 5 #[.int .i64 0, .int .i64 0, .int .i64 0, .int .i64 0] 42 (by kernel_rfl) (by rfl) (by kernel_rfl) (by intro o ho a w; simp at ho; subst ho; simp [go_sem, ptr])
      · intro p0
        simp only [heads, ghost, List.take_succ_cons, List.take_zero, List.map_cons, List.map_nil]
        repeat (go_big_quiet_step ((first | (go_at_call 63; exact gw_call (rsub_b _ _ _)) | (go_at_call 64; exact gw_call (radd_b _ _ _)) | (go_at_call 46; (first | (exact gw_call (boolIs (rxval_b _ _ _ _ _) (b := true) (by assumption))) | (exact gw_call (boolIs (rxval_b _ _ _ _ _) (b := false) (by assumption))) | (exact gw_call (rxval_b _ _ _ _ _)))))))
        exact wpQuiet_nil rfl
      · intro R bB p0 nB gB  kB hK
        simp only [List.drop_succ_cons, List.drop_zero, Act.put, ptr, List.setIfInBounds_toArray, List.set_cons_succ, List.set_cons_zero]
        have cB_0 : _ = some _ := blk_cell kB 0
        have cB_1 : _ = some _ := blk_cell kB 1
        have cB_2 : _ = some _ := blk_cell kB 2
        have cB_3 : _ = some _ := blk_cell kB 3
        have fB_0 := blk_free kB 0
        have fB_1 := blk_free kB 1
        have fB_2 := blk_free kB 2
        have fB_3 := blk_free kB 3
        have oB := blk_older kB
        go_wp2_with fail
        refine box_end1 gB hK ?_ ?_
        · exact bBel
        · exact (by repeat' (first | with_reducible assumption | with_reducible apply blk_gw | with_reducible apply blk_alloc | with_reducible apply blk_set | ((with_reducible apply blk_other); focus (first | omega | assumption))))
      intro bB p0 nB  kB
      have cB_0 : _ = some _ := blk_cell kB 0
      have cB_1 : _ = some _ := blk_cell kB 1
      have cB_2 : _ = some _ := blk_cell kB 2
      have cB_3 : _ = some _ := blk_cell kB 3
      have fB_0 := blk_free kB 0
      have fB_1 := blk_free kB 1
      have fB_2 := blk_free kB 2
      have fB_3 := blk_free kB 3
      have oB := blk_older kB
      go_wp2_with (first | (go_at_call 63; refine Calls.mono (gw_at (rsub_b _ _ _)) ?_; rintro e w1 ⟨rfl, q, rfl⟩) | (go_at_call 64; refine Calls.mono (gw_at (radd_b _ _ _)) ?_; rintro e w1 ⟨rfl, q, rfl⟩) | (go_at_call 46; (first | (refine Calls.mono (gw_at (boolIs (rxval_b _ _ _ _ _) (b := true) (by assumption))) ?_; rintro e w1 ⟨rfl, q, rfl⟩) | (refine Calls.mono (gw_at (boolIs (rxval_b _ _ _ _ _) (b := false) (by assumption))) ?_; rintro e w1 ⟨rfl, q, rfl⟩) | (refine Calls.mono (gw_at (rxval_b _ _ _ _ _)) ?_; rintro e w1 ⟨rfl, q, rfl⟩))))
    exact bodyPost_ret (v := .agg #[.int .i64 0, .int .i64 0, .int .i64 0, .int .i64 0]) (by simp [results, Tryz.results47, go_sem]; try (first | with_reducible rfl | exact ⟨rfl, rfl⟩ | exact ⟨rfl, rfl, rfl⟩ | exact ⟨rfl, rfl, rfl, rfl⟩ | exact ⟨rfl, rfl, rfl, rfl, rfl⟩ | exact ⟨rfl, rfl, rfl, rfl, rfl, rfl⟩ | rfl)) rfl ⟨rfl, bBel⟩
  rw [show Bx.exp ⟨x0, y0, x1, y1⟩ m = ⟨sub x0 m, sub y0 m, add x1 m, add y1 m⟩ from by simp [Bx.exp, val4_eq, h1, Bx.mar, h2]]
  go_enter Tryz.func47, Tryz.ntmps47
  go_wp2_with (first | (go_at_call 63; refine Calls.mono (gw_at (rsub_b _ _ _)) ?_; rintro e w1 ⟨rfl, q, rfl⟩) | (go_at_call 64; refine Calls.mono (gw_at (radd_b _ _ _)) ?_; rintro e w1 ⟨rfl, q, rfl⟩) | (go_at_call 46; (first | (refine Calls.mono (gw_at (boolIs (rxval_b _ _ _ _ _) (b := true) (by assumption))) ?_; rintro e w1 ⟨rfl, q, rfl⟩) | (refine Calls.mono (gw_at (boolIs (rxval_b _ _ _ _ _) (b := false) (by assumption))) ?_; rintro e w1 ⟨rfl, q, rfl⟩) | (refine Calls.mono (gw_at (rxval_b _ _ _ _ _)) ?_; rintro e w1 ⟨rfl, q, rfl⟩))))
  repeat
    apply wp_box1 24 39 23 5 #[.int .i64 0, .int .i64 0, .int .i64 0, .int .i64 0] 42 (by kernel_rfl) (by rfl) (by kernel_rfl) (by intro o ho a w; simp at ho; subst ho; simp [go_sem, ptr])
    · intro p0
      simp only [heads, ghost, List.take_succ_cons, List.take_zero, List.map_cons, List.map_nil]
      repeat (go_big_quiet_step ((first | (go_at_call 63; exact gw_call (rsub_b _ _ _)) | (go_at_call 64; exact gw_call (radd_b _ _ _)) | (go_at_call 46; (first | (exact gw_call (boolIs (rxval_b _ _ _ _ _) (b := true) (by assumption))) | (exact gw_call (boolIs (rxval_b _ _ _ _ _) (b := false) (by assumption))) | (exact gw_call (rxval_b _ _ _ _ _)))))))
      exact wpQuiet_nil rfl
    · intro R bB p0 nB gB  kB hK
      simp only [List.drop_succ_cons, List.drop_zero, Act.put, ptr, List.setIfInBounds_toArray, List.set_cons_succ, List.set_cons_zero]
      have cB_0 : _ = some _ := blk_cell kB 0
      have cB_1 : _ = some _ := blk_cell kB 1
      have cB_2 : _ = some _ := blk_cell kB 2
      have cB_3 : _ = some _ := blk_cell kB 3
      have fB_0 := blk_free kB 0
      have fB_1 := blk_free kB 1
      have fB_2 := blk_free kB 2
      have fB_3 := blk_free kB 3
      have oB := blk_older kB
      go_wp2_with fail
      refine box_end1 gB hK ?_ ?_
      · exact bBel
      · exact (by repeat' (first | with_reducible assumption | with_reducible apply blk_gw | with_reducible apply blk_alloc | with_reducible apply blk_set | ((with_reducible apply blk_other); focus (first | omega | assumption))))
    intro bB p0 nB  kB
    have cB_0 : _ = some _ := blk_cell kB 0
    have cB_1 : _ = some _ := blk_cell kB 1
    have cB_2 : _ = some _ := blk_cell kB 2
    have cB_3 : _ = some _ := blk_cell kB 3
    have fB_0 := blk_free kB 0
    have fB_1 := blk_free kB 1
    have fB_2 := blk_free kB 2
    have fB_3 := blk_free kB 3
    have oB := blk_older kB
    go_wp2_with (first | (go_at_call 63; refine Calls.mono (gw_at (rsub_b _ _ _)) ?_; rintro e w1 ⟨rfl, q, rfl⟩) | (go_at_call 64; refine Calls.mono (gw_at (radd_b _ _ _)) ?_; rintro e w1 ⟨rfl, q, rfl⟩) | (go_at_call 46; (first | (refine Calls.mono (gw_at (boolIs (rxval_b _ _ _ _ _) (b := true) (by assumption))) ?_; rintro e w1 ⟨rfl, q, rfl⟩) | (refine Calls.mono (gw_at (boolIs (rxval_b _ _ _ _ _) (b := false) (by assumption))) ?_; rintro e w1 ⟨rfl, q, rfl⟩) | (refine Calls.mono (gw_at (rxval_b _ _ _ _ _)) ?_; rintro e w1 ⟨rfl, q, rfl⟩))))
  exact bodyPost_ret (v := .agg #[.int .i64 (sub x0 m), .int .i64 (sub y0 m), .int .i64 (add x1 m), .int .i64 (add y1 m)]) (by simp [results, Tryz.results47, go_sem]; try (first | with_reducible rfl | exact ⟨rfl, rfl⟩ | exact ⟨rfl, rfl, rfl⟩ | exact ⟨rfl, rfl, rfl, rfl⟩ | exact ⟨rfl, rfl, rfl, rfl, rfl⟩ | exact ⟨rfl, rfl, rfl, rfl, rfl, rfl⟩ | rfl)) rfl ⟨rfl, bBel⟩

end Go.Proofs.YtaahgblkmajceaaGreat

set_option linter.unusedVariables false
namespace Go.Proofs.YtaahgblkmajceaaGreat
open Go.RowKit Fx

def vr (l h : Int) : Bool := decide (-536870911 ≤ l) && decide (l ≤ h) && decide (h ≤ 536870911)
theorem val4_vr (x0 y0 x1 y1 : Int) : val4 x0 y0 x1 y1 = (vr x0 x1 && vr y0 y1) := by
  have e : ∀ z, z = sat z ↔ -536870911 ≤ z ∧ z ≤ 536870911 := fun z => by unfold sat; split <;> (try split) <;> omega
  rw [Bool.eq_iff_iff]
  simp only [val4, Bx.val_iff, Bx.ok, vr, Bool.and_eq_true, decide_eq_true_eq]
  rw [e x0, e y0, e x1, e y1]
  omega
theorem has_con (x0 y0 x1 y1 x y : Int) : has6 x0 y0 x1 y1 x y = con8 x0 y0 x1 y1 (sat x) (sat y) (sat x) (sat y) := by
  rw [Bool.eq_iff_iff]
  simp only [has6, con8, Bx.has_iff, Bx.con_iff]
  have := Bx.one_ok (x, y)
  simp only [Bx.one] at this
  constructor
  · intro ⟨h, h1⟩; exact ⟨h, this, by omega⟩
  · intro ⟨h, _, h1⟩; exact ⟨h, by omega⟩
def meet8 (x0 y0 x1 y1 fx fy tx ty : Int) : Bool :=
  let s := fun k => orient fx fy tx ty (Bx.cx ⟨x0, y0, x1, y1⟩ k) (Bx.cy ⟨x0, y0, x1, y1⟩ k)
  decide (s 0 = 0) || decide (¬ s 1 = s 0) || decide (¬ s 2 = s 0) || decide (¬ s 3 = s 0)
theorem seg_meet (x0 y0 x1 y1 fx fy tx ty : Int) : seg8 x0 y0 x1 y1 fx fy tx ty = (ovl8 x0 y0 x1 y1 (min (sat fx) (sat tx)) (min (sat fy) (sat ty)) (max (sat fx) (sat tx)) (max (sat fy) (sat ty)) && meet8 x0 y0 x1 y1 fx fy tx ty) := by
  rw [Bool.eq_iff_iff, Bool.and_eq_true]
  have e0 : ovl8 x0 y0 x1 y1 (min (sat fx) (sat tx)) (min (sat fy) (sat ty)) (max (sat fx) (sat tx)) (max (sat fy) (sat ty)) = Bx.ovl ⟨x0, y0, x1, y1⟩ (Bx.two fx fy tx ty) := rfl
  rw [e0, show seg8 x0 y0 x1 y1 fx fy tx ty = Bx.seg ⟨x0, y0, x1, y1⟩ fx fy tx ty from rfl, Bx.seg_iff]
  refine and_congr_right fun _ => ?_
  have hs : ∀ k, Bx.side ⟨x0, y0, x1, y1⟩ fx fy tx ty k = 0 ∨ Bx.side ⟨x0, y0, x1, y1⟩ fx fy tx ty k = 1 ∨ Bx.side ⟨x0, y0, x1, y1⟩ fx fy tx ty k = -1 := fun k => by
    unfold Bx.side orient sgn; split <;> (try split) <;> omega
  have h0 := hs 0; have h1 := hs 1; have h2 := hs 2; have h3 := hs 3
  have q : ∀ s : Int, (∀ k, k < 4 → Bx.side ⟨x0, y0, x1, y1⟩ fx fy tx ty k = s) ↔ Bx.side ⟨x0, y0, x1, y1⟩ fx fy tx ty 0 = s ∧ Bx.side ⟨x0, y0, x1, y1⟩ fx fy tx ty 1 = s ∧ Bx.side ⟨x0, y0, x1, y1⟩ fx fy tx ty 2 = s ∧ Bx.side ⟨x0, y0, x1, y1⟩ fx fy tx ty 3 = s := fun s =>
    ⟨fun h => ⟨h 0 (by omega), h 1 (by omega), h 2 (by omega), h 3 (by omega)⟩, fun ⟨a, b, c, d⟩ k hk => by
      match k, hk with
      | 0, _ => exact a
      | 1, _ => exact b
      | 2, _ => exact c
      | 3, _ => exact d
      | n + 4, h => omega⟩
  rw [q 1, q (-1)]
  simp only [meet8, Bool.or_eq_true, decide_eq_true_eq]
  unfold Bx.side at *
  omega

theorem xvr_b (l h : Int) (w : World) : Calls Tryz.prog 70 #[.int .i64 l, .int .i64 h] w fun e w' => e = .returned (.bool (vr l h)) ∧ Below w.heap.size w w' := by
  go_enter Tryz.func70, Tryz.ntmps70
  go_wp2_with fail
  all_goals (go_ret; refine ⟨?_, bBel⟩; first | rfl | (simp [vr]; done) | (simp [vr]; omega) | (simp [vr]; rw [Bool.eq_iff_iff]; first | (simp; done) | (simp; omega)))

theorem xval_b (x0 y0 x1 y1 : Int) (w : World) : Calls Tryz.prog 51 #[.agg #[.int .i64 x0, .int .i64 y0, .int .i64 x1, .int .i64 y1]] w fun e w' => e = .returned (.bool (val4 x0 y0 x1 y1)) ∧ Below w.heap.size w w' := by
  rw [val4_vr]
  cases h1 : vr x0 x1
  focus
    go_enter Tryz.func51, Tryz.ntmps51
    go_wp2_with (first | (go_at_call 70; (first | (refine Calls.mono (gw_at (boolIs (xvr_b _ _ _) (b := true) (by assumption))) ?_; rintro e w1 ⟨rfl, q, rfl⟩) | (refine Calls.mono (gw_at (boolIs (xvr_b _ _ _) (b := false) (by assumption))) ?_; rintro e w1 ⟨rfl, q, rfl⟩) | (refine Calls.mono (gw_at (xvr_b _ _ _)) ?_; rintro e w1 ⟨rfl, q, rfl⟩))))
    go_ret
    exact ⟨rfl, bBel⟩
  go_enter Tryz.func51, Tryz.ntmps51
  go_wp2_with (first | (go_at_call 70; (first | (refine Calls.mono (gw_at (boolIs (xvr_b _ _ _) (b := true) (by assumption))) ?_; rintro e w1 ⟨rfl, q, rfl⟩) | (refine Calls.mono (gw_at (boolIs (xvr_b _ _ _) (b := false) (by assumption))) ?_; rintro e w1 ⟨rfl, q, rfl⟩) | (refine Calls.mono (gw_at (xvr_b _ _ _)) ?_; rintro e w1 ⟨rfl, q, rfl⟩))))
  all_goals (go_ret; refine ⟨?_, bBel⟩; first | rfl | (simp; done) | (simp; omega) | (simp; rw [Bool.eq_iff_iff]; first | (simp; done) | (simp; omega)))

theorem xone_b (x y : Int) (w : World) : Calls Tryz.prog 89 #[.agg #[.int .i64 x, .int .i64 y]] w fun e w' => e = .returned (.agg #[.int .i64 (sat x), .int .i64 (sat y), .int .i64 (sat x), .int .i64 (sat y)]) ∧ Below w.heap.size w w' := by
  go_enter Tryz.func89, Tryz.ntmps89
  go_wp2_with (first | (go_at_call 125; refine Calls.mono (gw_at (sat_b _ _)) ?_; rintro e w1 ⟨rfl, q, rfl⟩))
  repeat
    refine wp_region_gw_tail 7 (by kernel_rfl) (by kernel_rfl) ?_
    simp only [List.take_succ_cons, List.take_zero, List.drop_succ_cons, List.drop_zero]
    repeat (go_big_quiet_step ((first | (go_at_call 125; exact gw_call (sat_b _ _)))))
    refine wpQuiet_nil ?_
    intro w1 hw1
    obtain ⟨q, rfl⟩ := hw1
    go_wp2_with (first | (go_at_call 125; refine Calls.mono (gw_at (sat_b _ _)) ?_; rintro e w1 ⟨rfl, q, rfl⟩))
  exact bodyPost_ret (v := .agg #[.int .i64 (sat x), .int .i64 (sat y), .int .i64 (sat x), .int .i64 (sat y)]) (by simp [results, Tryz.results89, go_sem]; try (first | with_reducible rfl | exact ⟨rfl, rfl⟩ | exact ⟨rfl, rfl, rfl⟩ | exact ⟨rfl, rfl, rfl, rfl⟩ | exact ⟨rfl, rfl, rfl, rfl, rfl⟩ | exact ⟨rfl, rfl, rfl, rfl, rfl, rfl⟩ | rfl)) rfl ⟨rfl, bBel⟩

theorem xbhull_b (ax0 ay0 ax1 ay1 bx0 by0 bx1 by1 : Int) (w : World) : Calls Tryz.prog 90 #[.agg #[.int .i64 ax0, .int .i64 ay0, .int .i64 ax1, .int .i64 ay1], .agg #[.int .i64 bx0, .int .i64 by0, .int .i64 bx1, .int .i64 by1]] w fun e w' => e = .returned (.agg #[.int .i64 (min ax0 bx0), .int .i64 (min ay0 by0), .int .i64 (max ax1 bx1), .int .i64 (max ay1 by1)]) ∧ Below w.heap.size w w' := by
  go_enter Tryz.func90, Tryz.ntmps90
  go_wp2_with fail
  exact bodyPost_ret (v := .agg #[.int .i64 (min ax0 bx0), .int .i64 (min ay0 by0), .int .i64 (max ax1 bx1), .int .i64 (max ay1 by1)]) (by simp [results, Tryz.results90, go_sem]; try (first | with_reducible rfl | exact ⟨rfl, rfl⟩ | exact ⟨rfl, rfl, rfl⟩ | exact ⟨rfl, rfl, rfl, rfl⟩ | exact ⟨rfl, rfl, rfl, rfl, rfl⟩ | exact ⟨rfl, rfl, rfl, rfl, rfl, rfl⟩ | rfl)) rfl ⟨rfl, bBel⟩

theorem xovl_b (ax0 ay0 ax1 ay1 bx0 by0 bx1 by1 : Int) (w : World) : Calls Tryz.prog 38 #[.agg #[.int .i64 ax0, .int .i64 ay0, .int .i64 ax1, .int .i64 ay1], .agg #[.int .i64 bx0, .int .i64 by0, .int .i64 bx1, .int .i64 by1]] w fun e w' => e = .returned (.bool (ovl8 ax0 ay0 ax1 ay1 bx0 by0 bx1 by1)) ∧ Below w.heap.size w w' := by
  cases h1 : val4 ax0 ay0 ax1 ay1
  focus
    go_enter Tryz.func38, Tryz.ntmps38
    go_wp2_with (first | (go_at_call 51; (first | (refine Calls.mono (gw_at (boolIs (xval_b _ _ _ _ _) (b := true) (by assumption))) ?_; rintro e w1 ⟨rfl, q, rfl⟩) | (refine Calls.mono (gw_at (boolIs (xval_b _ _ _ _ _) (b := false) (by assumption))) ?_; rintro e w1 ⟨rfl, q, rfl⟩) | (refine Calls.mono (gw_at (xval_b _ _ _ _ _)) ?_; rintro e w1 ⟨rfl, q, rfl⟩))))
    all_goals (go_ret; refine ⟨?_, bBel⟩; first | rfl | (simp [ovl8, Bx.ovl, val4_eq, h1]; done) | (simp [ovl8, Bx.ovl, val4_eq, h1]; omega) | (simp [ovl8, Bx.ovl, val4_eq, h1]; rw [Bool.eq_iff_iff]; first | (simp; done) | (simp; omega)))
  cases h2 : val4 bx0 by0 bx1 by1
  focus
    go_enter Tryz.func38, Tryz.ntmps38
    go_wp2_with (first | (go_at_call 51; (first | (refine Calls.mono (gw_at (boolIs (xval_b _ _ _ _ _) (b := true) (by assumption))) ?_; rintro e w1 ⟨rfl, q, rfl⟩) | (refine Calls.mono (gw_at (boolIs (xval_b _ _ _ _ _) (b := false) (by assumption))) ?_; rintro e w1 ⟨rfl, q, rfl⟩) | (refine Calls.mono (gw_at (xval_b _ _ _ _ _)) ?_; rintro e w1 ⟨rfl, q, rfl⟩))))
    all_goals (go_ret; refine ⟨?_, bBel⟩; first | rfl | (simp [ovl8, Bx.ovl, val4_eq, h1, h2]; done) | (simp [ovl8, Bx.ovl, val4_eq, h1, h2]; omega) | (simp [ovl8, Bx.ovl, val4_eq, h1, h2]; rw [Bool.eq_iff_iff]; first | (simp; done) | (simp; omega)))
  go_enter Tryz.func38, Tryz.ntmps38
  go_wp2_with (first | (go_at_call 51; (first | (refine Calls.mono (gw_at (boolIs (xval_b _ _ _ _ _) (b := true) (by assumption))) ?_; rintro e w1 ⟨rfl, q, rfl⟩) | (refine Calls.mono (gw_at (boolIs (xval_b _ _ _ _ _) (b := false) (by assumption))) ?_; rintro e w1 ⟨rfl, q, rfl⟩) | (refine Calls.mono (gw_at (xval_b _ _ _ _ _)) ?_; rintro e w1 ⟨rfl, q, rfl⟩))))
  all_goals (go_ret; refine ⟨?_, bBel⟩; first | rfl | (simp [ovl8, Bx.ovl, val4_eq, h1, h2]; done) | (simp [ovl8, Bx.ovl, val4_eq, h1, h2]; omega) | (simp [ovl8, Bx.ovl, val4_eq, h1, h2]; rw [Bool.eq_iff_iff]; first | (simp; done) | (simp; omega)))

theorem xcon_b (ax0 ay0 ax1 ay1 bx0 by0 bx1 by1 : Int) (w : World) : Calls Tryz.prog 175 #[.agg #[.int .i64 ax0, .int .i64 ay0, .int .i64 ax1, .int .i64 ay1], .agg #[.int .i64 bx0, .int .i64 by0, .int .i64 bx1, .int .i64 by1]] w fun e w' => e = .returned (.bool (con8 ax0 ay0 ax1 ay1 bx0 by0 bx1 by1)) ∧ Below w.heap.size w w' := by
  cases h1 : val4 ax0 ay0 ax1 ay1
  focus
    go_enter Tryz.func175, Tryz.ntmps175
    go_wp2_with (first | (go_at_call 51; (first | (refine Calls.mono (gw_at (boolIs (xval_b _ _ _ _ _) (b := true) (by assumption))) ?_; rintro e w1 ⟨rfl, q, rfl⟩) | (refine Calls.mono (gw_at (boolIs (xval_b _ _ _ _ _) (b := false) (by assumption))) ?_; rintro e w1 ⟨rfl, q, rfl⟩) | (refine Calls.mono (gw_at (xval_b _ _ _ _ _)) ?_; rintro e w1 ⟨rfl, q, rfl⟩))))
    all_goals (go_ret; refine ⟨?_, bBel⟩; first | rfl | (simp [con8, Bx.con, val4_eq, h1]; done) | (simp [con8, Bx.con, val4_eq, h1]; omega) | (simp [con8, Bx.con, val4_eq, h1]; rw [Bool.eq_iff_iff]; first | (simp; done) | (simp; omega)))
  cases h2 : val4 bx0 by0 bx1 by1
  focus
    go_enter Tryz.func175, Tryz.ntmps175
    go_wp2_with (first | (go_at_call 51; (first | (refine Calls.mono (gw_at (boolIs (xval_b _ _ _ _ _) (b := true) (by assumption))) ?_; rintro e w1 ⟨rfl, q, rfl⟩) | (refine Calls.mono (gw_at (boolIs (xval_b _ _ _ _ _) (b := false) (by assumption))) ?_; rintro e w1 ⟨rfl, q, rfl⟩) | (refine Calls.mono (gw_at (xval_b _ _ _ _ _)) ?_; rintro e w1 ⟨rfl, q, rfl⟩))))
    all_goals (go_ret; refine ⟨?_, bBel⟩; first | rfl | (simp [con8, Bx.con, val4_eq, h1, h2]; done) | (simp [con8, Bx.con, val4_eq, h1, h2]; omega) | (simp [con8, Bx.con, val4_eq, h1, h2]; rw [Bool.eq_iff_iff]; first | (simp; done) | (simp; omega)))
  go_enter Tryz.func175, Tryz.ntmps175
  go_wp2_with (first | (go_at_call 51; (first | (refine Calls.mono (gw_at (boolIs (xval_b _ _ _ _ _) (b := true) (by assumption))) ?_; rintro e w1 ⟨rfl, q, rfl⟩) | (refine Calls.mono (gw_at (boolIs (xval_b _ _ _ _ _) (b := false) (by assumption))) ?_; rintro e w1 ⟨rfl, q, rfl⟩) | (refine Calls.mono (gw_at (xval_b _ _ _ _ _)) ?_; rintro e w1 ⟨rfl, q, rfl⟩))))
  all_goals (go_ret; refine ⟨?_, bBel⟩; first | rfl | (simp [con8, Bx.con, val4_eq, h1, h2]; done) | (simp [con8, Bx.con, val4_eq, h1, h2]; omega) | (simp [con8, Bx.con, val4_eq, h1, h2]; rw [Bool.eq_iff_iff]; first | (simp; done) | (simp; omega)))

set_option maxHeartbeats 800000 in
theorem xexp_b (x0 y0 x1 y1 m : Int) (w : World) : Calls Tryz.prog 49 #[.agg #[.int .i64 x0, .int .i64 y0, .int .i64 x1, .int .i64 y1], .int .i64 m] w fun e w' => e = .returned (.agg #[.int .i64 (Bx.exp ⟨x0, y0, x1, y1⟩ m).x0, .int .i64 (Bx.exp ⟨x0, y0, x1, y1⟩ m).y0, .int .i64 (Bx.exp ⟨x0, y0, x1, y1⟩ m).x1, .int .i64 (Bx.exp ⟨x0, y0, x1, y1⟩ m).y1]) ∧ Below w.heap.size w w' := by
  cases h1 : val4 x0 y0 x1 y1
  focus
    rw [show Bx.exp ⟨x0, y0, x1, y1⟩ m = Bx.zero from by simp [Bx.exp, val4_eq, h1]]
    go_enter Tryz.func49, Tryz.ntmps49
    go_wp2_with (first | (go_at_call 51; (first | (refine Calls.mono (gw_at (boolIs (xval_b _ _ _ _ _) (b := true) (by assumption))) ?_; rintro e w1 ⟨rfl, q, rfl⟩) | (refine Calls.mono (gw_at (boolIs (xval_b _ _ _ _ _) (b := false) (by assumption))) ?_; rintro e w1 ⟨rfl, q, rfl⟩) | (refine Calls.mono (gw_at (xval_b _ _ _ _ _)) ?_; rintro e w1 ⟨rfl, q, rfl⟩))) | (go_at_call 66; refine Calls.mono (gw_at (vsub_b _ _ _ _ _)) ?_; rintro e w1 ⟨rfl, q, rfl⟩) | (go_at_call 67; refine Calls.mono (gw_at (vadd_b _ _ _ _ _)) ?_; rintro e w1 ⟨rfl, q, rfl⟩))
    repeat
      apply wp_box1 10 28 9 6 #[.int .i64 0, .int .i64 0, .int .i64 0, .int .i64 0] 42 (by kernel_rfl) (by rfl) (by kernel_rfl) (by intro o ho a w; simp at ho; subst ho; simp [go_sem, ptr])
      · intro p0
        simp only [heads, ghost, List.take_succ_cons, List.take_zero, List.map_cons, List.map_nil]
        repeat (go_big_quiet_step ((first | (go_at_call 51; (first | (exact gw_call (boolIs (xval_b _ _ _ _ _) (b := true) (by assumption))) | (exact gw_call (boolIs (xval_b _ _ _ _ _) (b := false) (by assumption))) | (exact gw_call (xval_b _ _ _ _ _)))) | (go_at_call 66; exact gw_call (vsub_b _ _ _ _ _)) | (go_at_call 67; exact gw_call (vadd_b _ _ _ _ _)))))
        exact wpQuiet_nil rfl
      · intro R bB p0 nB gB  kB hK
        simp only [List.drop_succ_cons, List.drop_zero, Act.put, ptr, List.setIfInBounds_toArray, List.set_cons_succ, List.set_cons_zero]
        have cB_0 : _ = some _ := blk_cell kB 0
        have cB_1 : _ = some _ := blk_cell kB 1
        have cB_2 : _ = some _ := blk_cell kB 2
        have cB_3 : _ = some _ := blk_cell kB 3
        have fB_0 := blk_free kB 0
        have fB_1 := blk_free kB 1
        have fB_2 := blk_free kB 2
        have fB_3 := blk_free kB 3
        have oB := blk_older kB
        go_wp2_with fail
        refine box_end1 gB hK ?_ ?_
        · exact bBel
        · exact (by repeat' (first | with_reducible assumption | with_reducible apply blk_gw | with_reducible apply blk_alloc | with_reducible apply blk_set | ((with_reducible apply blk_other); focus (first | omega | assumption))))
      intro bB p0 nB  kB
      have cB_0 : _ = some _ := blk_cell kB 0
      have cB_1 : _ = some _ := blk_cell kB 1
      have cB_2 : _ = some _ := blk_cell kB 2
      have cB_3 : _ = some _ := blk_cell kB 3
      have fB_0 := blk_free kB 0
      have fB_1 := blk_free kB 1
      have fB_2 := blk_free kB 2
      have fB_3 := blk_free kB 3
      have oB := blk_older kB
      go_wp2_with (first | (go_at_call 51; (first | (refine Calls.mono (gw_at (boolIs (xval_b _ _ _ _ _) (b := true) (by assumption))) ?_; rintro e w1 ⟨rfl, q, rfl⟩) | (refine Calls.mono (gw_at (boolIs (xval_b _ _ _ _ _) (b := false) (by assumption))) ?_; rintro e w1 ⟨rfl, q, rfl⟩) | (refine Calls.mono (gw_at (xval_b _ _ _ _ _)) ?_; rintro e w1 ⟨rfl, q, rfl⟩))) | (go_at_call 66; refine Calls.mono (gw_at (vsub_b _ _ _ _ _)) ?_; rintro e w1 ⟨rfl, q, rfl⟩) | (go_at_call 67; refine Calls.mono (gw_at (vadd_b _ _ _ _ _)) ?_; rintro e w1 ⟨rfl, q, rfl⟩))
    exact bodyPost_ret (v := .agg #[.int .i64 0, .int .i64 0, .int .i64 0, .int .i64 0]) (by simp [results, Tryz.results49, go_sem]; try (first | with_reducible rfl | exact ⟨rfl, rfl⟩ | exact ⟨rfl, rfl, rfl⟩ | exact ⟨rfl, rfl, rfl, rfl⟩ | exact ⟨rfl, rfl, rfl, rfl, rfl⟩ | exact ⟨rfl, rfl, rfl, rfl, rfl, rfl⟩ | rfl)) rfl ⟨rfl, bBel⟩
  cases h2 : val4 (sub x0 m) (sub y0 m) (add x1 m) (add y1 m)
  focus
    rw [show Bx.exp ⟨x0, y0, x1, y1⟩ m = Bx.zero from by simp [Bx.exp, val4_eq, h1, Bx.mar, h2]]
    go_enter Tryz.func49, Tryz.ntmps49
    go_wp2_with (first | (go_at_call 51; (first | (refine Calls.mono (gw_at (boolIs (xval_b _ _ _ _ _) (b := true) (by assumption))) ?_; rintro e w1 ⟨rfl, q, rfl⟩) | (refine Calls.mono (gw_at (boolIs (xval_b _ _ _ _ _) (b := false) (by assumption))) ?_; rintro e w1 ⟨rfl, q, rfl⟩) | (refine Calls.mono (gw_at (xval_b _ _ _ _ _)) ?_; rintro e w1 ⟨rfl, q, rfl⟩))) | (go_at_call 66; refine Calls.mono (gw_at (vsub_b _ _ _ _ _)) ?_; rintro e w1 ⟨rfl, q, rfl⟩) | (go_at_call 67; refine Calls.mono (gw_at (vadd_b _ _ _ _ _)) ?_; rintro e w1 ⟨rfl, q, rfl⟩))
    repeat
      apply wp_box1 10 28 9 6 #[.int .i64 0, .int .i64 0, .int .i64 0, .int .i64 0] 42 (by kernel_rfl) (by rfl) (by kernel_rfl) (by intro o ho a w; simp at ho; subst ho; simp [go_sem, ptr])
      · intro p0
        simp only [heads, ghost, List.take_succ_cons, List.take_zero, List.map_cons, List.map_nil]
        repeat (go_big_quiet_step ((first | (go_at_call 51; (first | (exact gw_call (boolIs (xval_b _ _ _ _ _) (b := true) (by assumption))) | (exact gw_call (boolIs (xval_b _ _ _ _ _) (b := false) (by assumption))) | (exact gw_call (xval_b _ _ _ _ _)))) | (go_at_call 66; exact gw_call (vsub_b _ _ _ _ _)) | (go_at_call 67; exact gw_call (vadd_b _ _ _ _ _)))))
        exact wpQuiet_nil rfl
      · intro R bB p0 nB gB  kB hK
        simp only [List.drop_succ_cons, List.drop_zero, Act.put, ptr, List.setIfInBounds_toArray, List.set_cons_succ, List.set_cons_zero]
        have cB_0 : _ = some _ := blk_cell kB 0
        have cB_1 : _ = some _ := blk_cell kB 1
        have cB_2 : _ = some _ := blk_cell kB 2
        have cB_3 : _ = some _ := blk_cell kB 3
        have fB_0 := blk_free kB 0
        have fB_1 := blk_free kB 1
        have fB_2 := blk_free kB 2
        have fB_3 := blk_free kB 3
        have oB := blk_older kB
        go_wp2_with fail
        refine box_end1 gB hK ?_ ?_
        · exact bBel
        · exact (by repeat' (first | with_reducible assumption | with_reducible apply blk_gw | with_reducible apply blk_alloc | with_reducible apply blk_set | ((with_reducible apply blk_other); focus (first | omega | assumption))))
      intro bB p0 nB  kB
      have cB_0 : _ = some _ := blk_cell kB 0
      have cB_1 : _ = some _ := blk_cell kB 1
      have cB_2 : _ = some _ := blk_cell kB 2
      have cB_3 : _ = some _ := blk_cell kB 3
      have fB_0 := blk_free kB 0
      have fB_1 := blk_free kB 1
      have fB_2 := blk_free kB 2
      have fB_3 := blk_free kB 3
      have oB := blk_older kB
      go_wp2_with (first | (go_at_call 51; (first | (refine Calls.mono (gw_at (boolIs (xval_b _ _ _ _ _) (b := true) (by assumption))) ?_; rintro e w1 ⟨rfl, q, rfl⟩) | (refine Calls.mono (gw_at (boolIs (xval_b _ _ _ _ _) (b := false) (by assumption))) ?_; rintro e w1 ⟨rfl, q, rfl⟩) | (refine Calls.mono (gw_at (xval_b _ _ _ _ _)) ?_; rintro e w1 ⟨rfl, q, rfl⟩))) | (go_at_call 66; refine Calls.mono (gw_at (vsub_b _ _ _ _ _)) ?_; rintro e w1 ⟨rfl, q, rfl⟩) | (go_at_call 67; refine Calls.mono (gw_at (vadd_b _ _ _ _ _)) ?_; rintro e w1 ⟨rfl, q, rfl⟩))
    exact bodyPost_ret (v := .agg #[.int .i64 0, .int .i64 0, .int .i64 0, .int .i64 0]) (by simp [results, Tryz.results49, go_sem]; try (first | with_reducible rfl | exact ⟨rfl, rfl⟩ | exact ⟨rfl, rfl, rfl⟩ | exact ⟨rfl, rfl, rfl, rfl⟩ | exact ⟨rfl, rfl, rfl, rfl, rfl⟩ | exact ⟨rfl, rfl, rfl, rfl, rfl, rfl⟩ | rfl)) rfl ⟨rfl, bBel⟩
  rw [show Bx.exp ⟨x0, y0, x1, y1⟩ m = ⟨sub x0 m, sub y0 m, add x1 m, add y1 m⟩ from by simp [Bx.exp, val4_eq, h1, Bx.mar, h2]]
  go_enter Tryz.func49, Tryz.ntmps49
  go_wp2_with (first | (go_at_call 51; (first | (refine Calls.mono (gw_at (boolIs (xval_b _ _ _ _ _) (b := true) (by assumption))) ?_; rintro e w1 ⟨rfl, q, rfl⟩) | (refine Calls.mono (gw_at (boolIs (xval_b _ _ _ _ _) (b := false) (by assumption))) ?_; rintro e w1 ⟨rfl, q, rfl⟩) | (refine Calls.mono (gw_at (xval_b _ _ _ _ _)) ?_; rintro e w1 ⟨rfl, q, rfl⟩))) | (go_at_call 66; refine Calls.mono (gw_at (vsub_b _ _ _ _ _)) ?_; rintro e w1 ⟨rfl, q, rfl⟩) | (go_at_call 67; refine Calls.mono (gw_at (vadd_b _ _ _ _ _)) ?_; rintro e w1 ⟨rfl, q, rfl⟩))
  repeat
    apply wp_box1 10 28 9 6 #[.int .i64 0, .int .i64 0, .int .i64 0, .int .i64 0] 42 (by kernel_rfl) (by rfl) (by kernel_rfl) (by intro o ho a w; simp at ho; subst ho; simp [go_sem, ptr])
    · intro p0
      simp only [heads, ghost, List.take_succ_cons, List.take_zero, List.map_cons, List.map_nil]
      repeat (go_big_quiet_step ((first | (go_at_call 51; (first | (exact gw_call (boolIs (xval_b _ _ _ _ _) (b := true) (by assumption))) | (exact gw_call (boolIs (xval_b _ _ _ _ _) (b := false) (by assumption))) | (exact gw_call (xval_b _ _ _ _ _)))) | (go_at_call 66; exact gw_call (vsub_b _ _ _ _ _)) | (go_at_call 67; exact gw_call (vadd_b _ _ _ _ _)))))
      exact wpQuiet_nil rfl
    · intro R bB p0 nB gB  kB hK
      simp only [List.drop_succ_cons, List.drop_zero, Act.put, ptr, List.setIfInBounds_toArray, List.set_cons_succ, List.set_cons_zero]
      have cB_0 : _ = some _ := blk_cell kB 0
      have cB_1 : _ = some _ := blk_cell kB 1
      have cB_2 : _ = some _ := blk_cell kB 2
      have cB_3 : _ = some _ := blk_cell kB 3
      have fB_0 := blk_free kB 0
      have fB_1 := blk_free kB 1
      have fB_2 := blk_free kB 2
      have fB_3 := blk_free kB 3
      have oB := blk_older kB
      go_wp2_with fail
      refine box_end1 gB hK ?_ ?_
      · exact bBel
      · exact (by repeat' (first | with_reducible assumption | with_reducible apply blk_gw | with_reducible apply blk_alloc | with_reducible apply blk_set | ((with_reducible apply blk_other); focus (first | omega | assumption))))
    intro bB p0 nB  kB
    have cB_0 : _ = some _ := blk_cell kB 0
    have cB_1 : _ = some _ := blk_cell kB 1
    have cB_2 : _ = some _ := blk_cell kB 2
    have cB_3 : _ = some _ := blk_cell kB 3
    have fB_0 := blk_free kB 0
    have fB_1 := blk_free kB 1
    have fB_2 := blk_free kB 2
    have fB_3 := blk_free kB 3
    have oB := blk_older kB
    go_wp2_with (first | (go_at_call 51; (first | (refine Calls.mono (gw_at (boolIs (xval_b _ _ _ _ _) (b := true) (by assumption))) ?_; rintro e w1 ⟨rfl, q, rfl⟩) | (refine Calls.mono (gw_at (boolIs (xval_b _ _ _ _ _) (b := false) (by assumption))) ?_; rintro e w1 ⟨rfl, q, rfl⟩) | (refine Calls.mono (gw_at (xval_b _ _ _ _ _)) ?_; rintro e w1 ⟨rfl, q, rfl⟩))) | (go_at_call 66; refine Calls.mono (gw_at (vsub_b _ _ _ _ _)) ?_; rintro e w1 ⟨rfl, q, rfl⟩) | (go_at_call 67; refine Calls.mono (gw_at (vadd_b _ _ _ _ _)) ?_; rintro e w1 ⟨rfl, q, rfl⟩))
  exact bodyPost_ret (v := .agg #[.int .i64 (sub x0 m), .int .i64 (sub y0 m), .int .i64 (add x1 m), .int .i64 (add y1 m)]) (by simp [results, Tryz.results49, go_sem]; try (first | with_reducible rfl | exact ⟨rfl, rfl⟩ | exact ⟨rfl, rfl, rfl⟩ | exact ⟨rfl, rfl, rfl, rfl⟩ | exact ⟨rfl, rfl, rfl, rfl, rfl⟩ | exact ⟨rfl, rfl, rfl, rfl, rfl, rfl⟩ | rfl)) rfl ⟨rfl, bBel⟩

end Go.Proofs.YtaahgblkmajceaaGreat

set_option linter.unusedVariables false
namespace Go.Proofs.YtaahgblkmajceaaGreat
open Go.RowKit Fx

set_option maxHeartbeats 2000000 in
theorem xfp1_b (b off cap : Nat) (ps : List (Int × Int)) (w : World) (hn : 0 < ps.length) (hl : ps.length ≤ 4611686018427387904) (hk : ps.length ≤ cap) (hc : ∀ i (h : i < ps.length), w.cell? ⟨b, off + i * 2, none⟩ = some (.int .i64 ps[i].1) ∧ w.cell? ⟨b, off + i * 2 + 1, none⟩ = some (.int .i64 ps[i].2)) : Calls Tryz.prog 68 #[.slice (some ⟨b, off, none⟩) ps.length cap] w fun e w' => e = .returned (.tuple #[.agg #[.int .i64 (Bx.pts ps).x0, .int .i64 (Bx.pts ps).y0, .int .i64 (Bx.pts ps).x1, .int .i64 (Bx.pts ps).y1], .bool true]) ∧ Below w.heap.size w w' := by
  obtain ⟨c0, c1⟩ := hc 0 hn
  have ob := older_of_cell c0
  have hn' : (0 : Int) < (ps.length : Int) := by omega
  have hn1 : (1 : Int) ≤ (ps.length : Int) := by omega
  have hk1 : (1 : Int) ≤ (cap : Int) := by omega
  have hk2 : (ps.length : Int) ≤ (cap : Int) := by omega
  simp only [Nat.zero_mul, Nat.add_zero] at c0 c1
  have e1 : Bx.pts (ps.take 1) = Bx.one ps[0] := Bx.pts_one hn
  by_cases hcap : cap = 1
  focus
    have i1 : ¬ (0 : Int) < ((ps.length - 1 : Nat) : Int) := by omega
    have et : ps.take 1 = ps := by rw [List.take_of_length_le (by omega)]
    rw [et] at e1
    rw [e1]
    simp only [Bx.one]
    go_enter Tryz.func68, Tryz.ntmps68
    go_wp2_with (first | (go_at_call 89; refine Calls.mono (gw_at (xone_b _ _ _)) ?_; rintro e w1 ⟨rfl, q, rfl⟩) | (go_at_call 90; refine Calls.mono (gw_at (xbhull_b _ _ _ _ _ _ _ _ _)) ?_; rintro e w1 ⟨rfl, q, rfl⟩))
    refine wp_named ?_
    intro W hW
    have k4 : blk W (w.heap.size + 1 + q.os.size) #[.int .i64 (sat ps[0].1), .int .i64 (sat ps[0].2), .int .i64 (sat ps[0].1), .int .i64 (sat ps[0].2)] 42 := by rw [hW]; exact bBkn
    have k2 : blk W w.heap.size #[.int .i64 0, .int .i64 0, .int .i64 0, .int .i64 0] 42 := by rw [hW]; exact bBkn
    have hb : Below w.heap.size w W := by rw [hW]; exact bBel
    clear hW
    have ok4 := blk_older k4
    have ck4_0 : _ = some _ := blk_cell k4 0
    have ck4_1 : _ = some _ := blk_cell k4 1
    have ck4_2 : _ = some _ := blk_cell k4 2
    have ck4_3 : _ = some _ := blk_cell k4 3
    have fk4_0 := blk_free k4 0
    have fk4_1 := blk_free k4 1
    have fk4_2 := blk_free k4 2
    have fk4_3 := blk_free k4 3
    have ok2 := blk_older k2
    have ck2_0 : _ = some _ := blk_cell k2 0
    have ck2_1 : _ = some _ := blk_cell k2 1
    have ck2_2 : _ = some _ := blk_cell k2 2
    have ck2_3 : _ = some _ := blk_cell k2 3
    have fk2_0 := blk_free k2 0
    have fk2_1 := blk_free k2 1
    have fk2_2 := blk_free k2 2
    have fk2_3 := blk_free k2 3
    go_loopw [18] (fun i wr => i = .int .i64 0 ∧ wr = W)
      (fun i _ => 0)
    case atStart => exact ⟨rfl, rfl⟩
    case round =>
      obtain ⟨rfl, rfl⟩ := hrel
      go_wp2_with (first | (go_at_call 89; refine Calls.mono (gw_at (xone_b _ _ _)) ?_; rintro e w1 ⟨rfl, q, rfl⟩) | (go_at_call 90; refine Calls.mono (gw_at (xbhull_b _ _ _ _ _ _ _ _ _)) ?_; rintro e w1 ⟨rfl, q, rfl⟩))
      exact bodyPost_ret (v := .tuple #[.agg #[.int .i64 (sat ps[0].1), .int .i64 (sat ps[0].2), .int .i64 (sat ps[0].1), .int .i64 (sat ps[0].2)], .bool true]) (by simp [results, Tryz.results68, go_sem, ck2_0, ck2_1, ck2_2, ck2_3]) rfl ⟨rfl, bBel⟩
  go_enter Tryz.func68, Tryz.ntmps68
  go_wp2_with (first | (go_at_call 89; refine Calls.mono (gw_at (xone_b _ _ _)) ?_; rintro e w1 ⟨rfl, q, rfl⟩) | (go_at_call 90; refine Calls.mono (gw_at (xbhull_b _ _ _ _ _ _ _ _ _)) ?_; rintro e w1 ⟨rfl, q, rfl⟩))
  have g5 : w.heap.size < w.heap.size + 1 + q.os.size := by omega
  generalize hB5 : w.heap.size + 1 + q.os.size = B5 at *
  go_loopw [18] (fun i wr => ∃ k : Nat, k + 1 ≤ ps.length ∧ i = .int .i64 k ∧ blk wr B5 #[.int .i64 (Bx.pts (ps.take (k + 1))).x0, .int .i64 (Bx.pts (ps.take (k + 1))).y0, .int .i64 (Bx.pts (ps.take (k + 1))).x1, .int .i64 (Bx.pts (ps.take (k + 1))).y1] 42 ∧
      blk wr w.heap.size #[.int .i64 0, .int .i64 0, .int .i64 0, .int .i64 0] 42 ∧ Below w.heap.size w wr)
    (fun i _ => (ps.length - intOf i).toNat)
  case atStart =>
    refine ⟨0, by omega, rfl, ?_, ?_, bBel⟩
    · rw [e1]; exact blk_at (by simp; omega)
    · exact bBkn
  case round =>
    obtain ⟨k, k1, rfl, h5, h2, hbw⟩ := hrel
    have oh5 := blk_older h5
    have ch5_0 : _ = some _ := blk_cell h5 0
    have ch5_1 : _ = some _ := blk_cell h5 1
    have ch5_2 : _ = some _ := blk_cell h5 2
    have ch5_3 : _ = some _ := blk_cell h5 3
    have fh5_0 := blk_free h5 0
    have fh5_1 := blk_free h5 1
    have fh5_2 := blk_free h5 2
    have fh5_3 := blk_free h5 3
    have oh2 := blk_older h2
    have ch2_0 : _ = some _ := blk_cell h2 0
    have ch2_1 : _ = some _ := blk_cell h2 1
    have ch2_2 : _ = some _ := blk_cell h2 2
    have ch2_3 : _ = some _ := blk_cell h2 3
    have fh2_0 := blk_free h2 0
    have fh2_1 := blk_free h2 1
    have fh2_2 := blk_free h2 2
    have fh2_3 := blk_free h2 3
    have hsz := hbw.size
    by_cases hlt : k + 1 < ps.length
    · obtain ⟨d0, d1⟩ := hc (k + 1) hlt
      have hob := World.block_lt_of_cell? w ⟨b, off + (k + 1) * 2, none⟩ d0
      have d0' : wr.cell? ⟨b, off + (k + 1) * 2, none⟩ = some (.int .i64 ps[k + 1].1) := (hbw.cell (p := ⟨b, off + (k + 1) * 2, none⟩) hob).trans d0
      have d1' : wr.cell? ⟨b, off + (k + 1) * 2 + 1, none⟩ = some (.int .i64 ps[k + 1].2) := (hbw.cell (p := ⟨b, off + (k + 1) * 2 + 1, none⟩) hob).trans d1
      rw [show off + (k + 1) * 2 = off + 2 + k * 2 by omega] at d0' d1'
      have odb := older_of_cell d0'
      have i0 : (0 : Int) ≤ (k : Int) := by omega
      have i1 : (k : Int) < ((ps.length - 1 : Nat) : Int) := by omega
      clear c0 c1 d0 d1
      go_wp2_with (first | (go_at_call 89; refine Calls.mono (gw_at (xone_b _ _ _)) ?_; rintro e w1 ⟨rfl, q, rfl⟩) | (go_at_call 90; refine Calls.mono (gw_at (xbhull_b _ _ _ _ _ _ _ _ _)) ?_; rintro e w1 ⟨rfl, q, rfl⟩))
      refine wp_region_gw_tail 4 (by kernel_rfl) (by kernel_rfl) ?_
      simp only [List.take_succ_cons, List.take_zero, List.drop_succ_cons, List.drop_zero]
      repeat (go_big_quiet_step ((first | (go_at_call 89; exact gw_call (xone_b _ _ _)) | (go_at_call 90; exact gw_call (xbhull_b _ _ _ _ _ _ _ _ _)))))
      refine wpQuiet_nil ?_
      intro w1 hw1
      obtain ⟨q, rfl⟩ := hw1
      go_wp2_with (first | (go_at_call 89; refine Calls.mono (gw_at (xone_b _ _ _)) ?_; rintro e w1 ⟨rfl, q, rfl⟩) | (go_at_call 90; refine Calls.mono (gw_at (xbhull_b _ _ _ _ _ _ _ _ _)) ?_; rintro e w1 ⟨rfl, q, rfl⟩))
      refine ⟨⟨k + 1, by omega, by go_num, ?_, ?_, bBel⟩, by (try go_num); simp [intOf]; (try omega)⟩
      · rw [Bx.pts_succ (by omega) hlt]; exact (by apply blk_of; (repeat (first | with_reducible exact h5 | with_reducible apply blk_drew | with_reducible apply blk_gw | with_reducible apply blk_alloc | with_reducible apply blk_set | ((with_reducible apply blk_other); focus omega))); (first | rfl | simp))
      · exact (by apply blk_of; (repeat (first | with_reducible exact h2 | with_reducible apply blk_drew | with_reducible apply blk_gw | with_reducible apply blk_alloc | with_reducible apply blk_set | ((with_reducible apply blk_other); focus omega))); (first | rfl | simp))
    · have ek : k + 1 = ps.length := by omega
      have i1 : ¬ (k : Int) < ((ps.length - 1 : Nat) : Int) := by omega
      have et : ps.take (k + 1) = ps := by rw [ek]; exact List.take_length
      rw [et] at *
      clear c0 c1
      go_wp2_with (first | (go_at_call 89; refine Calls.mono (gw_at (xone_b _ _ _)) ?_; rintro e w1 ⟨rfl, q, rfl⟩) | (go_at_call 90; refine Calls.mono (gw_at (xbhull_b _ _ _ _ _ _ _ _ _)) ?_; rintro e w1 ⟨rfl, q, rfl⟩))
      exact bodyPost_ret (v := .tuple #[.agg #[.int .i64 (Bx.pts ps).x0, .int .i64 (Bx.pts ps).y0, .int .i64 (Bx.pts ps).x1, .int .i64 (Bx.pts ps).y1], .bool true]) (by simp [results, Tryz.results68, go_sem, ch2_0, ch2_1, ch2_2, ch2_3]) rfl ⟨rfl, bBel⟩

theorem xfp0_b (A : Option Addr) (cap : Nat) (w : World) : Calls Tryz.prog 68 #[.slice A 0 cap] w fun e w' => e = .returned (.tuple #[.agg #[.int .i64 0, .int .i64 0, .int .i64 0, .int .i64 0], .bool false]) ∧ Below w.heap.size w w' := by
  go_enter Tryz.func68, Tryz.ntmps68
  go_wp2_with (first | (go_at_call 89; refine Calls.mono (gw_at (xone_b _ _ _)) ?_; rintro e w1 ⟨rfl, q, rfl⟩) | (go_at_call 90; refine Calls.mono (gw_at (xbhull_b _ _ _ _ _ _ _ _ _)) ?_; rintro e w1 ⟨rfl, q, rfl⟩))
  repeat
    refine wp_region_gw_tail 4 (by kernel_rfl) (by kernel_rfl) ?_
    simp only [List.take_succ_cons, List.take_zero, List.drop_succ_cons, List.drop_zero]
    repeat (go_big_quiet_step ((first | (go_at_call 89; exact gw_call (xone_b _ _ _)) | (go_at_call 90; exact gw_call (xbhull_b _ _ _ _ _ _ _ _ _)))))
    refine wpQuiet_nil ?_
    intro w1 hw1
    obtain ⟨q, rfl⟩ := hw1
    go_wp2_with (first | (go_at_call 89; refine Calls.mono (gw_at (xone_b _ _ _)) ?_; rintro e w1 ⟨rfl, q, rfl⟩) | (go_at_call 90; refine Calls.mono (gw_at (xbhull_b _ _ _ _ _ _ _ _ _)) ?_; rintro e w1 ⟨rfl, q, rfl⟩))
  exact bodyPost_ret (v := .tuple #[.agg #[.int .i64 0, .int .i64 0, .int .i64 0, .int .i64 0], .bool false]) (by simp [results, Tryz.results68, go_sem]) rfl ⟨rfl, bBel⟩

theorem xfp_b (A : Option Addr) (cap : Nat) (ps : List (Int × Int)) (w : World) (h : Pts w A ps) (hl : ps.length ≤ 4611686018427387904) (hk : ps.length ≤ cap) : Calls Tryz.prog 68 #[.slice A ps.length cap] w fun e w' => e = .returned (.tuple #[.agg #[.int .i64 (Bx.pts ps).x0, .int .i64 (Bx.pts ps).y0, .int .i64 (Bx.pts ps).x1, .int .i64 (Bx.pts ps).y1], .bool (decide (0 < ps.length))]) ∧ Below w.heap.size w w' := by
  by_cases h0 : 0 < ps.length
  · obtain ⟨b, off, rfl, hc⟩ := h.open h0
    rw [decide_eq_true h0]
    exact xfp1_b b off cap ps w h0 hl hk hc
  · obtain rfl : ps = [] := List.eq_nil_of_length_eq_zero (by omega)
    exact xfp0_b A cap w

theorem xfp2_b (ax ay bx b_y : Int) (b cap : Nat) (t : TypeId) (w : World) (h : blk w b #[.int .i64 ax, .int .i64 ay, .int .i64 bx, .int .i64 b_y] t) (hk : 2 ≤ cap) : Calls Tryz.prog 68 #[.slice (some ⟨b, 0, none⟩) 2 cap] w fun e w' => e = .returned (.tuple #[.agg #[.int .i64 (min (sat ax) (sat bx)), .int .i64 (min (sat ay) (sat b_y)), .int .i64 (max (sat ax) (sat bx)), .int .i64 (max (sat ay) (sat b_y))], .bool true]) ∧ Below w.heap.size w w' := by
  have k := xfp1_b b 0 cap [(ax, ay), (bx, b_y)] w (by simp) (by simp) (by simpa using hk) (fun i hi => by
    match i, hi with
    | 0, _ => exact ⟨blk_cell h 0, blk_cell h 1⟩
    | 1, _ => exact ⟨blk_cell h 2, blk_cell h 3⟩
    | n + 2, h => simp at h; omega)
  simp only [Bx.pts, List.foldl, Bx.one, Bx.step] at k
  exact k

end Go.Proofs.YtaahgblkmajceaaGreat
