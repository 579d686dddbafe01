/- Contracts of package vec2 and of its reference: each returns what the Lean functions of the same meaning give, component by component, and nothing that existed has changed. No conditions. -/
import Derived.Test.YtconfbdnhalmoaaFixBl
import Derived.Test.YtconfbdnhalmoaaBox
import Derived.Test.YtconfbdnhalmoaaVec
set_option linter.unusedVariables false
namespace Go.Proofs.Ytconfbdnhalmoaa
open Go.RowKit Fx

theorem vsat_b (x y : Int) (w : World) : Calls Try.prog 43 #[.agg #[.int .i64 x, .int .i64 y]] w fun e w' => e = .returned (.agg #[.int .i64 (sat x), .int .i64 (sat y)]) ∧ Below w.heap.size w w' := by
  go_enter Try.func43, Try.ntmps43
  go_wp2_with (first | (go_at_call 22; refine Calls.mono (gw_at (sat_b _ _)) ?_; rintro e w1 ⟨rfl, q, rfl⟩))
  repeat
    refine wp_region_gw_tail 7 (by kernel_rfl) (by kernel_rfl) ?_
    simp only [List.take_succ_cons, List.take_zero, List.drop_succ_cons, List.drop_zero]
    repeat (go_big_quiet_step ((first | (go_at_call 22; exact gw_call (sat_b _ _)))))
    refine wpQuiet_nil ?_
    intro w1 hw1
    obtain ⟨q, rfl⟩ := hw1
    go_wp2_with (first | (go_at_call 22; refine Calls.mono (gw_at (sat_b _ _)) ?_; rintro e w1 ⟨rfl, q, rfl⟩))
  exact bodyPost_ret (v := .agg #[.int .i64 (sat x), .int .i64 (sat y)]) (by simp [results, Try.results43, go_sem]; try (first | with_reducible rfl | exact ⟨rfl, rfl⟩ | exact ⟨rfl, rfl, rfl⟩ | exact ⟨rfl, rfl, rfl, rfl⟩ | exact ⟨rfl, rfl, rfl, rfl, rfl⟩ | exact ⟨rfl, rfl, rfl, rfl, rfl, rfl⟩ | rfl)) rfl ⟨rfl, (by repeat (first | with_reducible exact Below.refl _ _ | with_reducible assumption | refine bgw ?_ (by first | (simp; done) | (simp; omega) | omega) _ | refine Below.setCell ?_ (by first | exact Nat.le_of_not_lt (by assumption) | (simp; done) | (simp; omega) | omega) _ | refine Below.alloc ?_ (by first | (simp; done) | (simp; omega) | omega) _ | refine Below.drew ?_))⟩

theorem vdiff_b (ax ay bx b_y : Int) (w : World) : Calls Try.prog 54 #[.agg #[.int .i64 ax, .int .i64 ay], .agg #[.int .i64 bx, .int .i64 b_y]] w fun e w' => e = .returned (.agg #[.int .i64 (sat ax - sat bx), .int .i64 (sat ay - sat b_y)]) ∧ Below w.heap.size w w' := by
  have a1 := sat_le ax; have a2 := sat_ge ax; have a3 := sat_le ay; have a4 := sat_ge ay
  have b1 := sat_le bx; have b2 := sat_ge bx; have b3 := sat_le b_y; have b4 := sat_ge b_y
  go_enter Try.func54, Try.ntmps54
  go_wp2_with (first | (go_at_call 43; refine Calls.mono (gw_at (vsat_b _ _ _)) ?_; rintro e w1 ⟨rfl, q, rfl⟩))
  repeat
    refine wp_region_gw_tail 4 (by kernel_rfl) (by kernel_rfl) ?_
    simp only [List.take_succ_cons, List.take_zero, List.drop_succ_cons, List.drop_zero]
    repeat (go_big_quiet_step ((first | (go_at_call 43; exact gw_call (vsat_b _ _ _)))))
    refine wpQuiet_nil ?_
    intro w1 hw1
    obtain ⟨q, rfl⟩ := hw1
    go_wp2_with (first | (go_at_call 43; refine Calls.mono (gw_at (vsat_b _ _ _)) ?_; rintro e w1 ⟨rfl, q, rfl⟩))
  exact bodyPost_ret (v := .agg #[.int .i64 (sat ax - sat bx), .int .i64 (sat ay - sat b_y)]) (by simp [results, Try.results54, go_sem]; try (first | with_reducible rfl | exact ⟨rfl, rfl⟩ | exact ⟨rfl, rfl, rfl⟩ | exact ⟨rfl, rfl, rfl, rfl⟩ | exact ⟨rfl, rfl, rfl, rfl, rfl⟩ | exact ⟨rfl, rfl, rfl, rfl, rfl, rfl⟩ | rfl)) rfl ⟨rfl, (by repeat (first | with_reducible exact Below.refl _ _ | with_reducible assumption | refine bgw ?_ (by first | (simp; done) | (simp; omega) | omega) _ | refine Below.setCell ?_ (by first | exact Nat.le_of_not_lt (by assumption) | (simp; done) | (simp; omega) | omega) _ | refine Below.alloc ?_ (by first | (simp; done) | (simp; omega) | omega) _ | refine Below.drew ?_))⟩

theorem cnan_b (x : Int) (w : World) : Calls Try.prog 69 #[.int .i64 x] w fun e w' => e = .returned (.bool false) ∧ Below w.heap.size w w' := by
  go_enter Try.func69, Try.ntmps69
  go_wp2_with fail
  go_ret
  exact ⟨rfl, (by repeat (first | with_reducible exact Below.refl _ _ | with_reducible assumption | refine bgw ?_ (by first | (simp; done) | (simp; omega) | omega) _ | refine Below.setCell ?_ (by first | exact Nat.le_of_not_lt (by assumption) | (simp; done) | (simp; omega) | omega) _ | refine Below.alloc ?_ (by first | (simp; done) | (simp; omega) | omega) _ | refine Below.drew ?_))⟩

theorem cmp_b (x y : Int) (w : World) : Calls Try.prog 67 #[.int .i64 x, .int .i64 y] w fun e w' => e = .returned (.int .i64 (sgn (x - y))) ∧ Below w.heap.size w w' := by
  by_cases hp : y < x
  · rw [sgn_pos (by omega)]
    go_enter Try.func67, Try.ntmps67
    go_wp2_with (first | (go_at_call 69; refine Calls.mono (gw_at (cnan_b _ _)) ?_; rintro e w1 ⟨rfl, q, rfl⟩))
    go_ret
    exact ⟨rfl, (by repeat (first | with_reducible exact Below.refl _ _ | with_reducible assumption | refine bgw ?_ (by first | (simp; done) | (simp; omega) | omega) _ | refine Below.setCell ?_ (by first | exact Nat.le_of_not_lt (by assumption) | (simp; done) | (simp; omega) | omega) _ | refine Below.alloc ?_ (by first | (simp; done) | (simp; omega) | omega) _ | refine Below.drew ?_))⟩
  · by_cases hn : x < y
    · rw [sgn_neg (by omega)]
      go_enter Try.func67, Try.ntmps67
      go_wp2_with (first | (go_at_call 69; refine Calls.mono (gw_at (cnan_b _ _)) ?_; rintro e w1 ⟨rfl, q, rfl⟩))
      go_ret
      exact ⟨rfl, (by repeat (first | with_reducible exact Below.refl _ _ | with_reducible assumption | refine bgw ?_ (by first | (simp; done) | (simp; omega) | omega) _ | refine Below.setCell ?_ (by first | exact Nat.le_of_not_lt (by assumption) | (simp; done) | (simp; omega) | omega) _ | refine Below.alloc ?_ (by first | (simp; done) | (simp; omega) | omega) _ | refine Below.drew ?_))⟩
    · rw [sgn_zero (by omega) (by omega)]
      go_enter Try.func67, Try.ntmps67
      go_wp2_with (first | (go_at_call 69; refine Calls.mono (gw_at (cnan_b _ _)) ?_; rintro e w1 ⟨rfl, q, rfl⟩))
      go_ret
      exact ⟨rfl, (by repeat (first | with_reducible exact Below.refl _ _ | with_reducible assumption | refine bgw ?_ (by first | (simp; done) | (simp; omega) | omega) _ | refine Below.setCell ?_ (by first | exact Nat.le_of_not_lt (by assumption) | (simp; done) | (simp; omega) | omega) _ | refine Below.alloc ?_ (by first | (simp; done) | (simp; omega) | omega) _ | refine Below.drew ?_))⟩

theorem vsub_b (ax ay bx b_y : Int) (w : World) : Calls Try.prog 20 #[.agg #[.int .i64 ax, .int .i64 ay], .agg #[.int .i64 bx, .int .i64 b_y]] w fun e w' => e = .returned (.agg #[.int .i64 (sub ax bx), .int .i64 (sub ay b_y)]) ∧ Below w.heap.size w w' := by
  go_enter Try.func20, Try.ntmps20
  go_wp2_with (first | (go_at_call 44; refine Calls.mono (gw_at (sub_b _ _ _)) ?_; rintro e w1 ⟨rfl, q, rfl⟩))
  repeat
    refine wp_region_gw_tail 11 (by kernel_rfl) (by kernel_rfl) ?_
    simp only [List.take_succ_cons, List.take_zero, List.drop_succ_cons, List.drop_zero]
    repeat (go_big_quiet_step ((first | (go_at_call 44; exact gw_call (sub_b _ _ _)))))
    refine wpQuiet_nil ?_
    intro w1 hw1
    obtain ⟨q, rfl⟩ := hw1
    go_wp2_with (first | (go_at_call 44; refine Calls.mono (gw_at (sub_b _ _ _)) ?_; rintro e w1 ⟨rfl, q, rfl⟩))
  exact bodyPost_ret (v := .agg #[.int .i64 (sub ax bx), .int .i64 (sub ay b_y)]) (by simp [results, Try.results20, go_sem]; try (first | with_reducible rfl | exact ⟨rfl, rfl⟩ | exact ⟨rfl, rfl, rfl⟩ | exact ⟨rfl, rfl, rfl, rfl⟩ | exact ⟨rfl, rfl, rfl, rfl, rfl⟩ | exact ⟨rfl, rfl, rfl, rfl, rfl, rfl⟩ | rfl)) rfl ⟨rfl, (by repeat (first | with_reducible exact Below.refl _ _ | with_reducible assumption | refine bgw ?_ (by first | (simp; done) | (simp; omega) | omega) _ | refine Below.setCell ?_ (by first | exact Nat.le_of_not_lt (by assumption) | (simp; done) | (simp; omega) | omega) _ | refine Below.alloc ?_ (by first | (simp; done) | (simp; omega) | omega) _ | refine Below.drew ?_))⟩

theorem vlerp_b (ax ay bx b_y t : Int) (w : World) : Calls Try.prog 37 #[.agg #[.int .i64 ax, .int .i64 ay], .agg #[.int .i64 bx, .int .i64 b_y], .int .i64 t] w fun e w' => e = .returned (.agg #[.int .i64 (lerp ax bx t), .int .i64 (lerp ay b_y t)]) ∧ Below w.heap.size w w' := by
  go_enter Try.func37, Try.ntmps37
  go_wp2_with (first | (go_at_call 56; refine Calls.mono (gw_at (lerp_b _ _ _ _)) ?_; rintro e w1 ⟨rfl, q, rfl⟩))
  repeat
    refine wp_region_gw_tail 13 (by kernel_rfl) (by kernel_rfl) ?_
    simp only [List.take_succ_cons, List.take_zero, List.drop_succ_cons, List.drop_zero]
    repeat (go_big_quiet_step ((first | (go_at_call 56; exact gw_call (lerp_b _ _ _ _)))))
    refine wpQuiet_nil ?_
    intro w1 hw1
    obtain ⟨q, rfl⟩ := hw1
    go_wp2_with (first | (go_at_call 56; refine Calls.mono (gw_at (lerp_b _ _ _ _)) ?_; rintro e w1 ⟨rfl, q, rfl⟩))
  exact bodyPost_ret (v := .agg #[.int .i64 (lerp ax bx t), .int .i64 (lerp ay b_y t)]) (by simp [results, Try.results37, go_sem]; try (first | with_reducible rfl | exact ⟨rfl, rfl⟩ | exact ⟨rfl, rfl, rfl⟩ | exact ⟨rfl, rfl, rfl, rfl⟩ | exact ⟨rfl, rfl, rfl, rfl, rfl⟩ | exact ⟨rfl, rfl, rfl, rfl, rfl, rfl⟩ | rfl)) rfl ⟨rfl, (by repeat (first | with_reducible exact Below.refl _ _ | with_reducible assumption | refine bgw ?_ (by first | (simp; done) | (simp; omega) | omega) _ | refine Below.setCell ?_ (by first | exact Nat.le_of_not_lt (by assumption) | (simp; done) | (simp; omega) | omega) _ | refine Below.alloc ?_ (by first | (simp; done) | (simp; omega) | omega) _ | refine Below.drew ?_))⟩

theorem vlen_b (x y : Int) (w : World) : Calls Try.prog 19 #[.agg #[.int .i64 x, .int .i64 y]] w fun e w' => e = .returned (.int .i64 (vlen x y)) ∧ Below w.heap.size w w' := by
  have h1 := satmul x x; have h2 := satmul y y
  go_enter Try.func19, Try.ntmps19
  go_wp2_with (first | (go_at_call 43; refine Calls.mono (gw_at (vsat_b _ _ _)) ?_; rintro e w1 ⟨rfl, q, rfl⟩) | (go_at_call 32; refine Calls.mono (gw_at (isq_b _ _)) ?_; rintro e w1 ⟨rfl, q, rfl⟩))
  go_ret
  exact ⟨rfl, (by repeat (first | with_reducible exact Below.refl _ _ | with_reducible assumption | refine bgw ?_ (by first | (simp; done) | (simp; omega) | omega) _ | refine Below.setCell ?_ (by first | exact Nat.le_of_not_lt (by assumption) | (simp; done) | (simp; omega) | omega) _ | refine Below.alloc ?_ (by first | (simp; done) | (simp; omega) | omega) _ | refine Below.drew ?_))⟩

theorem orient_b (ax ay bx b_y cx cy : Int) (w : World) : Calls Try.prog 57 #[.agg #[.int .i64 ax, .int .i64 ay], .agg #[.int .i64 bx, .int .i64 b_y], .agg #[.int .i64 cx, .int .i64 cy]] w fun e w' => e = .returned (.int .i64 (orient ax ay bx b_y cx cy)) ∧ Below w.heap.size w w' := by
  have d1 := diffmul (a := bx) (b := ax) (c := cy) (d := ay); have d2 := diffmul (a := b_y) (b := ay) (c := cx) (d := ax)
  go_enter Try.func57, Try.ntmps57
  go_wp2_with (first | (go_at_call 54; refine Calls.mono (gw_at (vdiff_b _ _ _ _ _)) ?_; rintro e w1 ⟨rfl, q, rfl⟩) | (go_at_call 67; refine Calls.mono (gw_at (cmp_b _ _ _)) ?_; rintro e w1 ⟨rfl, q, rfl⟩))
  repeat
    apply wp_box2 8 26 6 7 7 8 #[.int .i64 0, .int .i64 0] #[.int .i64 0, .int .i64 0] 23 23 (by kernel_rfl) (by rfl) (by kernel_rfl) (by rfl) (by intro o ho a w; simp at ho; subst ho; simp [go_sem, ptr]) (by intro o ho a w; simp at ho; subst ho; simp [go_sem, ptr])
    · intro p0
      simp only [heads, ghost, List.take_succ_cons, List.take_zero, List.map_cons, List.map_nil]
      repeat (go_big_quiet_step ((first | (go_at_call 54; exact gw_call (vdiff_b _ _ _ _ _)) | (go_at_call 67; exact gw_call (cmp_b _ _ _)))))
      exact wpQuiet_nil rfl
    · intro R bB1 bB2 p0 nB1 nB2 gB1 gB2 neB01 neB01' kB1 kB2 hK
      simp only [List.drop_succ_cons, List.drop_zero, Act.put, ptr, List.setIfInBounds_toArray, List.set_cons_succ, List.set_cons_zero]
      have cB1_0 : _ = some _ := blk_cell kB1 0
      have cB1_1 : _ = some _ := blk_cell kB1 1
      have cB2_0 : _ = some _ := blk_cell kB2 0
      have cB2_1 : _ = some _ := blk_cell kB2 1
      have fB1_0 := blk_free kB1 0
      have fB1_1 := blk_free kB1 1
      have fB2_0 := blk_free kB2 0
      have fB2_1 := blk_free kB2 1
      have oB1 := blk_older kB1
      have oB2 := blk_older kB2
      go_wp2_with fail
      refine box_end2 gB1 gB2 hK ?_ ?_ ?_
      · exact (by repeat (first | with_reducible exact Below.refl _ _ | with_reducible assumption | refine bgw ?_ (by first | (simp; done) | (simp; omega) | omega) _ | refine Below.setCell ?_ (by first | exact Nat.le_of_not_lt (by assumption) | (simp; done) | (simp; omega) | omega) _ | refine Below.alloc ?_ (by first | (simp; done) | (simp; omega) | omega) _ | refine Below.drew ?_))
      · exact (by repeat' (first | with_reducible assumption | with_reducible apply blk_gw | with_reducible apply blk_alloc | with_reducible apply blk_set | ((with_reducible apply blk_other); focus (first | omega | assumption))))
      · exact (by repeat' (first | with_reducible assumption | with_reducible apply blk_gw | with_reducible apply blk_alloc | with_reducible apply blk_set | ((with_reducible apply blk_other); focus (first | omega | assumption))))
    intro bB1 bB2 p0 nB1 nB2 neB01 neB01' kB1 kB2
    have cB1_0 : _ = some _ := blk_cell kB1 0
    have cB1_1 : _ = some _ := blk_cell kB1 1
    have cB2_0 : _ = some _ := blk_cell kB2 0
    have cB2_1 : _ = some _ := blk_cell kB2 1
    have fB1_0 := blk_free kB1 0
    have fB1_1 := blk_free kB1 1
    have fB2_0 := blk_free kB2 0
    have fB2_1 := blk_free kB2 1
    have oB1 := blk_older kB1
    have oB2 := blk_older kB2
    go_wp2_with (first | (go_at_call 54; refine Calls.mono (gw_at (vdiff_b _ _ _ _ _)) ?_; rintro e w1 ⟨rfl, q, rfl⟩) | (go_at_call 67; refine Calls.mono (gw_at (cmp_b _ _ _)) ?_; rintro e w1 ⟨rfl, q, rfl⟩))
  go_ret
  exact ⟨rfl, (by repeat (first | with_reducible exact Below.refl _ _ | with_reducible assumption | refine bgw ?_ (by first | (simp; done) | (simp; omega) | omega) _ | refine Below.setCell ?_ (by first | exact Nat.le_of_not_lt (by assumption) | (simp; done) | (simp; omega) | omega) _ | refine Below.alloc ?_ (by first | (simp; done) | (simp; omega) | omega) _ | refine Below.drew ?_))⟩

theorem dist2_b (ax ay bx b_y : Int) (w : World) : Calls Try.prog 33 #[.agg #[.int .i64 ax, .int .i64 ay], .agg #[.int .i64 bx, .int .i64 b_y]] w fun e w' => e = .returned (.int .i64 (dist2 ax ay bx b_y)) ∧ Below w.heap.size w w' := by
  have d1 := diffmul (a := bx) (b := ax) (c := bx) (d := ax); have d2 := diffmul (a := b_y) (b := ay) (c := b_y) (d := ay)
  go_enter Try.func33, Try.ntmps33
  go_wp2_with (first | (go_at_call 54; refine Calls.mono (gw_at (vdiff_b _ _ _ _ _)) ?_; rintro e w1 ⟨rfl, q, rfl⟩))
  go_ret
  exact ⟨rfl, (by repeat (first | with_reducible exact Below.refl _ _ | with_reducible assumption | refine bgw ?_ (by first | (simp; done) | (simp; omega) | omega) _ | refine Below.setCell ?_ (by first | exact Nat.le_of_not_lt (by assumption) | (simp; done) | (simp; omega) | omega) _ | refine Below.alloc ?_ (by first | (simp; done) | (simp; omega) | omega) _ | refine Below.drew ?_))⟩

theorem rvsat_b (x y : Int) (w : World) : Calls Try.prog 52 #[.agg #[.int .i64 x, .int .i64 y]] w fun e w' => e = .returned (.agg #[.int .i64 (sat x), .int .i64 (sat y)]) ∧ Below w.heap.size w w' := by
  go_enter Try.func52, Try.ntmps52
  go_wp2_with (first | (go_at_call 34; refine Calls.mono (gw_at (rsat_b _ _)) ?_; rintro e w1 ⟨rfl, q, rfl⟩))
  repeat
    refine wp_region_gw_tail 7 (by kernel_rfl) (by kernel_rfl) ?_
    simp only [List.take_succ_cons, List.take_zero, List.drop_succ_cons, List.drop_zero]
    repeat (go_big_quiet_step ((first | (go_at_call 34; exact gw_call (rsat_b _ _)))))
    refine wpQuiet_nil ?_
    intro w1 hw1
    obtain ⟨q, rfl⟩ := hw1
    go_wp2_with (first | (go_at_call 34; refine Calls.mono (gw_at (rsat_b _ _)) ?_; rintro e w1 ⟨rfl, q, rfl⟩))
  exact bodyPost_ret (v := .agg #[.int .i64 (sat x), .int .i64 (sat y)]) (by simp [results, Try.results52, go_sem]; try (first | with_reducible rfl | exact ⟨rfl, rfl⟩ | exact ⟨rfl, rfl, rfl⟩ | exact ⟨rfl, rfl, rfl, rfl⟩ | exact ⟨rfl, rfl, rfl, rfl, rfl⟩ | exact ⟨rfl, rfl, rfl, rfl, rfl, rfl⟩ | rfl)) rfl ⟨rfl, (by repeat (first | with_reducible exact Below.refl _ _ | with_reducible assumption | refine bgw ?_ (by first | (simp; done) | (simp; omega) | omega) _ | refine Below.setCell ?_ (by first | exact Nat.le_of_not_lt (by assumption) | (simp; done) | (simp; omega) | omega) _ | refine Below.alloc ?_ (by first | (simp; done) | (simp; omega) | omega) _ | refine Below.drew ?_))⟩

theorem rvlerp_b (ax ay bx b_y t : Int) (w : World) : Calls Try.prog 29 #[.agg #[.int .i64 ax, .int .i64 ay], .agg #[.int .i64 bx, .int .i64 b_y], .int .i64 t] w fun e w' => e = .returned (.agg #[.int .i64 (lerp ax bx t), .int .i64 (lerp ay b_y t)]) ∧ Below w.heap.size w w' := by
  go_enter Try.func29, Try.ntmps29
  go_wp2_with (first | (go_at_call 49; refine Calls.mono (gw_at (rlerp_b _ _ _ _)) ?_; rintro e w1 ⟨rfl, q, rfl⟩))
  repeat
    refine wp_region_gw_tail 13 (by kernel_rfl) (by kernel_rfl) ?_
    simp only [List.take_succ_cons, List.take_zero, List.drop_succ_cons, List.drop_zero]
    repeat (go_big_quiet_step ((first | (go_at_call 49; exact gw_call (rlerp_b _ _ _ _)))))
    refine wpQuiet_nil ?_
    intro w1 hw1
    obtain ⟨q, rfl⟩ := hw1
    go_wp2_with (first | (go_at_call 49; refine Calls.mono (gw_at (rlerp_b _ _ _ _)) ?_; rintro e w1 ⟨rfl, q, rfl⟩))
  exact bodyPost_ret (v := .agg #[.int .i64 (lerp ax bx t), .int .i64 (lerp ay b_y t)]) (by simp [results, Try.results29, go_sem]; try (first | with_reducible rfl | exact ⟨rfl, rfl⟩ | exact ⟨rfl, rfl, rfl⟩ | exact ⟨rfl, rfl, rfl, rfl⟩ | exact ⟨rfl, rfl, rfl, rfl, rfl⟩ | exact ⟨rfl, rfl, rfl, rfl, rfl, rfl⟩ | rfl)) rfl ⟨rfl, (by repeat (first | with_reducible exact Below.refl _ _ | with_reducible assumption | refine bgw ?_ (by first | (simp; done) | (simp; omega) | omega) _ | refine Below.setCell ?_ (by first | exact Nat.le_of_not_lt (by assumption) | (simp; done) | (simp; omega) | omega) _ | refine Below.alloc ?_ (by first | (simp; done) | (simp; omega) | omega) _ | refine Below.drew ?_))⟩

theorem rorient_b (ax ay bx b_y cx cy : Int) (w : World) : Calls Try.prog 41 #[.agg #[.int .i64 ax, .int .i64 ay], .agg #[.int .i64 bx, .int .i64 b_y], .agg #[.int .i64 cx, .int .i64 cy]] w fun e w' => e = .returned (.int .i64 (orient ax ay bx b_y cx cy)) ∧ Below w.heap.size w w' := by
  have a1 := sat_le ax; have a2 := sat_ge ax; have a3 := sat_le ay; have a4 := sat_ge ay
  have b1 := sat_le bx; have b2 := sat_ge bx; have b3 := sat_le b_y; have b4 := sat_ge b_y
  have c1 := sat_le cx; have c2 := sat_ge cx; have c3 := sat_le cy; have c4 := sat_ge cy
  have d1 := diffmul (a := bx) (b := ax) (c := cy) (d := ay); have d2 := diffmul (a := b_y) (b := ay) (c := cx) (d := ax)
  unfold orient
  by_cases hp : 0 < det ax ay bx b_y cx cy
  · rw [sgn_pos hp]
    unfold det at hp
    go_enter Try.func41, Try.ntmps41
    go_wp2_with (first | (go_at_call 52; refine Calls.mono (gw_at (rvsat_b _ _ _)) ?_; rintro e w1 ⟨rfl, q, rfl⟩))
    go_ret
    exact ⟨rfl, (by repeat (first | with_reducible exact Below.refl _ _ | with_reducible assumption | refine bgw ?_ (by first | (simp; done) | (simp; omega) | omega) _ | refine Below.setCell ?_ (by first | exact Nat.le_of_not_lt (by assumption) | (simp; done) | (simp; omega) | omega) _ | refine Below.alloc ?_ (by first | (simp; done) | (simp; omega) | omega) _ | refine Below.drew ?_))⟩
  · by_cases hn : det ax ay bx b_y cx cy < 0
    · rw [sgn_neg hn]
      unfold det at hp hn
      go_enter Try.func41, Try.ntmps41
      go_wp2_with (first | (go_at_call 52; refine Calls.mono (gw_at (rvsat_b _ _ _)) ?_; rintro e w1 ⟨rfl, q, rfl⟩))
      go_ret
      exact ⟨rfl, (by repeat (first | with_reducible exact Below.refl _ _ | with_reducible assumption | refine bgw ?_ (by first | (simp; done) | (simp; omega) | omega) _ | refine Below.setCell ?_ (by first | exact Nat.le_of_not_lt (by assumption) | (simp; done) | (simp; omega) | omega) _ | refine Below.alloc ?_ (by first | (simp; done) | (simp; omega) | omega) _ | refine Below.drew ?_))⟩
    · rw [sgn_zero hp hn]
      unfold det at hp hn
      go_enter Try.func41, Try.ntmps41
      go_wp2_with (first | (go_at_call 52; refine Calls.mono (gw_at (rvsat_b _ _ _)) ?_; rintro e w1 ⟨rfl, q, rfl⟩))
      go_ret
      exact ⟨rfl, (by repeat (first | with_reducible exact Below.refl _ _ | with_reducible assumption | refine bgw ?_ (by first | (simp; done) | (simp; omega) | omega) _ | refine Below.setCell ?_ (by first | exact Nat.le_of_not_lt (by assumption) | (simp; done) | (simp; omega) | omega) _ | refine Below.alloc ?_ (by first | (simp; done) | (simp; omega) | omega) _ | refine Below.drew ?_))⟩

theorem rdist2_b (ax ay bx b_y : Int) (w : World) : Calls Try.prog 31 #[.agg #[.int .i64 ax, .int .i64 ay], .agg #[.int .i64 bx, .int .i64 b_y]] w fun e w' => e = .returned (.int .i64 (dist2 ax ay bx b_y)) ∧ Below w.heap.size w w' := by
  have a1 := sat_le ax; have a2 := sat_ge ax; have a3 := sat_le ay; have a4 := sat_ge ay
  have b1 := sat_le bx; have b2 := sat_ge bx; have b3 := sat_le b_y; have b4 := sat_ge b_y
  have d1 := diffmul (a := bx) (b := ax) (c := bx) (d := ax); have d2 := diffmul (a := b_y) (b := ay) (c := b_y) (d := ay)
  go_enter Try.func31, Try.ntmps31
  go_wp2_with (first | (go_at_call 52; refine Calls.mono (gw_at (rvsat_b _ _ _)) ?_; rintro e w1 ⟨rfl, q, rfl⟩))
  go_ret
  exact ⟨rfl, (by repeat (first | with_reducible exact Below.refl _ _ | with_reducible assumption | refine bgw ?_ (by first | (simp; done) | (simp; omega) | omega) _ | refine Below.setCell ?_ (by first | exact Nat.le_of_not_lt (by assumption) | (simp; done) | (simp; omega) | omega) _ | refine Below.alloc ?_ (by first | (simp; done) | (simp; omega) | omega) _ | refine Below.drew ?_))⟩

end Go.Proofs.Ytconfbdnhalmoaa
