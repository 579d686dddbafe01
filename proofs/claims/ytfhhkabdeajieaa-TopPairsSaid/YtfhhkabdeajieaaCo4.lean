/- Contracts of package aabb and of its reference: each returns what the Lean functions of the same meaning give, and nothing that existed has changed. No conditions.
Contracts of package aabb: each returns what the Lean functions of the same meaning give, and nothing that existed has changed. No conditions.
Contracts of package aabb, those with loops: each returns what the Lean functions of the same meaning give, and nothing that existed has changed. No conditions but the slices' own. -/
import Derived.Test.YtfhhkabdeajieaaCo2
import Derived.Test.YtfhhkabdeajieaaKi1
import Derived.Test.YtfhhkabdeajieaaKi2
import Derived.Test.YtfhhkabdeajieaaMa1
import Derived.Outline
import Derived.Test.YtfhhkabdeajieaaMa2

set_option linter.unusedVariables false
namespace Go.Proofs.Ytfhhkabdeajieaa
open Go.RowKit Fx

theorem rxsat_b (x y : Int) (w : World) : Calls Try.prog 77 #[.agg #[.int .i64 x, .int .i64 y]] w fun e w' => e = .returned (.agg #[.int .i64 (sat x), .int .i64 (sat y)]) ∧ Below w.heap.size w w' := by
  go_enter Try.func77, Try.ntmps77
  go_wp2_with (first | (go_at_call 98; refine Calls.mono (gw_at (rsat_b _ _)) ?_; rintro e w1 ⟨rfl, q, rfl⟩))
  repeat
    refine wp_region_gw_tail 7 (by kernel_rfl) (by kernel_rfl) ?_
    simp only [List.take_succ_cons, List.take_zero, List.drop_succ_cons, List.drop_zero]
    repeat (go_big_quiet_step ((first | (go_at_call 98; exact gw_call (rsat_b _ _)))))
    refine wpQuiet_nil ?_
    intro w1 hw1
    obtain ⟨q, rfl⟩ := hw1
    go_wp2_with (first | (go_at_call 98; refine Calls.mono (gw_at (rsat_b _ _)) ?_; rintro e w1 ⟨rfl, q, rfl⟩))
  exact bodyPost_ret (v := .agg #[.int .i64 (sat x), .int .i64 (sat y)]) (by simp [results, Try.results77, go_sem]; try (first | with_reducible rfl | exact ⟨rfl, rfl⟩ | exact ⟨rfl, rfl, rfl⟩ | exact ⟨rfl, rfl, rfl, rfl⟩ | exact ⟨rfl, rfl, rfl, rfl, rfl⟩ | exact ⟨rfl, rfl, rfl, rfl, rfl, rfl⟩ | rfl)) rfl ⟨rfl, bBel⟩

theorem rxval_b (x0 y0 x1 y1 : Int) (w : World) : Calls Try.prog 52 #[.agg #[.int .i64 x0, .int .i64 y0, .int .i64 x1, .int .i64 y1]] w fun e w' => e = .returned (.bool (val4 x0 y0 x1 y1)) ∧ Below w.heap.size w w' := by
  unfold val4
  have h := Bx.val_cases ⟨x0, y0, x1, y1⟩
  dsimp only at h
  rcases h with ⟨e, h1⟩ | ⟨e, h1, h2⟩ | ⟨e, h1, h2, h3⟩ | ⟨e, h1, h2, h3, h4⟩ | ⟨e, h1, h2, h3, h4, h5⟩ | ⟨e, h1, h2, h3, h4, h5, h6⟩ | ⟨e, h1, h2, h3, h4, h5, h6⟩
  all_goals
    rw [e]
    clear e
    go_enter Try.func52, Try.ntmps52
    go_wp2_with (first | (go_at_call 77; refine Calls.mono (gw_at (rxsat_b _ _ _)) ?_; rintro e w1 ⟨rfl, q, rfl⟩))
    repeat
      refine wp_region_gw (by kernel_rfl) (by kernel_rfl) ?_
      repeat (go_big_quiet_step ((first | (go_at_call 77; exact gw_call (rxsat_b _ _ _)))))
      refine wpQuiet_nil ?_
      intro w1 hw1
      obtain ⟨q, rfl⟩ := hw1
      go_wp2_with (first | (go_at_call 77; refine Calls.mono (gw_at (rxsat_b _ _ _)) ?_; rintro e w1 ⟨rfl, q, rfl⟩))
    go_ret
    exact ⟨rfl, bBel⟩

end Go.Proofs.Ytfhhkabdeajieaa

set_option linter.unusedVariables false
namespace Go.Proofs.Ytfhhkabdeajieaa
open Go.RowKit Fx

def vr (l h : Int) : Bool := decide (-536870911 ≤ l) && decide (l ≤ h) && decide (h ≤ 536870911)
theorem val4_vr (x0 y0 x1 y1 : Int) : val4 x0 y0 x1 y1 = (vr x0 x1 && vr y0 y1) := by
  have e : ∀ z, z = sat z ↔ -536870911 ≤ z ∧ z ≤ 536870911 := fun z => by unfold sat; split <;> (try split) <;> omega
  rw [Bool.eq_iff_iff]
  simp only [val4, Bx.val_iff, Bx.ok, vr, Bool.and_eq_true, decide_eq_true_eq]
  rw [e x0, e y0, e x1, e y1]
  omega
theorem has_con (x0 y0 x1 y1 x y : Int) : has6 x0 y0 x1 y1 x y = con8 x0 y0 x1 y1 (sat x) (sat y) (sat x) (sat y) := by
  rw [Bool.eq_iff_iff]
  simp only [has6, con8, Bx.has_iff, Bx.con_iff]
  have := Bx.one_ok (x, y)
  simp only [Bx.one] at this
  constructor
  · intro ⟨h, h1⟩; exact ⟨h, this, by omega⟩
  · intro ⟨h, _, h1⟩; exact ⟨h, by omega⟩
def meet8 (x0 y0 x1 y1 fx fy tx ty : Int) : Bool :=
  let s := fun k => orient fx fy tx ty (Bx.cx ⟨x0, y0, x1, y1⟩ k) (Bx.cy ⟨x0, y0, x1, y1⟩ k)
  decide (s 0 = 0) || decide (¬ s 1 = s 0) || decide (¬ s 2 = s 0) || decide (¬ s 3 = s 0)
theorem seg_meet (x0 y0 x1 y1 fx fy tx ty : Int) : seg8 x0 y0 x1 y1 fx fy tx ty = (ovl8 x0 y0 x1 y1 (min (sat fx) (sat tx)) (min (sat fy) (sat ty)) (max (sat fx) (sat tx)) (max (sat fy) (sat ty)) && meet8 x0 y0 x1 y1 fx fy tx ty) := by
  rw [Bool.eq_iff_iff, Bool.and_eq_true]
  have e0 : ovl8 x0 y0 x1 y1 (min (sat fx) (sat tx)) (min (sat fy) (sat ty)) (max (sat fx) (sat tx)) (max (sat fy) (sat ty)) = Bx.ovl ⟨x0, y0, x1, y1⟩ (Bx.two fx fy tx ty) := rfl
  rw [e0, show seg8 x0 y0 x1 y1 fx fy tx ty = Bx.seg ⟨x0, y0, x1, y1⟩ fx fy tx ty from rfl, Bx.seg_iff]
  refine and_congr_right fun _ => ?_
  have hs : ∀ k, Bx.side ⟨x0, y0, x1, y1⟩ fx fy tx ty k = 0 ∨ Bx.side ⟨x0, y0, x1, y1⟩ fx fy tx ty k = 1 ∨ Bx.side ⟨x0, y0, x1, y1⟩ fx fy tx ty k = -1 := fun k => by
    unfold Bx.side orient sgn; split <;> (try split) <;> omega
  have h0 := hs 0; have h1 := hs 1; have h2 := hs 2; have h3 := hs 3
  have q : ∀ s : Int, (∀ k, k < 4 → Bx.side ⟨x0, y0, x1, y1⟩ fx fy tx ty k = s) ↔ Bx.side ⟨x0, y0, x1, y1⟩ fx fy tx ty 0 = s ∧ Bx.side ⟨x0, y0, x1, y1⟩ fx fy tx ty 1 = s ∧ Bx.side ⟨x0, y0, x1, y1⟩ fx fy tx ty 2 = s ∧ Bx.side ⟨x0, y0, x1, y1⟩ fx fy tx ty 3 = s := fun s =>
    ⟨fun h => ⟨h 0 (by omega), h 1 (by omega), h 2 (by omega), h 3 (by omega)⟩, fun ⟨a, b, c, d⟩ k hk => by
      match k, hk with
      | 0, _ => exact a
      | 1, _ => exact b
      | 2, _ => exact c
      | 3, _ => exact d
      | n + 4, h => omega⟩
  rw [q 1, q (-1)]
  simp only [meet8, Bool.or_eq_true, decide_eq_true_eq]
  unfold Bx.side at *
  omega

theorem xvr_b (l h : Int) (w : World) : Calls Try.prog 47 #[.int .i64 l, .int .i64 h] w fun e w' => e = .returned (.bool (vr l h)) ∧ Below w.heap.size w w' := by
  go_enter Try.func47, Try.ntmps47
  go_wp2_with fail
  all_goals (go_ret; refine ⟨?_, bBel⟩; first | rfl | (simp [vr]; done) | (simp [vr]; omega) | (simp [vr]; rw [Bool.eq_iff_iff]; first | (simp; done) | (simp; omega)))

theorem xval_b (x0 y0 x1 y1 : Int) (w : World) : Calls Try.prog 29 #[.agg #[.int .i64 x0, .int .i64 y0, .int .i64 x1, .int .i64 y1]] w fun e w' => e = .returned (.bool (val4 x0 y0 x1 y1)) ∧ Below w.heap.size w w' := by
  rw [val4_vr]
  cases h1 : vr x0 x1
  focus
    go_enter Try.func29, Try.ntmps29
    go_wp2_with (first | (go_at_call 47; (first | (refine Calls.mono (gw_at (boolIs (xvr_b _ _ _) (b := true) (by assumption))) ?_; rintro e w1 ⟨rfl, q, rfl⟩) | (refine Calls.mono (gw_at (boolIs (xvr_b _ _ _) (b := false) (by assumption))) ?_; rintro e w1 ⟨rfl, q, rfl⟩) | (refine Calls.mono (gw_at (xvr_b _ _ _)) ?_; rintro e w1 ⟨rfl, q, rfl⟩))))
    go_ret
    exact ⟨rfl, bBel⟩
  go_enter Try.func29, Try.ntmps29
  go_wp2_with (first | (go_at_call 47; (first | (refine Calls.mono (gw_at (boolIs (xvr_b _ _ _) (b := true) (by assumption))) ?_; rintro e w1 ⟨rfl, q, rfl⟩) | (refine Calls.mono (gw_at (boolIs (xvr_b _ _ _) (b := false) (by assumption))) ?_; rintro e w1 ⟨rfl, q, rfl⟩) | (refine Calls.mono (gw_at (xvr_b _ _ _)) ?_; rintro e w1 ⟨rfl, q, rfl⟩))))
  all_goals (go_ret; refine ⟨?_, bBel⟩; first | rfl | (simp; done) | (simp; omega) | (simp; rw [Bool.eq_iff_iff]; first | (simp; done) | (simp; omega)))

theorem xbhull_b (ax0 ay0 ax1 ay1 bx0 by0 bx1 by1 : Int) (w : World) : Calls Try.prog 121 #[.agg #[.int .i64 ax0, .int .i64 ay0, .int .i64 ax1, .int .i64 ay1], .agg #[.int .i64 bx0, .int .i64 by0, .int .i64 bx1, .int .i64 by1]] w fun e w' => e = .returned (.agg #[.int .i64 (min ax0 bx0), .int .i64 (min ay0 by0), .int .i64 (max ax1 bx1), .int .i64 (max ay1 by1)]) ∧ Below w.heap.size w w' := by
  go_enter Try.func121, Try.ntmps121
  go_wp2_with fail
  exact bodyPost_ret (v := .agg #[.int .i64 (min ax0 bx0), .int .i64 (min ay0 by0), .int .i64 (max ax1 bx1), .int .i64 (max ay1 by1)]) (by simp [results, Try.results121, go_sem]; try (first | with_reducible rfl | exact ⟨rfl, rfl⟩ | exact ⟨rfl, rfl, rfl⟩ | exact ⟨rfl, rfl, rfl, rfl⟩ | exact ⟨rfl, rfl, rfl, rfl, rfl⟩ | exact ⟨rfl, rfl, rfl, rfl, rfl, rfl⟩ | rfl)) rfl ⟨rfl, bBel⟩

set_option maxHeartbeats 800000 in
theorem xuni_b (ax0 ay0 ax1 ay1 bx0 by0 bx1 by1 : Int) (w : World) : Calls Try.prog 113 #[.agg #[.int .i64 ax0, .int .i64 ay0, .int .i64 ax1, .int .i64 ay1], .agg #[.int .i64 bx0, .int .i64 by0, .int .i64 bx1, .int .i64 by1]] w fun e w' => e = .returned (.agg #[.int .i64 (Bx.uni ⟨ax0, ay0, ax1, ay1⟩ ⟨bx0, by0, bx1, by1⟩).x0, .int .i64 (Bx.uni ⟨ax0, ay0, ax1, ay1⟩ ⟨bx0, by0, bx1, by1⟩).y0, .int .i64 (Bx.uni ⟨ax0, ay0, ax1, ay1⟩ ⟨bx0, by0, bx1, by1⟩).x1, .int .i64 (Bx.uni ⟨ax0, ay0, ax1, ay1⟩ ⟨bx0, by0, bx1, by1⟩).y1]) ∧ Below w.heap.size w w' := by
  cases h1 : val4 ax0 ay0 ax1 ay1 <;> cases h2 : val4 bx0 by0 bx1 by1
  focus
    rw [show Bx.uni ⟨ax0, ay0, ax1, ay1⟩ ⟨bx0, by0, bx1, by1⟩ = Bx.zero from by simp [Bx.uni, val4_eq, h1, h2]]
    go_enter Try.func113, Try.ntmps113
    go_wp2_with (first | (go_at_call 29; (first | (refine Calls.mono (gw_at (boolIs (xval_b _ _ _ _ _) (b := true) (by assumption))) ?_; rintro e w1 ⟨rfl, q, rfl⟩) | (refine Calls.mono (gw_at (boolIs (xval_b _ _ _ _ _) (b := false) (by assumption))) ?_; rintro e w1 ⟨rfl, q, rfl⟩) | (refine Calls.mono (gw_at (xval_b _ _ _ _ _)) ?_; rintro e w1 ⟨rfl, q, rfl⟩))) | (go_at_call 121; refine Calls.mono (gw_at (xbhull_b _ _ _ _ _ _ _ _ _)) ?_; rintro e w1 ⟨rfl, q, rfl⟩))
    exact bodyPost_ret (v := .agg #[.int .i64 0, .int .i64 0, .int .i64 0, .int .i64 0]) (by simp [results, Try.results113, go_sem]; try (first | with_reducible rfl | exact ⟨rfl, rfl⟩ | exact ⟨rfl, rfl, rfl⟩ | exact ⟨rfl, rfl, rfl, rfl⟩ | exact ⟨rfl, rfl, rfl, rfl, rfl⟩ | exact ⟨rfl, rfl, rfl, rfl, rfl, rfl⟩ | rfl)) rfl ⟨rfl, bBel⟩
  focus
    rw [show Bx.uni ⟨ax0, ay0, ax1, ay1⟩ ⟨bx0, by0, bx1, by1⟩ = ⟨bx0, by0, bx1, by1⟩ from by simp [Bx.uni, val4_eq, h1, h2]]
    go_enter Try.func113, Try.ntmps113
    go_wp2_with (first | (go_at_call 29; (first | (refine Calls.mono (gw_at (boolIs (xval_b _ _ _ _ _) (b := true) (by assumption))) ?_; rintro e w1 ⟨rfl, q, rfl⟩) | (refine Calls.mono (gw_at (boolIs (xval_b _ _ _ _ _) (b := false) (by assumption))) ?_; rintro e w1 ⟨rfl, q, rfl⟩) | (refine Calls.mono (gw_at (xval_b _ _ _ _ _)) ?_; rintro e w1 ⟨rfl, q, rfl⟩))) | (go_at_call 121; refine Calls.mono (gw_at (xbhull_b _ _ _ _ _ _ _ _ _)) ?_; rintro e w1 ⟨rfl, q, rfl⟩))
    exact bodyPost_ret (v := .agg #[.int .i64 bx0, .int .i64 by0, .int .i64 bx1, .int .i64 by1]) (by simp [results, Try.results113, go_sem]; try (first | with_reducible rfl | exact ⟨rfl, rfl⟩ | exact ⟨rfl, rfl, rfl⟩ | exact ⟨rfl, rfl, rfl, rfl⟩ | exact ⟨rfl, rfl, rfl, rfl, rfl⟩ | exact ⟨rfl, rfl, rfl, rfl, rfl, rfl⟩ | rfl)) rfl ⟨rfl, bBel⟩
  focus
    rw [show Bx.uni ⟨ax0, ay0, ax1, ay1⟩ ⟨bx0, by0, bx1, by1⟩ = ⟨ax0, ay0, ax1, ay1⟩ from by simp [Bx.uni, val4_eq, h1, h2]]
    go_enter Try.func113, Try.ntmps113
    go_wp2_with (first | (go_at_call 29; (first | (refine Calls.mono (gw_at (boolIs (xval_b _ _ _ _ _) (b := true) (by assumption))) ?_; rintro e w1 ⟨rfl, q, rfl⟩) | (refine Calls.mono (gw_at (boolIs (xval_b _ _ _ _ _) (b := false) (by assumption))) ?_; rintro e w1 ⟨rfl, q, rfl⟩) | (refine Calls.mono (gw_at (xval_b _ _ _ _ _)) ?_; rintro e w1 ⟨rfl, q, rfl⟩))) | (go_at_call 121; refine Calls.mono (gw_at (xbhull_b _ _ _ _ _ _ _ _ _)) ?_; rintro e w1 ⟨rfl, q, rfl⟩))
    exact bodyPost_ret (v := .agg #[.int .i64 ax0, .int .i64 ay0, .int .i64 ax1, .int .i64 ay1]) (by simp [results, Try.results113, go_sem]; try (first | with_reducible rfl | exact ⟨rfl, rfl⟩ | exact ⟨rfl, rfl, rfl⟩ | exact ⟨rfl, rfl, rfl, rfl⟩ | exact ⟨rfl, rfl, rfl, rfl, rfl⟩ | exact ⟨rfl, rfl, rfl, rfl, rfl, rfl⟩ | rfl)) rfl ⟨rfl, bBel⟩
  rw [show Bx.uni ⟨ax0, ay0, ax1, ay1⟩ ⟨bx0, by0, bx1, by1⟩ = ⟨min ax0 bx0, min ay0 by0, max ax1 bx1, max ay1 by1⟩ from by simp [Bx.uni, val4_eq, h1, h2]]
  go_enter Try.func113, Try.ntmps113
  go_wp2_with (first | (go_at_call 29; (first | (refine Calls.mono (gw_at (boolIs (xval_b _ _ _ _ _) (b := true) (by assumption))) ?_; rintro e w1 ⟨rfl, q, rfl⟩) | (refine Calls.mono (gw_at (boolIs (xval_b _ _ _ _ _) (b := false) (by assumption))) ?_; rintro e w1 ⟨rfl, q, rfl⟩) | (refine Calls.mono (gw_at (xval_b _ _ _ _ _)) ?_; rintro e w1 ⟨rfl, q, rfl⟩))) | (go_at_call 121; refine Calls.mono (gw_at (xbhull_b _ _ _ _ _ _ _ _ _)) ?_; rintro e w1 ⟨rfl, q, rfl⟩))
  exact bodyPost_ret (v := .agg #[.int .i64 (min ax0 bx0), .int .i64 (min ay0 by0), .int .i64 (max ax1 bx1), .int .i64 (max ay1 by1)]) (by simp [results, Try.results113, go_sem]; try (first | with_reducible rfl | exact ⟨rfl, rfl⟩ | exact ⟨rfl, rfl, rfl⟩ | exact ⟨rfl, rfl, rfl, rfl⟩ | exact ⟨rfl, rfl, rfl, rfl, rfl⟩ | exact ⟨rfl, rfl, rfl, rfl, rfl, rfl⟩ | rfl)) rfl ⟨rfl, bBel⟩

theorem xovl_b (ax0 ay0 ax1 ay1 bx0 by0 bx1 by1 : Int) (w : World) : Calls Try.prog 20 #[.agg #[.int .i64 ax0, .int .i64 ay0, .int .i64 ax1, .int .i64 ay1], .agg #[.int .i64 bx0, .int .i64 by0, .int .i64 bx1, .int .i64 by1]] w fun e w' => e = .returned (.bool (ovl8 ax0 ay0 ax1 ay1 bx0 by0 bx1 by1)) ∧ Below w.heap.size w w' := by
  cases h1 : val4 ax0 ay0 ax1 ay1
  focus
    go_enter Try.func20, Try.ntmps20
    go_wp2_with (first | (go_at_call 29; (first | (refine Calls.mono (gw_at (boolIs (xval_b _ _ _ _ _) (b := true) (by assumption))) ?_; rintro e w1 ⟨rfl, q, rfl⟩) | (refine Calls.mono (gw_at (boolIs (xval_b _ _ _ _ _) (b := false) (by assumption))) ?_; rintro e w1 ⟨rfl, q, rfl⟩) | (refine Calls.mono (gw_at (xval_b _ _ _ _ _)) ?_; rintro e w1 ⟨rfl, q, rfl⟩))))
    all_goals (go_ret; refine ⟨?_, bBel⟩; first | rfl | (simp [ovl8, Bx.ovl, val4_eq, h1]; done) | (simp [ovl8, Bx.ovl, val4_eq, h1]; omega) | (simp [ovl8, Bx.ovl, val4_eq, h1]; rw [Bool.eq_iff_iff]; first | (simp; done) | (simp; omega)))
  cases h2 : val4 bx0 by0 bx1 by1
  focus
    go_enter Try.func20, Try.ntmps20
    go_wp2_with (first | (go_at_call 29; (first | (refine Calls.mono (gw_at (boolIs (xval_b _ _ _ _ _) (b := true) (by assumption))) ?_; rintro e w1 ⟨rfl, q, rfl⟩) | (refine Calls.mono (gw_at (boolIs (xval_b _ _ _ _ _) (b := false) (by assumption))) ?_; rintro e w1 ⟨rfl, q, rfl⟩) | (refine Calls.mono (gw_at (xval_b _ _ _ _ _)) ?_; rintro e w1 ⟨rfl, q, rfl⟩))))
    all_goals (go_ret; refine ⟨?_, bBel⟩; first | rfl | (simp [ovl8, Bx.ovl, val4_eq, h1, h2]; done) | (simp [ovl8, Bx.ovl, val4_eq, h1, h2]; omega) | (simp [ovl8, Bx.ovl, val4_eq, h1, h2]; rw [Bool.eq_iff_iff]; first | (simp; done) | (simp; omega)))
  go_enter Try.func20, Try.ntmps20
  go_wp2_with (first | (go_at_call 29; (first | (refine Calls.mono (gw_at (boolIs (xval_b _ _ _ _ _) (b := true) (by assumption))) ?_; rintro e w1 ⟨rfl, q, rfl⟩) | (refine Calls.mono (gw_at (boolIs (xval_b _ _ _ _ _) (b := false) (by assumption))) ?_; rintro e w1 ⟨rfl, q, rfl⟩) | (refine Calls.mono (gw_at (xval_b _ _ _ _ _)) ?_; rintro e w1 ⟨rfl, q, rfl⟩))))
  all_goals (go_ret; refine ⟨?_, bBel⟩; first | rfl | (simp [ovl8, Bx.ovl, val4_eq, h1, h2]; done) | (simp [ovl8, Bx.ovl, val4_eq, h1, h2]; omega) | (simp [ovl8, Bx.ovl, val4_eq, h1, h2]; rw [Bool.eq_iff_iff]; first | (simp; done) | (simp; omega)))

theorem xhp_b (x0 y0 x1 y1 : Int) (w : World) : Calls Try.prog 124 #[.agg #[.int .i64 x0, .int .i64 y0, .int .i64 x1, .int .i64 y1]] w fun e w' => e = .returned (.int .i64 (hp4 x0 y0 x1 y1)) ∧ Below w.heap.size w w' := by
  cases h1 : val4 x0 y0 x1 y1
  focus
    rw [show hp4 x0 y0 x1 y1 = 0 from by simp [hp4, Bx.hp, val4_eq, h1]]
    go_enter Try.func124, Try.ntmps124
    go_wp2_with (first | (go_at_call 29; (first | (refine Calls.mono (gw_at (boolIs (xval_b _ _ _ _ _) (b := true) (by assumption))) ?_; rintro e w1 ⟨rfl, q, rfl⟩) | (refine Calls.mono (gw_at (boolIs (xval_b _ _ _ _ _) (b := false) (by assumption))) ?_; rintro e w1 ⟨rfl, q, rfl⟩) | (refine Calls.mono (gw_at (xval_b _ _ _ _ _)) ?_; rintro e w1 ⟨rfl, q, rfl⟩))) | (go_at_call 125; refine Calls.mono (gw_at (vsub_b _ _ _ _ _)) ?_; rintro e w1 ⟨rfl, q, rfl⟩) | (go_at_call 126; refine Calls.mono (gw_at (add_b _ _ _)) ?_; rintro e w1 ⟨rfl, q, rfl⟩))
    go_ret
    exact ⟨rfl, bBel⟩
  rw [show hp4 x0 y0 x1 y1 = add (sub x1 x0) (sub y1 y0) from by simp [hp4, Bx.hp, val4_eq, h1]]
  go_enter Try.func124, Try.ntmps124
  go_wp2_with (first | (go_at_call 29; (first | (refine Calls.mono (gw_at (boolIs (xval_b _ _ _ _ _) (b := true) (by assumption))) ?_; rintro e w1 ⟨rfl, q, rfl⟩) | (refine Calls.mono (gw_at (boolIs (xval_b _ _ _ _ _) (b := false) (by assumption))) ?_; rintro e w1 ⟨rfl, q, rfl⟩) | (refine Calls.mono (gw_at (xval_b _ _ _ _ _)) ?_; rintro e w1 ⟨rfl, q, rfl⟩))) | (go_at_call 125; refine Calls.mono (gw_at (vsub_b _ _ _ _ _)) ?_; rintro e w1 ⟨rfl, q, rfl⟩) | (go_at_call 126; refine Calls.mono (gw_at (add_b _ _ _)) ?_; rintro e w1 ⟨rfl, q, rfl⟩))
  go_ret
  exact ⟨rfl, bBel⟩

end Go.Proofs.Ytfhhkabdeajieaa

set_option linter.unusedVariables false
namespace Go.Proofs.Ytfhhkabdeajieaa
open Go.RowKit Fx

end Go.Proofs.Ytfhhkabdeajieaa
