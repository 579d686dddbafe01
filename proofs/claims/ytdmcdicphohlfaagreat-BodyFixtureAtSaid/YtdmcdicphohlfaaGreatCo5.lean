/- Contracts of the reference of chapter 10.
Contracts of the reference of chapter 10, continued: closest points, distance.
Contracts of the reference of chapter 10, continued: ClosestPoints whole, Distance. -/
import Derived.Test.YtdmcdicphohlfaaGreatCo4
import Derived.Test.YtdmcdicphohlfaaGreatMa2
import Derived.RegionTactic
import Derived.BigRegion
import Derived.Deep.DeepCutAuto

set_option linter.unusedVariables false
namespace Go.Proofs.YtdmcdicphohlfaaGreat
open Go.RowKit Fx

theorem rsgsat_b (x y : Int) (w : World) : Calls Tryz.prog 249 #[.agg #[.int .i64 x, .int .i64 y]] w fun e w' => e = .returned (.agg #[.int .i64 (sat x), .int .i64 (sat y)]) ∧ Below w.heap.size w w' := by
  go_enter Tryz.func249, Tryz.ntmps249
  go_wp2_with (first | (go_at_call 158; refine Calls.mono (gw_at (rsat_b _ _)) ?_; rintro e w1 ⟨rfl, q, rfl⟩))
  repeat
    refine wp_region_gw_tail 7 (by kernel_rfl) (by kernel_rfl) ?_
    simp only [List.take_succ_cons, List.take_zero, List.drop_succ_cons, List.drop_zero]
    repeat (go_big_quiet_step ((first | (go_at_call 158; exact gw_call (rsat_b _ _)))))
    refine wpQuiet_nil ?_
    intro w1 hw1
    obtain ⟨q, rfl⟩ := hw1
    go_wp2_with (first | (go_at_call 158; refine Calls.mono (gw_at (rsat_b _ _)) ?_; rintro e w1 ⟨rfl, q, rfl⟩))
  exact bodyPost_ret (v := .agg #[.int .i64 (sat x), .int .i64 (sat y)]) (by simp [results, Tryz.results249, go_sem]; try (first | with_reducible rfl | exact ⟨rfl, rfl⟩ | exact ⟨rfl, rfl, rfl⟩ | exact ⟨rfl, rfl, rfl, rfl⟩ | exact ⟨rfl, rfl, rfl, rfl, rfl⟩ | exact ⟨rfl, rfl, rfl, rfl, rfl, rfl⟩ | rfl)) rfl ⟨rfl, bBel⟩

set_option maxHeartbeats 1000000 in
theorem rcp_b (ax ay bx b_y px py : Int) (w : World) : Calls Tryz.prog 252 #[.agg #[.int .i64 ax, .int .i64 ay], .agg #[.int .i64 bx, .int .i64 b_y], .agg #[.int .i64 px, .int .i64 py]] w fun e w' => e = .returned (.tuple #[.agg #[.int .i64 (cpc (cpt ax ay bx b_y px py) ax bx), .int .i64 (cpc (cpt ax ay bx b_y px py) ay b_y)], .int .i64 (cpt ax ay bx b_y px py)]) ∧ Below w.heap.size w w' := by
  have a1 := sat_le ax; have a2 := sat_ge ax; have a3 := sat_le ay; have a4 := sat_ge ay
  have b1 := sat_le bx; have b2 := sat_ge bx; have b3 := sat_le b_y; have b4 := sat_ge b_y
  have c1 := sat_le px; have c2 := sat_ge px; have c3 := sat_le py; have c4 := sat_ge py
  have d1 := diffmul (a := px) (b := ax) (c := bx) (d := ax); have d2 := diffmul (a := py) (b := ay) (c := b_y) (d := ay)
  have e1 := dist2_ss ax ay bx b_y
  have e2 : ratio ((sat px - sat ax) * (sat bx - sat ax) + (sat py - sat ay) * (sat b_y - sat ay)) (dist2 ax ay bx b_y) = cpt ax ay bx b_y px py := rfl
  have e3 := fun t => lerp_ss ax bx t
  have e4 := fun t => lerp_ss ay b_y t
  generalize cpt ax ay bx b_y px py = t at *
  by_cases t0 : t = 0
  focus
    subst t0
    rw [cpc_zero, cpc_zero]
    go_enter Tryz.func252, Tryz.ntmps252
    go_wp2_with (first | (go_at_call 249; refine Calls.mono (gw_at (rsgsat_b _ _ _)) ?_; rintro e w1 ⟨rfl, q, rfl⟩) | (go_at_call 209; refine Calls.mono (gw_at (rdist2_b _ _ _ _ _)) ?_; rintro e w1 ⟨rfl, q, rfl⟩) | (go_at_call 251; refine Calls.mono (gw_at (rrt_b _ _ _)) ?_; rintro e w1 ⟨rfl, q, rfl⟩) | (go_at_call 196; refine Calls.mono (gw_at (rvlerp_b _ _ _ _ _ _)) ?_; rintro e w1 ⟨rfl, q, rfl⟩))
    repeat
      refine wp_region_gw_tail 6 (by kernel_rfl) (by kernel_rfl) ?_
      simp only [List.take_succ_cons, List.take_zero, List.drop_succ_cons, List.drop_zero]
      repeat (go_big_quiet_step ((first | (go_at_call 249; exact gw_call (rsgsat_b _ _ _)) | (go_at_call 209; exact gw_call (rdist2_b _ _ _ _ _)) | (go_at_call 251; exact gw_call (rrt_b _ _ _)) | (go_at_call 196; exact gw_call (rvlerp_b _ _ _ _ _ _)))))
      refine wpQuiet_nil ?_
      intro w1 hw1
      obtain ⟨q, rfl⟩ := hw1
      go_wp2_with (first | (go_at_call 249; refine Calls.mono (gw_at (rsgsat_b _ _ _)) ?_; rintro e w1 ⟨rfl, q, rfl⟩) | (go_at_call 209; refine Calls.mono (gw_at (rdist2_b _ _ _ _ _)) ?_; rintro e w1 ⟨rfl, q, rfl⟩) | (go_at_call 251; refine Calls.mono (gw_at (rrt_b _ _ _)) ?_; rintro e w1 ⟨rfl, q, rfl⟩) | (go_at_call 196; refine Calls.mono (gw_at (rvlerp_b _ _ _ _ _ _)) ?_; rintro e w1 ⟨rfl, q, rfl⟩))
    exact bodyPost_ret (v := .tuple #[.agg #[.int .i64 (sat ax), .int .i64 (sat ay)], .int .i64 0]) (by simp [results, Tryz.results252, go_sem]) rfl ⟨rfl, bBel⟩
  by_cases t1 : t = 65536
  focus
    subst t1
    rw [cpc_one, cpc_one]
    go_enter Tryz.func252, Tryz.ntmps252
    go_wp2_with (first | (go_at_call 249; refine Calls.mono (gw_at (rsgsat_b _ _ _)) ?_; rintro e w1 ⟨rfl, q, rfl⟩) | (go_at_call 209; refine Calls.mono (gw_at (rdist2_b _ _ _ _ _)) ?_; rintro e w1 ⟨rfl, q, rfl⟩) | (go_at_call 251; refine Calls.mono (gw_at (rrt_b _ _ _)) ?_; rintro e w1 ⟨rfl, q, rfl⟩) | (go_at_call 196; refine Calls.mono (gw_at (rvlerp_b _ _ _ _ _ _)) ?_; rintro e w1 ⟨rfl, q, rfl⟩))
    repeat
      refine wp_region_gw_tail 6 (by kernel_rfl) (by kernel_rfl) ?_
      simp only [List.take_succ_cons, List.take_zero, List.drop_succ_cons, List.drop_zero]
      repeat (go_big_quiet_step ((first | (go_at_call 249; exact gw_call (rsgsat_b _ _ _)) | (go_at_call 209; exact gw_call (rdist2_b _ _ _ _ _)) | (go_at_call 251; exact gw_call (rrt_b _ _ _)) | (go_at_call 196; exact gw_call (rvlerp_b _ _ _ _ _ _)))))
      refine wpQuiet_nil ?_
      intro w1 hw1
      obtain ⟨q, rfl⟩ := hw1
      go_wp2_with (first | (go_at_call 249; refine Calls.mono (gw_at (rsgsat_b _ _ _)) ?_; rintro e w1 ⟨rfl, q, rfl⟩) | (go_at_call 209; refine Calls.mono (gw_at (rdist2_b _ _ _ _ _)) ?_; rintro e w1 ⟨rfl, q, rfl⟩) | (go_at_call 251; refine Calls.mono (gw_at (rrt_b _ _ _)) ?_; rintro e w1 ⟨rfl, q, rfl⟩) | (go_at_call 196; refine Calls.mono (gw_at (rvlerp_b _ _ _ _ _ _)) ?_; rintro e w1 ⟨rfl, q, rfl⟩))
    exact bodyPost_ret (v := .tuple #[.agg #[.int .i64 (sat bx), .int .i64 (sat b_y)], .int .i64 65536]) (by simp [results, Tryz.results252, go_sem]) rfl ⟨rfl, bBel⟩
  rw [cpc_mid t0 t1, cpc_mid t0 t1]
  have t0b : (t == 0) = false := by rw [beq_eq_false_iff_ne]; exact t0
  have t1b : (t == 65536) = false := by rw [beq_eq_false_iff_ne]; exact t1
  clear t0 t1
  go_enter Tryz.func252, Tryz.ntmps252
  go_wp2_with (first | (go_at_call 249; refine Calls.mono (gw_at (rsgsat_b _ _ _)) ?_; rintro e w1 ⟨rfl, q, rfl⟩) | (go_at_call 209; refine Calls.mono (gw_at (rdist2_b _ _ _ _ _)) ?_; rintro e w1 ⟨rfl, q, rfl⟩) | (go_at_call 251; refine Calls.mono (gw_at (rrt_b _ _ _)) ?_; rintro e w1 ⟨rfl, q, rfl⟩) | (go_at_call 196; refine Calls.mono (gw_at (rvlerp_b _ _ _ _ _ _)) ?_; rintro e w1 ⟨rfl, q, rfl⟩))
  repeat
    refine wp_region_gw_tail 6 (by kernel_rfl) (by kernel_rfl) ?_
    simp only [List.take_succ_cons, List.take_zero, List.drop_succ_cons, List.drop_zero]
    repeat (go_big_quiet_step ((first | (go_at_call 249; exact gw_call (rsgsat_b _ _ _)) | (go_at_call 209; exact gw_call (rdist2_b _ _ _ _ _)) | (go_at_call 251; exact gw_call (rrt_b _ _ _)) | (go_at_call 196; exact gw_call (rvlerp_b _ _ _ _ _ _)))))
    refine wpQuiet_nil ?_
    intro w1 hw1
    obtain ⟨q, rfl⟩ := hw1
    go_wp2_with (first | (go_at_call 249; refine Calls.mono (gw_at (rsgsat_b _ _ _)) ?_; rintro e w1 ⟨rfl, q, rfl⟩) | (go_at_call 209; refine Calls.mono (gw_at (rdist2_b _ _ _ _ _)) ?_; rintro e w1 ⟨rfl, q, rfl⟩) | (go_at_call 251; refine Calls.mono (gw_at (rrt_b _ _ _)) ?_; rintro e w1 ⟨rfl, q, rfl⟩) | (go_at_call 196; refine Calls.mono (gw_at (rvlerp_b _ _ _ _ _ _)) ?_; rintro e w1 ⟨rfl, q, rfl⟩))
  exact bodyPost_ret (v := .tuple #[.agg #[.int .i64 (lerp ax bx t), .int .i64 (lerp ay b_y t)], .int .i64 t]) (by simp [results, Tryz.results252, go_sem]) rfl ⟨rfl, bBel⟩

theorem rabsc_b (cx cy dx dy px py : Int) (h1 : -536870911 ≤ cx ∧ cx ≤ 536870911) (h2 : -536870911 ≤ cy ∧ cy ≤ 536870911) (h3 : -536870911 ≤ dx ∧ dx ≤ 536870911) (h4 : -536870911 ≤ dy ∧ dy ≤ 536870911) (h5 : -536870911 ≤ px ∧ px ≤ 536870911) (h6 : -536870911 ≤ py ∧ py ≤ 536870911) (w : World) : Calls Tryz.prog 250 #[.agg #[.int .i64 cx, .int .i64 cy], .agg #[.int .i64 dx, .int .i64 dy], .agg #[.int .i64 px, .int .i64 py]] w fun e w' => e = .returned (.int .i64 (absc cx cy dx dy px py)) ∧ Below w.heap.size w w' := by
  have d1 := diffmul (a := dx) (b := cx) (c := py) (d := cy); have d2 := diffmul (a := dy) (b := cy) (c := px) (d := cx)
  have e1 := sat_id h1.1 h1.2; have e2 := sat_id h2.1 h2.2; have e3 := sat_id h3.1 h3.2; have e4 := sat_id h4.1 h4.2; have e5 := sat_id h5.1 h5.2; have e6 := sat_id h6.1 h6.2
  have hd : det cx cy dx dy px py = (dx - cx) * (py - cy) - (dy - cy) * (px - cx) := by unfold det; rw [e1, e2, e3, e4, e5, e6]
  simp only [e1, e2, e3, e4, e5, e6] at d1 d2
  obtain ⟨g1, g1'⟩ := h1; obtain ⟨g2, g2'⟩ := h2; obtain ⟨g3, g3'⟩ := h3; obtain ⟨g4, g4'⟩ := h4; obtain ⟨g5, g5'⟩ := h5; obtain ⟨g6, g6'⟩ := h6
  unfold absc
  rw [hd]
  clear hd e1 e2 e3 e4 e5 e6
  by_cases hn : (dx - cx) * (py - cy) - (dy - cy) * (px - cx) < 0
  focus
    rw [if_pos hn]
    go_enter Tryz.func250, Tryz.ntmps250
    go_wp2_with fail
    go_ret
    exact ⟨rfl, bBel⟩
  rw [if_neg hn]
  go_enter Tryz.func250, Tryz.ntmps250
  go_wp2_with fail
  go_ret
  exact ⟨rfl, bBel⟩

theorem or_mul (ax ay bx b_y cx cy dx dy ex ey fx fy : Int) : -1 ≤ orient ax ay bx b_y cx cy * orient dx dy ex ey fx fy ∧ orient ax ay bx b_y cx cy * orient dx dy ex ey fx fy ≤ 1 := by
  have h1 := or_ge ax ay bx b_y cx cy; have h2 := or_le ax ay bx b_y cx cy; have h3 := or_ge dx dy ex ey fx fy; have h4 := or_le dx dy ex ey fx fy
  have := mul_between (a := orient ax ay bx b_y cx cy) (b := orient dx dy ex ey fx fy) (A := 1) (B := 1) (by omega) (by omega) (by omega) (by omega)
  omega

set_option maxHeartbeats 2000000 in
theorem risct_b (ax ay bx b_y cx cy dx dy : Int) (w : World) : Calls Tryz.prog 207 #[.agg #[.int .i64 ax, .int .i64 ay], .agg #[.int .i64 bx, .int .i64 b_y], .agg #[.int .i64 cx, .int .i64 cy], .agg #[.int .i64 dx, .int .i64 dy]] w fun e w' => e = .returned (.bool (isct ax ay bx b_y cx cy dx dy)) ∧ Below w.heap.size w w' := by
  obtain ⟨p1, p2⟩ := or_mul ax ay bx b_y cx cy ax ay bx b_y dx dy
  obtain ⟨p3, p4⟩ := or_mul cx cy dx dy ax ay cx cy dx dy bx b_y
  have hV : ovl8 (min (sat ax) (sat bx)) (min (sat ay) (sat b_y)) (max (sat ax) (sat bx)) (max (sat ay) (sat b_y)) (min (sat cx) (sat dx)) (min (sat cy) (sat dy)) (max (sat cx) (sat dx)) (max (sat cy) (sat dy)) = (Bx.two ax ay bx b_y).ovl (Bx.two cx cy dx dy) := rfl
  unfold isct
  generalize (Bx.two ax ay bx b_y).ovl (Bx.two cx cy dx dy) = V at *
  by_cases h1 : orient ax ay bx b_y cx cy * orient ax ay bx b_y dx dy ≤ 0
  rotate_left
  focus
    rw [decide_eq_false h1, Bool.false_and, Bool.false_and]
    have h1b := decide_eq_false h1
    clear h1
    go_enter Tryz.func207, Tryz.ntmps207
    go_wp2_with (first | (go_at_call 139; (with_reducible show Calls _ _ (#[Value.slice _ 2 _]) _ _); refine Calls.mono (gw_at (rfp2_b _ _ _ _ _ _ _ _ (by first | ((with_reducible refine blk_at ?_); simp; done) | ((with_reducible refine blk_gw (blk_at ?_)); simp; done) | ((with_reducible refine blk_alloc (blk_at ?_)); simp; done) | ((with_reducible refine blk_gw (blk_alloc (blk_at ?_))); simp; done) | with_reducible assumption))) ?_; rintro e w1 ⟨rfl, q, rfl⟩) | (go_at_call 139; (with_reducible show Calls _ _ (#[Value.slice _ 4 _]) _ _); refine Calls.mono (gw_at (rfp4_b _ _ _ _ _ _ _ _ _ _ _ _ (by first | ((with_reducible refine blk_at ?_); simp; done) | ((with_reducible refine blk_gw (blk_at ?_)); simp; done) | ((with_reducible refine blk_alloc (blk_at ?_)); simp; done) | ((with_reducible refine blk_gw (blk_alloc (blk_at ?_))); simp; done) | with_reducible assumption))) ?_; rintro e w1 ⟨rfl, q, rfl⟩) | (go_at_call 139; (with_reducible show Calls _ _ (#[Value.slice _ (List.length _) _]) _ _); refine Calls.mono (gw_at (rfp_b _ _ _ _ (Pts.to (by with_reducible assumption) bBel) (by with_reducible assumption))) ?_; rintro e w1 ⟨rfl, q, rfl⟩) | (go_at_call 153; refine Calls.mono (gw_at (rorient_b _ _ _ _ _ _ _)) ?_; rintro e w1 ⟨rfl, q, rfl⟩) | (go_at_call 248; (first | (refine Calls.mono (gw_at (boolIs (rxovl_b _ _ _ _ _ _ _ _ _) (b := true) (by assumption))) ?_; rintro e w1 ⟨rfl, q, rfl⟩) | (refine Calls.mono (gw_at (boolIs (rxovl_b _ _ _ _ _ _ _ _ _) (b := false) (by assumption))) ?_; rintro e w1 ⟨rfl, q, rfl⟩) | (refine Calls.mono (gw_at (rxovl_b _ _ _ _ _ _ _ _ _)) ?_; rintro e w1 ⟨rfl, q, rfl⟩))))
    repeat
      refine wp_region_gw (by kernel_rfl) (by kernel_rfl) ?_
      repeat (go_big_quiet_step ((first | (go_at_call 139; (with_reducible show Calls _ _ (#[Value.slice _ 2 _]) _ _); exact gw_call (rfp2_b _ _ _ _ _ _ _ _ (by first | ((with_reducible refine blk_at ?_); simp; done) | ((with_reducible refine blk_gw (blk_at ?_)); simp; done) | ((with_reducible refine blk_alloc (blk_at ?_)); simp; done) | ((with_reducible refine blk_gw (blk_alloc (blk_at ?_))); simp; done) | with_reducible assumption))) | (go_at_call 139; (with_reducible show Calls _ _ (#[Value.slice _ 4 _]) _ _); exact gw_call (rfp4_b _ _ _ _ _ _ _ _ _ _ _ _ (by first | ((with_reducible refine blk_at ?_); simp; done) | ((with_reducible refine blk_gw (blk_at ?_)); simp; done) | ((with_reducible refine blk_alloc (blk_at ?_)); simp; done) | ((with_reducible refine blk_gw (blk_alloc (blk_at ?_))); simp; done) | with_reducible assumption))) | (go_at_call 139; (with_reducible show Calls _ _ (#[Value.slice _ (List.length _) _]) _ _); exact gw_call (rfp_b _ _ _ _ (Pts.to (by with_reducible assumption) bBel) (by with_reducible assumption))) | (go_at_call 153; exact gw_call (rorient_b _ _ _ _ _ _ _)) | (go_at_call 248; (first | (exact gw_call (boolIs (rxovl_b _ _ _ _ _ _ _ _ _) (b := true) (by assumption))) | (exact gw_call (boolIs (rxovl_b _ _ _ _ _ _ _ _ _) (b := false) (by assumption))) | (exact gw_call (rxovl_b _ _ _ _ _ _ _ _ _)))))))
      refine wpQuiet_nil ?_
      intro w1 hw1
      obtain ⟨q, rfl⟩ := hw1
      go_wp2_with (first | (go_at_call 139; (with_reducible show Calls _ _ (#[Value.slice _ 2 _]) _ _); refine Calls.mono (gw_at (rfp2_b _ _ _ _ _ _ _ _ (by first | ((with_reducible refine blk_at ?_); simp; done) | ((with_reducible refine blk_gw (blk_at ?_)); simp; done) | ((with_reducible refine blk_alloc (blk_at ?_)); simp; done) | ((with_reducible refine blk_gw (blk_alloc (blk_at ?_))); simp; done) | with_reducible assumption))) ?_; rintro e w1 ⟨rfl, q, rfl⟩) | (go_at_call 139; (with_reducible show Calls _ _ (#[Value.slice _ 4 _]) _ _); refine Calls.mono (gw_at (rfp4_b _ _ _ _ _ _ _ _ _ _ _ _ (by first | ((with_reducible refine blk_at ?_); simp; done) | ((with_reducible refine blk_gw (blk_at ?_)); simp; done) | ((with_reducible refine blk_alloc (blk_at ?_)); simp; done) | ((with_reducible refine blk_gw (blk_alloc (blk_at ?_))); simp; done) | with_reducible assumption))) ?_; rintro e w1 ⟨rfl, q, rfl⟩) | (go_at_call 139; (with_reducible show Calls _ _ (#[Value.slice _ (List.length _) _]) _ _); refine Calls.mono (gw_at (rfp_b _ _ _ _ (Pts.to (by with_reducible assumption) bBel) (by with_reducible assumption))) ?_; rintro e w1 ⟨rfl, q, rfl⟩) | (go_at_call 153; refine Calls.mono (gw_at (rorient_b _ _ _ _ _ _ _)) ?_; rintro e w1 ⟨rfl, q, rfl⟩) | (go_at_call 248; (first | (refine Calls.mono (gw_at (boolIs (rxovl_b _ _ _ _ _ _ _ _ _) (b := true) (by assumption))) ?_; rintro e w1 ⟨rfl, q, rfl⟩) | (refine Calls.mono (gw_at (boolIs (rxovl_b _ _ _ _ _ _ _ _ _) (b := false) (by assumption))) ?_; rintro e w1 ⟨rfl, q, rfl⟩) | (refine Calls.mono (gw_at (rxovl_b _ _ _ _ _ _ _ _ _)) ?_; rintro e w1 ⟨rfl, q, rfl⟩))))
    go_ret
    exact ⟨rfl, bBel⟩
  by_cases h2 : orient cx cy dx dy ax ay * orient cx cy dx dy bx b_y ≤ 0
  rotate_left
  focus
    rw [decide_eq_false h2, Bool.and_false, Bool.false_and]
    have h1b := decide_eq_true h1
    have h2b := decide_eq_false h2
    clear h1 h2
    go_enter Tryz.func207, Tryz.ntmps207
    go_wp2_with (first | (go_at_call 139; (with_reducible show Calls _ _ (#[Value.slice _ 2 _]) _ _); refine Calls.mono (gw_at (rfp2_b _ _ _ _ _ _ _ _ (by first | ((with_reducible refine blk_at ?_); simp; done) | ((with_reducible refine blk_gw (blk_at ?_)); simp; done) | ((with_reducible refine blk_alloc (blk_at ?_)); simp; done) | ((with_reducible refine blk_gw (blk_alloc (blk_at ?_))); simp; done) | with_reducible assumption))) ?_; rintro e w1 ⟨rfl, q, rfl⟩) | (go_at_call 139; (with_reducible show Calls _ _ (#[Value.slice _ 4 _]) _ _); refine Calls.mono (gw_at (rfp4_b _ _ _ _ _ _ _ _ _ _ _ _ (by first | ((with_reducible refine blk_at ?_); simp; done) | ((with_reducible refine blk_gw (blk_at ?_)); simp; done) | ((with_reducible refine blk_alloc (blk_at ?_)); simp; done) | ((with_reducible refine blk_gw (blk_alloc (blk_at ?_))); simp; done) | with_reducible assumption))) ?_; rintro e w1 ⟨rfl, q, rfl⟩) | (go_at_call 139; (with_reducible show Calls _ _ (#[Value.slice _ (List.length _) _]) _ _); refine Calls.mono (gw_at (rfp_b _ _ _ _ (Pts.to (by with_reducible assumption) bBel) (by with_reducible assumption))) ?_; rintro e w1 ⟨rfl, q, rfl⟩) | (go_at_call 153; refine Calls.mono (gw_at (rorient_b _ _ _ _ _ _ _)) ?_; rintro e w1 ⟨rfl, q, rfl⟩) | (go_at_call 248; (first | (refine Calls.mono (gw_at (boolIs (rxovl_b _ _ _ _ _ _ _ _ _) (b := true) (by assumption))) ?_; rintro e w1 ⟨rfl, q, rfl⟩) | (refine Calls.mono (gw_at (boolIs (rxovl_b _ _ _ _ _ _ _ _ _) (b := false) (by assumption))) ?_; rintro e w1 ⟨rfl, q, rfl⟩) | (refine Calls.mono (gw_at (rxovl_b _ _ _ _ _ _ _ _ _)) ?_; rintro e w1 ⟨rfl, q, rfl⟩))))
    repeat
      refine wp_region_gw (by kernel_rfl) (by kernel_rfl) ?_
      repeat (go_big_quiet_step ((first | (go_at_call 139; (with_reducible show Calls _ _ (#[Value.slice _ 2 _]) _ _); exact gw_call (rfp2_b _ _ _ _ _ _ _ _ (by first | ((with_reducible refine blk_at ?_); simp; done) | ((with_reducible refine blk_gw (blk_at ?_)); simp; done) | ((with_reducible refine blk_alloc (blk_at ?_)); simp; done) | ((with_reducible refine blk_gw (blk_alloc (blk_at ?_))); simp; done) | with_reducible assumption))) | (go_at_call 139; (with_reducible show Calls _ _ (#[Value.slice _ 4 _]) _ _); exact gw_call (rfp4_b _ _ _ _ _ _ _ _ _ _ _ _ (by first | ((with_reducible refine blk_at ?_); simp; done) | ((with_reducible refine blk_gw (blk_at ?_)); simp; done) | ((with_reducible refine blk_alloc (blk_at ?_)); simp; done) | ((with_reducible refine blk_gw (blk_alloc (blk_at ?_))); simp; done) | with_reducible assumption))) | (go_at_call 139; (with_reducible show Calls _ _ (#[Value.slice _ (List.length _) _]) _ _); exact gw_call (rfp_b _ _ _ _ (Pts.to (by with_reducible assumption) bBel) (by with_reducible assumption))) | (go_at_call 153; exact gw_call (rorient_b _ _ _ _ _ _ _)) | (go_at_call 248; (first | (exact gw_call (boolIs (rxovl_b _ _ _ _ _ _ _ _ _) (b := true) (by assumption))) | (exact gw_call (boolIs (rxovl_b _ _ _ _ _ _ _ _ _) (b := false) (by assumption))) | (exact gw_call (rxovl_b _ _ _ _ _ _ _ _ _)))))))
      refine wpQuiet_nil ?_
      intro w1 hw1
      obtain ⟨q, rfl⟩ := hw1
      go_wp2_with (first | (go_at_call 139; (with_reducible show Calls _ _ (#[Value.slice _ 2 _]) _ _); refine Calls.mono (gw_at (rfp2_b _ _ _ _ _ _ _ _ (by first | ((with_reducible refine blk_at ?_); simp; done) | ((with_reducible refine blk_gw (blk_at ?_)); simp; done) | ((with_reducible refine blk_alloc (blk_at ?_)); simp; done) | ((with_reducible refine blk_gw (blk_alloc (blk_at ?_))); simp; done) | with_reducible assumption))) ?_; rintro e w1 ⟨rfl, q, rfl⟩) | (go_at_call 139; (with_reducible show Calls _ _ (#[Value.slice _ 4 _]) _ _); refine Calls.mono (gw_at (rfp4_b _ _ _ _ _ _ _ _ _ _ _ _ (by first | ((with_reducible refine blk_at ?_); simp; done) | ((with_reducible refine blk_gw (blk_at ?_)); simp; done) | ((with_reducible refine blk_alloc (blk_at ?_)); simp; done) | ((with_reducible refine blk_gw (blk_alloc (blk_at ?_))); simp; done) | with_reducible assumption))) ?_; rintro e w1 ⟨rfl, q, rfl⟩) | (go_at_call 139; (with_reducible show Calls _ _ (#[Value.slice _ (List.length _) _]) _ _); refine Calls.mono (gw_at (rfp_b _ _ _ _ (Pts.to (by with_reducible assumption) bBel) (by with_reducible assumption))) ?_; rintro e w1 ⟨rfl, q, rfl⟩) | (go_at_call 153; refine Calls.mono (gw_at (rorient_b _ _ _ _ _ _ _)) ?_; rintro e w1 ⟨rfl, q, rfl⟩) | (go_at_call 248; (first | (refine Calls.mono (gw_at (boolIs (rxovl_b _ _ _ _ _ _ _ _ _) (b := true) (by assumption))) ?_; rintro e w1 ⟨rfl, q, rfl⟩) | (refine Calls.mono (gw_at (boolIs (rxovl_b _ _ _ _ _ _ _ _ _) (b := false) (by assumption))) ?_; rintro e w1 ⟨rfl, q, rfl⟩) | (refine Calls.mono (gw_at (rxovl_b _ _ _ _ _ _ _ _ _)) ?_; rintro e w1 ⟨rfl, q, rfl⟩))))
    go_ret
    exact ⟨rfl, bBel⟩
  rw [decide_eq_true h1, decide_eq_true h2, Bool.true_and, Bool.true_and]
  have h1b := decide_eq_true h1
  have h2b := decide_eq_true h2
  clear h1 h2
  cases V
  all_goals
    go_enter Tryz.func207, Tryz.ntmps207
    go_wp2_with (first | (go_at_call 139; (with_reducible show Calls _ _ (#[Value.slice _ 2 _]) _ _); refine Calls.mono (gw_at (rfp2_b _ _ _ _ _ _ _ _ (by first | ((with_reducible refine blk_at ?_); simp; done) | ((with_reducible refine blk_gw (blk_at ?_)); simp; done) | ((with_reducible refine blk_alloc (blk_at ?_)); simp; done) | ((with_reducible refine blk_gw (blk_alloc (blk_at ?_))); simp; done) | with_reducible assumption))) ?_; rintro e w1 ⟨rfl, q, rfl⟩) | (go_at_call 139; (with_reducible show Calls _ _ (#[Value.slice _ 4 _]) _ _); refine Calls.mono (gw_at (rfp4_b _ _ _ _ _ _ _ _ _ _ _ _ (by first | ((with_reducible refine blk_at ?_); simp; done) | ((with_reducible refine blk_gw (blk_at ?_)); simp; done) | ((with_reducible refine blk_alloc (blk_at ?_)); simp; done) | ((with_reducible refine blk_gw (blk_alloc (blk_at ?_))); simp; done) | with_reducible assumption))) ?_; rintro e w1 ⟨rfl, q, rfl⟩) | (go_at_call 139; (with_reducible show Calls _ _ (#[Value.slice _ (List.length _) _]) _ _); refine Calls.mono (gw_at (rfp_b _ _ _ _ (Pts.to (by with_reducible assumption) bBel) (by with_reducible assumption))) ?_; rintro e w1 ⟨rfl, q, rfl⟩) | (go_at_call 153; refine Calls.mono (gw_at (rorient_b _ _ _ _ _ _ _)) ?_; rintro e w1 ⟨rfl, q, rfl⟩) | (go_at_call 248; (first | (refine Calls.mono (gw_at (boolIs (rxovl_b _ _ _ _ _ _ _ _ _) (b := true) (by assumption))) ?_; rintro e w1 ⟨rfl, q, rfl⟩) | (refine Calls.mono (gw_at (boolIs (rxovl_b _ _ _ _ _ _ _ _ _) (b := false) (by assumption))) ?_; rintro e w1 ⟨rfl, q, rfl⟩) | (refine Calls.mono (gw_at (rxovl_b _ _ _ _ _ _ _ _ _)) ?_; rintro e w1 ⟨rfl, q, rfl⟩))))
    repeat
      refine wp_region_gw (by kernel_rfl) (by kernel_rfl) ?_
      repeat (go_big_quiet_step ((first | (go_at_call 139; (with_reducible show Calls _ _ (#[Value.slice _ 2 _]) _ _); exact gw_call (rfp2_b _ _ _ _ _ _ _ _ (by first | ((with_reducible refine blk_at ?_); simp; done) | ((with_reducible refine blk_gw (blk_at ?_)); simp; done) | ((with_reducible refine blk_alloc (blk_at ?_)); simp; done) | ((with_reducible refine blk_gw (blk_alloc (blk_at ?_))); simp; done) | with_reducible assumption))) | (go_at_call 139; (with_reducible show Calls _ _ (#[Value.slice _ 4 _]) _ _); exact gw_call (rfp4_b _ _ _ _ _ _ _ _ _ _ _ _ (by first | ((with_reducible refine blk_at ?_); simp; done) | ((with_reducible refine blk_gw (blk_at ?_)); simp; done) | ((with_reducible refine blk_alloc (blk_at ?_)); simp; done) | ((with_reducible refine blk_gw (blk_alloc (blk_at ?_))); simp; done) | with_reducible assumption))) | (go_at_call 139; (with_reducible show Calls _ _ (#[Value.slice _ (List.length _) _]) _ _); exact gw_call (rfp_b _ _ _ _ (Pts.to (by with_reducible assumption) bBel) (by with_reducible assumption))) | (go_at_call 153; exact gw_call (rorient_b _ _ _ _ _ _ _)) | (go_at_call 248; (first | (exact gw_call (boolIs (rxovl_b _ _ _ _ _ _ _ _ _) (b := true) (by assumption))) | (exact gw_call (boolIs (rxovl_b _ _ _ _ _ _ _ _ _) (b := false) (by assumption))) | (exact gw_call (rxovl_b _ _ _ _ _ _ _ _ _)))))))
      refine wpQuiet_nil ?_
      intro w1 hw1
      obtain ⟨q, rfl⟩ := hw1
      go_wp2_with (first | (go_at_call 139; (with_reducible show Calls _ _ (#[Value.slice _ 2 _]) _ _); refine Calls.mono (gw_at (rfp2_b _ _ _ _ _ _ _ _ (by first | ((with_reducible refine blk_at ?_); simp; done) | ((with_reducible refine blk_gw (blk_at ?_)); simp; done) | ((with_reducible refine blk_alloc (blk_at ?_)); simp; done) | ((with_reducible refine blk_gw (blk_alloc (blk_at ?_))); simp; done) | with_reducible assumption))) ?_; rintro e w1 ⟨rfl, q, rfl⟩) | (go_at_call 139; (with_reducible show Calls _ _ (#[Value.slice _ 4 _]) _ _); refine Calls.mono (gw_at (rfp4_b _ _ _ _ _ _ _ _ _ _ _ _ (by first | ((with_reducible refine blk_at ?_); simp; done) | ((with_reducible refine blk_gw (blk_at ?_)); simp; done) | ((with_reducible refine blk_alloc (blk_at ?_)); simp; done) | ((with_reducible refine blk_gw (blk_alloc (blk_at ?_))); simp; done) | with_reducible assumption))) ?_; rintro e w1 ⟨rfl, q, rfl⟩) | (go_at_call 139; (with_reducible show Calls _ _ (#[Value.slice _ (List.length _) _]) _ _); refine Calls.mono (gw_at (rfp_b _ _ _ _ (Pts.to (by with_reducible assumption) bBel) (by with_reducible assumption))) ?_; rintro e w1 ⟨rfl, q, rfl⟩) | (go_at_call 153; refine Calls.mono (gw_at (rorient_b _ _ _ _ _ _ _)) ?_; rintro e w1 ⟨rfl, q, rfl⟩) | (go_at_call 248; (first | (refine Calls.mono (gw_at (boolIs (rxovl_b _ _ _ _ _ _ _ _ _) (b := true) (by assumption))) ?_; rintro e w1 ⟨rfl, q, rfl⟩) | (refine Calls.mono (gw_at (boolIs (rxovl_b _ _ _ _ _ _ _ _ _) (b := false) (by assumption))) ?_; rintro e w1 ⟨rfl, q, rfl⟩) | (refine Calls.mono (gw_at (rxovl_b _ _ _ _ _ _ _ _ _)) ?_; rintro e w1 ⟨rfl, q, rfl⟩))))
    go_ret
    exact ⟨rfl, bBel⟩

end Go.Proofs.YtdmcdicphohlfaaGreat

set_option linter.unusedVariables false
namespace Go.Proofs.YtdmcdicphohlfaaGreat
open Go.RowKit Fx

theorem post_named {P : Program} {fn : Func} {R : Ending → World → Prop} {a : Act} {w : World} {x : Exit} (h : ∀ Z, Z = w → bodyPost P fn R x a Z) : bodyPost P fn R x a w := h w rfl

theorem cps_ss (ax ay bx b_y cx cy dx dy : Int) : cps (sat ax) (sat ay) (sat bx) (sat b_y) (sat cx) (sat cy) (sat dx) (sat dy) = cps ax ay bx b_y cx cy dx dy := by
  have e : sgt (sat ax) (sat ay) (sat bx) (sat b_y) (sat cx) (sat cy) (sat dx) (sat dy) = sgt ax ay bx b_y cx cy dx dy := by unfold sgt absc; simp only [det_ss]
  unfold cps best cand1 cand2 cand3 cand4
  simp only [isct_ss, e, lerp_ss, cpt_ss, cpc_ss, sat_sat]
theorem absc_in (cx cy dx dy px py : Int) : 0 ≤ absc cx cy dx dy px py ∧ absc cx cy dx dy px py ≤ 2305843009213693952 := by
  have hb : ∀ p q r s : Int, -1152921504606846976 ≤ (sat p - sat q) * (sat r - sat s) ∧ (sat p - sat q) * (sat r - sat s) ≤ 1152921504606846976 := fun p q r s => by
    have a0 := sat_le p; have a1 := sat_ge p; have b0 := sat_le q; have b1 := sat_ge q; have c0 := sat_le r; have c1 := sat_ge r; have d0 := sat_le s; have d1 := sat_ge s
    have := mul_between (a := sat p - sat q) (b := sat r - sat s) (A := 1073741824) (B := 1073741824) (by omega) (by omega) (by omega) (by omega)
    omega
  have h1 := hb dx cx py cy
  have h2 := hb dy cy px cx
  unfold absc det
  split <;> omega

set_option maxHeartbeats 8000000 in
theorem rcps1_b (a1 a2 b1 b2 c1 c2 d1 d2 : Int) (ax ay bx b_y cx cy dx dy : Int) (ha1 : sat ax = a1) (ha2 : sat ay = a2) (hb1 : sat bx = b1) (hb2 : sat b_y = b2) (hc1 : sat cx = c1) (hc2 : sat cy = c2) (hd1 : sat dx = d1) (hd2 : sat dy = d2) (hI : isct a1 a2 b1 b2 c1 c2 d1 d2 = true) (w : World) : Calls Tryz.prog 208 #[.agg #[.int .i64 ax, .int .i64 ay], .agg #[.int .i64 bx, .int .i64 b_y], .agg #[.int .i64 cx, .int .i64 cy], .agg #[.int .i64 dx, .int .i64 dy]] w fun e w' => e = .returned (.tuple #[.agg #[.int .i64 (cps a1 a2 b1 b2 c1 c2 d1 d2).px, .int .i64 (cps a1 a2 b1 b2 c1 c2 d1 d2).py], .agg #[.int .i64 (cps a1 a2 b1 b2 c1 c2 d1 d2).qx, .int .i64 (cps a1 a2 b1 b2 c1 c2 d1 d2).qy]]) ∧ Below w.heap.size w w' := by
  have ga1 : -536870911 ≤ a1 ∧ a1 ≤ 536870911 := ha1 ▸ ⟨sat_ge _, sat_le _⟩
  have ga2 : -536870911 ≤ a2 ∧ a2 ≤ 536870911 := ha2 ▸ ⟨sat_ge _, sat_le _⟩
  have gb1 : -536870911 ≤ b1 ∧ b1 ≤ 536870911 := hb1 ▸ ⟨sat_ge _, sat_le _⟩
  have gb2 : -536870911 ≤ b2 ∧ b2 ≤ 536870911 := hb2 ▸ ⟨sat_ge _, sat_le _⟩
  have gc1 : -536870911 ≤ c1 ∧ c1 ≤ 536870911 := hc1 ▸ ⟨sat_ge _, sat_le _⟩
  have gc2 : -536870911 ≤ c2 ∧ c2 ≤ 536870911 := hc2 ▸ ⟨sat_ge _, sat_le _⟩
  have gd1 : -536870911 ≤ d1 ∧ d1 ≤ 536870911 := hd1 ▸ ⟨sat_ge _, sat_le _⟩
  have gd2 : -536870911 ≤ d2 ∧ d2 ≤ 536870911 := hd2 ▸ ⟨sat_ge _, sat_le _⟩
  have hC : cps a1 a2 b1 b2 c1 c2 d1 d2 = ⟨lerp a1 b1 (sgt a1 a2 b1 b2 c1 c2 d1 d2), lerp a2 b2 (sgt a1 a2 b1 b2 c1 c2 d1 d2), lerp a1 b1 (sgt a1 a2 b1 b2 c1 c2 d1 d2), lerp a2 b2 (sgt a1 a2 b1 b2 c1 c2 d1 d2)⟩ := if_pos hI
  rw [hC]
  dsimp only
  obtain ⟨x0, x1⟩ := absc_in c1 c2 d1 d2 a1 a2
  obtain ⟨y0, y1⟩ := absc_in c1 c2 d1 d2 b1 b2
  have ht : ratio (absc c1 c2 d1 d2 a1 a2) (absc c1 c2 d1 d2 a1 a2 + absc c1 c2 d1 d2 b1 b2) = sgt a1 a2 b1 b2 c1 c2 d1 d2 := rfl
  generalize sgt a1 a2 b1 b2 c1 c2 d1 d2 = t at *
  clear hC
  go_enter Tryz.func208, Tryz.ntmps208
  go_wp2_with (first | (go_at_call 249; refine Calls.mono (gw_at (rsgsat_b _ _ _)) ?_; rintro e w1 ⟨rfl, q, rfl⟩) | (go_at_call 207; (first | (refine Calls.mono (gw_at (boolIs (risct_b _ _ _ _ _ _ _ _ _) (b := true) (by assumption))) ?_; rintro e w1 ⟨rfl, q, rfl⟩) | (refine Calls.mono (gw_at (boolIs (risct_b _ _ _ _ _ _ _ _ _) (b := false) (by assumption))) ?_; rintro e w1 ⟨rfl, q, rfl⟩) | (refine Calls.mono (gw_at (risct_b _ _ _ _ _ _ _ _ _)) ?_; rintro e w1 ⟨rfl, q, rfl⟩))) | (go_at_call 250; refine Calls.mono (gw_at (rabsc_b _ _ _ _ _ _ (by with_reducible assumption) (by with_reducible assumption) (by with_reducible assumption) (by with_reducible assumption) (by with_reducible assumption) (by with_reducible assumption) _)) ?_; rintro e w1 ⟨rfl, q, rfl⟩) | (go_at_call 251; refine Calls.mono (gw_at (rrt_b _ _ _)) ?_; rintro e w1 ⟨rfl, q, rfl⟩) | (go_at_call 196; refine Calls.mono (gw_at (rvlerp_b _ _ _ _ _ _)) ?_; rintro e w1 ⟨rfl, q, rfl⟩) | (go_at_call 252; refine Calls.mono (gw_at (rcp_b _ _ _ _ _ _ _)) ?_; rintro e w1 ⟨rfl, q, rfl⟩) | (go_at_call 209; refine Calls.mono (gw_at (rdist2_b _ _ _ _ _)) ?_; rintro e w1 ⟨rfl, q, rfl⟩))
  repeat
    first
      | (refine wp_region_gw_tail 8 (by kernel_rfl) (by decide +kernel) ?_
         simp only [List.take_succ_cons, List.take_zero, List.drop_succ_cons, List.drop_zero]
         repeat (go_big_quiet_step ((first | (go_at_call 249; exact gw_call (rsgsat_b _ _ _)) | (go_at_call 207; (first | (exact gw_call (boolIs (risct_b _ _ _ _ _ _ _ _ _) (b := true) (by assumption))) | (exact gw_call (boolIs (risct_b _ _ _ _ _ _ _ _ _) (b := false) (by assumption))) | (exact gw_call (risct_b _ _ _ _ _ _ _ _ _)))) | (go_at_call 250; exact gw_call (rabsc_b _ _ _ _ _ _ (by with_reducible assumption) (by with_reducible assumption) (by with_reducible assumption) (by with_reducible assumption) (by with_reducible assumption) (by with_reducible assumption) _)) | (go_at_call 251; exact gw_call (rrt_b _ _ _)) | (go_at_call 196; exact gw_call (rvlerp_b _ _ _ _ _ _)) | (go_at_call 252; exact gw_call (rcp_b _ _ _ _ _ _ _)) | (go_at_call 209; exact gw_call (rdist2_b _ _ _ _ _)))))
         refine wpQuiet_nil ?_
         intro w1 hw1
         obtain ⟨q, rfl⟩ := hw1)
      | (refine wp_region_gw (by kernel_rfl) (by decide +kernel) ?_
         repeat (go_big_quiet_step ((first | (go_at_call 249; exact gw_call (rsgsat_b _ _ _)) | (go_at_call 207; (first | (exact gw_call (boolIs (risct_b _ _ _ _ _ _ _ _ _) (b := true) (by assumption))) | (exact gw_call (boolIs (risct_b _ _ _ _ _ _ _ _ _) (b := false) (by assumption))) | (exact gw_call (risct_b _ _ _ _ _ _ _ _ _)))) | (go_at_call 250; exact gw_call (rabsc_b _ _ _ _ _ _ (by with_reducible assumption) (by with_reducible assumption) (by with_reducible assumption) (by with_reducible assumption) (by with_reducible assumption) (by with_reducible assumption) _)) | (go_at_call 251; exact gw_call (rrt_b _ _ _)) | (go_at_call 196; exact gw_call (rvlerp_b _ _ _ _ _ _)) | (go_at_call 252; exact gw_call (rcp_b _ _ _ _ _ _ _)) | (go_at_call 209; exact gw_call (rdist2_b _ _ _ _ _)))))
         refine wpQuiet_nil ?_
         intro w1 hw1
         obtain ⟨q, rfl⟩ := hw1)
      | (apply wp_box1 9 111 8 12 #[.int .i64 0, .int .i64 0] 24 (by kernel_rfl) (by rfl) (by decide +kernel) (by intro o ho a w; simp at ho; subst ho; simp [go_sem, ptr])
         · intro p0
           simp only [heads, ghost, List.take_succ_cons, List.take_zero, List.map_cons, List.map_nil]
           repeat (go_big_quiet_step ((first | (go_at_call 249; exact gw_call (rsgsat_b _ _ _)) | (go_at_call 207; (first | (exact gw_call (boolIs (risct_b _ _ _ _ _ _ _ _ _) (b := true) (by assumption))) | (exact gw_call (boolIs (risct_b _ _ _ _ _ _ _ _ _) (b := false) (by assumption))) | (exact gw_call (risct_b _ _ _ _ _ _ _ _ _)))) | (go_at_call 250; exact gw_call (rabsc_b _ _ _ _ _ _ (by with_reducible assumption) (by with_reducible assumption) (by with_reducible assumption) (by with_reducible assumption) (by with_reducible assumption) (by with_reducible assumption) _)) | (go_at_call 251; exact gw_call (rrt_b _ _ _)) | (go_at_call 196; exact gw_call (rvlerp_b _ _ _ _ _ _)) | (go_at_call 252; exact gw_call (rcp_b _ _ _ _ _ _ _)) | (go_at_call 209; exact gw_call (rdist2_b _ _ _ _ _)))))
           exact wpQuiet_nil rfl
         · intro R bB p0 nB gB  kB hK
           simp only [List.drop_succ_cons, List.drop_zero, Act.put, ptr, List.setIfInBounds_toArray, List.set_cons_succ, List.set_cons_zero]
           have cB_0 : _ = some _ := blk_cell kB 0
           have cB_1 : _ = some _ := blk_cell kB 1
           have fB_0 := blk_free kB 0
           have fB_1 := blk_free kB 1
           have oB := blk_older kB
           go_wp2_with fail
           refine box_end1 gB hK ?_ ?_
           · exact bBel
           · exact (by repeat' (first | with_reducible assumption | with_reducible apply blk_gw | with_reducible apply blk_alloc | with_reducible apply blk_set | ((with_reducible apply blk_other); focus (first | omega | assumption))))
         intro bB p0 nB  kB
         have cB_0 : _ = some _ := blk_cell kB 0
         have cB_1 : _ = some _ := blk_cell kB 1
         have fB_0 := blk_free kB 0
         have fB_1 := blk_free kB 1
         have oB := blk_older kB)
      | (refine wp_region_gw_tail 2 (by kernel_rfl) (by decide +kernel) ?_
         simp only [List.take_succ_cons, List.take_zero, List.drop_succ_cons, List.drop_zero]
         repeat (go_big_quiet_step ((first | (go_at_call 249; exact gw_call (rsgsat_b _ _ _)) | (go_at_call 207; (first | (exact gw_call (boolIs (risct_b _ _ _ _ _ _ _ _ _) (b := true) (by assumption))) | (exact gw_call (boolIs (risct_b _ _ _ _ _ _ _ _ _) (b := false) (by assumption))) | (exact gw_call (risct_b _ _ _ _ _ _ _ _ _)))) | (go_at_call 250; exact gw_call (rabsc_b _ _ _ _ _ _ (by with_reducible assumption) (by with_reducible assumption) (by with_reducible assumption) (by with_reducible assumption) (by with_reducible assumption) (by with_reducible assumption) _)) | (go_at_call 251; exact gw_call (rrt_b _ _ _)) | (go_at_call 196; exact gw_call (rvlerp_b _ _ _ _ _ _)) | (go_at_call 252; exact gw_call (rcp_b _ _ _ _ _ _ _)) | (go_at_call 209; exact gw_call (rdist2_b _ _ _ _ _)))))
         refine wpQuiet_nil ?_
         intro w1 hw1
         obtain ⟨q, rfl⟩ := hw1)
      | (apply wp_box2 4 111 2 13 3 14 #[.int .i64 0, .int .i64 0] #[.int .i64 0, .int .i64 0] 24 24 (by kernel_rfl) (by rfl) (by decide +kernel) (by rfl) (by intro o ho a w; simp at ho; subst ho; simp [go_sem, ptr]) (by intro o ho a w; simp at ho; subst ho; simp [go_sem, ptr])
         · intro p0
           simp only [heads, ghost, List.take_succ_cons, List.take_zero, List.map_cons, List.map_nil]
           repeat (go_big_quiet_step ((first | (go_at_call 249; exact gw_call (rsgsat_b _ _ _)) | (go_at_call 207; (first | (exact gw_call (boolIs (risct_b _ _ _ _ _ _ _ _ _) (b := true) (by assumption))) | (exact gw_call (boolIs (risct_b _ _ _ _ _ _ _ _ _) (b := false) (by assumption))) | (exact gw_call (risct_b _ _ _ _ _ _ _ _ _)))) | (go_at_call 250; exact gw_call (rabsc_b _ _ _ _ _ _ (by with_reducible assumption) (by with_reducible assumption) (by with_reducible assumption) (by with_reducible assumption) (by with_reducible assumption) (by with_reducible assumption) _)) | (go_at_call 251; exact gw_call (rrt_b _ _ _)) | (go_at_call 196; exact gw_call (rvlerp_b _ _ _ _ _ _)) | (go_at_call 252; exact gw_call (rcp_b _ _ _ _ _ _ _)) | (go_at_call 209; exact gw_call (rdist2_b _ _ _ _ _)))))
           exact wpQuiet_nil rfl
         · intro R bB1 bB2 p0 nB1 nB2 gB1 gB2 neB01 neB01' kB1 kB2 hK
           simp only [List.drop_succ_cons, List.drop_zero, Act.put, ptr, List.setIfInBounds_toArray, List.set_cons_succ, List.set_cons_zero]
           have cB1_0 : _ = some _ := blk_cell kB1 0
           have cB1_1 : _ = some _ := blk_cell kB1 1
           have cB2_0 : _ = some _ := blk_cell kB2 0
           have cB2_1 : _ = some _ := blk_cell kB2 1
           have fB1_0 := blk_free kB1 0
           have fB1_1 := blk_free kB1 1
           have fB2_0 := blk_free kB2 0
           have fB2_1 := blk_free kB2 1
           have oB1 := blk_older kB1
           have oB2 := blk_older kB2
           go_wp2_with fail
           refine box_end2 gB1 gB2 hK ?_ ?_ ?_
           · exact bBel
           · exact (by repeat' (first | with_reducible assumption | with_reducible apply blk_gw | with_reducible apply blk_alloc | with_reducible apply blk_set | ((with_reducible apply blk_other); focus (first | omega | assumption))))
           · exact (by repeat' (first | with_reducible assumption | with_reducible apply blk_gw | with_reducible apply blk_alloc | with_reducible apply blk_set | ((with_reducible apply blk_other); focus (first | omega | assumption))))
         intro bB1 bB2 p0 nB1 nB2 neB01 neB01' kB1 kB2
         have cB1_0 : _ = some _ := blk_cell kB1 0
         have cB1_1 : _ = some _ := blk_cell kB1 1
         have cB2_0 : _ = some _ := blk_cell kB2 0
         have cB2_1 : _ = some _ := blk_cell kB2 1
         have fB1_0 := blk_free kB1 0
         have fB1_1 := blk_free kB1 1
         have fB2_0 := blk_free kB2 0
         have fB2_1 := blk_free kB2 1
         have oB1 := blk_older kB1
         have oB2 := blk_older kB2)
    go_wp2_with (first | (go_at_call 249; refine Calls.mono (gw_at (rsgsat_b _ _ _)) ?_; rintro e w1 ⟨rfl, q, rfl⟩) | (go_at_call 207; (first | (refine Calls.mono (gw_at (boolIs (risct_b _ _ _ _ _ _ _ _ _) (b := true) (by assumption))) ?_; rintro e w1 ⟨rfl, q, rfl⟩) | (refine Calls.mono (gw_at (boolIs (risct_b _ _ _ _ _ _ _ _ _) (b := false) (by assumption))) ?_; rintro e w1 ⟨rfl, q, rfl⟩) | (refine Calls.mono (gw_at (risct_b _ _ _ _ _ _ _ _ _)) ?_; rintro e w1 ⟨rfl, q, rfl⟩))) | (go_at_call 250; refine Calls.mono (gw_at (rabsc_b _ _ _ _ _ _ (by with_reducible assumption) (by with_reducible assumption) (by with_reducible assumption) (by with_reducible assumption) (by with_reducible assumption) (by with_reducible assumption) _)) ?_; rintro e w1 ⟨rfl, q, rfl⟩) | (go_at_call 251; refine Calls.mono (gw_at (rrt_b _ _ _)) ?_; rintro e w1 ⟨rfl, q, rfl⟩) | (go_at_call 196; refine Calls.mono (gw_at (rvlerp_b _ _ _ _ _ _)) ?_; rintro e w1 ⟨rfl, q, rfl⟩) | (go_at_call 252; refine Calls.mono (gw_at (rcp_b _ _ _ _ _ _ _)) ?_; rintro e w1 ⟨rfl, q, rfl⟩) | (go_at_call 209; refine Calls.mono (gw_at (rdist2_b _ _ _ _ _)) ?_; rintro e w1 ⟨rfl, q, rfl⟩))
  refine wp_named ?_
  intro W hW
  have hbW : Below w.heap.size w W := by rw [hW]; exact bBel
  have kP : blk W bB #[.int .i64 (lerp a1 b1 t), .int .i64 (lerp a2 b2 t)] 24 := by rw [hW]; exact kB
  have k8 : blk W (w.heap.size + 1 + 1 + 1 + 1) #[.int .i64 0, .int .i64 0] 24 := by rw [hW]; exact bBkn
  have k9 : blk W (w.heap.size + 1 + 1 + 1 + 1 + 1) #[.int .i64 0, .int .i64 0] 24 := by rw [hW]; exact bBkn
  have hszW := hbW.size
  have hn8 : w.heap.size + 1 + 1 + 1 + 1 < bB := by have := newer_ge nB; simp at this; omega
  have hn9 : w.heap.size + 1 + 1 + 1 + 1 + 1 < bB := by have := newer_ge nB; simp at this; omega
  clear hW kB cB_0 cB_1 fB_0 fB_1 oB nB
  generalize hB8 : w.heap.size + 1 + 1 + 1 + 1 = B8 at *
  have h89 : B8 < B8 + 1 := by omega
  generalize hB9 : B8 + 1 = B9 at *
  have h08 : w.heap.size ≤ B8 := by omega
  have h09 : w.heap.size ≤ B9 := by omega
  clear hB8 hB9
  have okP := blk_older kP
  have ckP_0 : _ = some _ := blk_cell kP 0
  have ckP_1 : _ = some _ := blk_cell kP 1
  have fkP_0 := blk_free kP 0
  have fkP_1 := blk_free kP 1
  have ok8 := blk_older k8
  have ck8_0 : _ = some _ := blk_cell k8 0
  have ck8_1 : _ = some _ := blk_cell k8 1
  have fk8_0 := blk_free k8 0
  have fk8_1 := blk_free k8 1
  have ok9 := blk_older k9
  have ck9_0 : _ = some _ := blk_cell k9 0
  have ck9_1 : _ = some _ := blk_cell k9 1
  have fk9_0 := blk_free k9 0
  have fk9_1 := blk_free k9 1
  have m8 : blk ((W.setCell ⟨B8, 0, none⟩ (.int .i64 (lerp a1 b1 t))).setCell ⟨B8, 1, none⟩ (.int .i64 (lerp a2 b2 t))) B8 #[.int .i64 (lerp a1 b1 t), .int .i64 (lerp a2 b2 t)] 24 := (by apply blk_of; (repeat (first | with_reducible exact k8 | with_reducible apply blk_drew | with_reducible apply blk_gw | with_reducible apply blk_alloc | with_reducible apply blk_set | ((with_reducible apply blk_other); focus omega))); (first | rfl | simp))
  have mP : blk ((W.setCell ⟨B8, 0, none⟩ (.int .i64 (lerp a1 b1 t))).setCell ⟨B8, 1, none⟩ (.int .i64 (lerp a2 b2 t))) bB #[.int .i64 (lerp a1 b1 t), .int .i64 (lerp a2 b2 t)] 24 := (by apply blk_of; (repeat (first | with_reducible exact kP | with_reducible apply blk_drew | with_reducible apply blk_gw | with_reducible apply blk_alloc | with_reducible apply blk_set | ((with_reducible apply blk_other); focus omega))); (first | rfl | simp))
  have m9 : blk ((W.setCell ⟨B8, 0, none⟩ (.int .i64 (lerp a1 b1 t))).setCell ⟨B8, 1, none⟩ (.int .i64 (lerp a2 b2 t))) B9 #[.int .i64 0, .int .i64 0] 24 := (by apply blk_of; (repeat (first | with_reducible exact k9 | with_reducible apply blk_drew | with_reducible apply blk_gw | with_reducible apply blk_alloc | with_reducible apply blk_set | ((with_reducible apply blk_other); focus omega))); (first | rfl | simp))
  have omP := blk_older mP
  have cmP_0 : _ = some _ := blk_cell mP 0
  have cmP_1 : _ = some _ := blk_cell mP 1
  have fmP_0 := blk_free mP 0
  have fmP_1 := blk_free mP 1
  have om9 := blk_older m9
  have cm9_0 : _ = some _ := blk_cell m9 0
  have cm9_1 : _ = some _ := blk_cell m9 1
  have fm9_0 := blk_free m9 0
  have fm9_1 := blk_free m9 1
  go_region
  go_wp2_with fail
  refine post_named ?_
  intro Z hZ
  have z8 : blk Z B8 #[.int .i64 (lerp a1 b1 t), .int .i64 (lerp a2 b2 t)] 24 := by rw [hZ]; exact (by apply blk_of; (repeat (first | with_reducible exact m8 | with_reducible apply blk_drew | with_reducible apply blk_gw | with_reducible apply blk_alloc | with_reducible apply blk_set | ((with_reducible apply blk_other); focus omega))); (first | rfl | simp))
  have z9 : blk Z B9 #[.int .i64 (lerp a1 b1 t), .int .i64 (lerp a2 b2 t)] 24 := by rw [hZ]; exact (by apply blk_of; (repeat (first | with_reducible exact m9 | with_reducible apply blk_drew | with_reducible apply blk_gw | with_reducible apply blk_alloc | with_reducible apply blk_set | ((with_reducible apply blk_other); focus omega))); (first | rfl | simp))
  have hbZ : Below w.heap.size w Z := by rw [hZ]; exact bBel
  clear hZ
  have oz8 := blk_older z8
  have cz8_0 : _ = some _ := blk_cell z8 0
  have cz8_1 : _ = some _ := blk_cell z8 1
  have fz8_0 := blk_free z8 0
  have fz8_1 := blk_free z8 1
  have oz9 := blk_older z9
  have cz9_0 : _ = some _ := blk_cell z9 0
  have cz9_1 : _ = some _ := blk_cell z9 1
  have fz9_0 := blk_free z9 0
  have fz9_1 := blk_free z9 1
  exact bodyPost_ret (v := .tuple #[.agg #[.int .i64 (lerp a1 b1 t), .int .i64 (lerp a2 b2 t)], .agg #[.int .i64 (lerp a1 b1 t), .int .i64 (lerp a2 b2 t)]]) (by simp [results, Tryz.results208, go_sem, cz8_0, cz8_1, cz9_0, cz9_1]) rfl ⟨rfl, hbZ⟩

set_option maxRecDepth 100000 in
set_option maxHeartbeats 8000000 in
theorem rcps0_b (a1 a2 b1 b2 c1 c2 d1 d2 : Int) (ax ay bx b_y cx cy dx dy : Int) (ha1 : sat ax = a1) (ha2 : sat ay = a2) (hb1 : sat bx = b1) (hb2 : sat b_y = b2) (hc1 : sat cx = c1) (hc2 : sat cy = c2) (hd1 : sat dx = d1) (hd2 : sat dy = d2) (hI : isct a1 a2 b1 b2 c1 c2 d1 d2 = false) (w : World) : Calls Tryz.prog 208 #[.agg #[.int .i64 ax, .int .i64 ay], .agg #[.int .i64 bx, .int .i64 b_y], .agg #[.int .i64 cx, .int .i64 cy], .agg #[.int .i64 dx, .int .i64 dy]] w fun e w' => e = .returned (.tuple #[.agg #[.int .i64 (cps a1 a2 b1 b2 c1 c2 d1 d2).px, .int .i64 (cps a1 a2 b1 b2 c1 c2 d1 d2).py], .agg #[.int .i64 (cps a1 a2 b1 b2 c1 c2 d1 d2).qx, .int .i64 (cps a1 a2 b1 b2 c1 c2 d1 d2).qy]]) ∧ Below w.heap.size w w' := by
  have sa1 : sat a1 = a1 := by rw [← ha1, sat_sat]
  have sa2 : sat a2 = a2 := by rw [← ha2, sat_sat]
  have sb1 : sat b1 = b1 := by rw [← hb1, sat_sat]
  have sb2 : sat b2 = b2 := by rw [← hb2, sat_sat]
  have sc1 : sat c1 = c1 := by rw [← hc1, sat_sat]
  have sc2 : sat c2 = c2 := by rw [← hc2, sat_sat]
  have sd1 : sat d1 = d1 := by rw [← hd1, sat_sat]
  have sd2 : sat d2 = d2 := by rw [← hd2, sat_sat]
  obtain ⟨u1, hu1⟩ : ∃ v, cpc (cpt c1 c2 d1 d2 a1 a2) c1 d1 = v := ⟨_, rfl⟩
  obtain ⟨u2, hu2⟩ : ∃ v, cpc (cpt c1 c2 d1 d2 a1 a2) c2 d2 = v := ⟨_, rfl⟩
  obtain ⟨v1, hv1⟩ : ∃ v, cpc (cpt c1 c2 d1 d2 b1 b2) c1 d1 = v := ⟨_, rfl⟩
  obtain ⟨v2, hv2⟩ : ∃ v, cpc (cpt c1 c2 d1 d2 b1 b2) c2 d2 = v := ⟨_, rfl⟩
  obtain ⟨x1, hx1⟩ : ∃ v, cpc (cpt a1 a2 b1 b2 c1 c2) a1 b1 = v := ⟨_, rfl⟩
  obtain ⟨x2, hx2⟩ : ∃ v, cpc (cpt a1 a2 b1 b2 c1 c2) a2 b2 = v := ⟨_, rfl⟩
  obtain ⟨y1, hy1⟩ : ∃ v, cpc (cpt a1 a2 b1 b2 d1 d2) a1 b1 = v := ⟨_, rfl⟩
  obtain ⟨y2, hy2⟩ : ∃ v, cpc (cpt a1 a2 b1 b2 d1 d2) a2 b2 = v := ⟨_, rfl⟩
  have hC : cps a1 a2 b1 b2 c1 c2 d1 d2 = (((Pp.mk a1 a2 u1 u2).pick ⟨b1, b2, v1, v2⟩).pick ⟨x1, x2, c1, c2⟩).pick ⟨y1, y2, d1, d2⟩ := by
    unfold cps
    rw [hI, if_neg (by simp)]
    unfold best cand1 cand2 cand3 cand4
    rw [sa1, sa2, sb1, sb2, sc1, sc2, sd1, sd2, hu1, hu2, hv1, hv2, hx1, hx2, hy1, hy2]
  rw [hC]
  generalize hO1 : Pp.mk a1 a2 u1 u2 = O1
  generalize hO2 : O1.pick ⟨b1, b2, v1, v2⟩ = O2
  generalize hO3 : O2.pick ⟨x1, x2, c1, c2⟩ = O3
  generalize hO4 : O3.pick ⟨y1, y2, d1, d2⟩ = O4
  clear hC sa1 sa2 sb1 sb2 sc1 sc2 sd1 sd2
  go_enter Tryz.func208, Tryz.ntmps208
  go_wp2_with (first | (go_at_call 249; refine Calls.mono (gw_at (rsgsat_b _ _ _)) ?_; rintro e w1 ⟨rfl, q, rfl⟩) | (go_at_call 207; (first | (refine Calls.mono (gw_at (boolIs (risct_b _ _ _ _ _ _ _ _ _) (b := true) (by assumption))) ?_; rintro e w1 ⟨rfl, q, rfl⟩) | (refine Calls.mono (gw_at (boolIs (risct_b _ _ _ _ _ _ _ _ _) (b := false) (by assumption))) ?_; rintro e w1 ⟨rfl, q, rfl⟩) | (refine Calls.mono (gw_at (risct_b _ _ _ _ _ _ _ _ _)) ?_; rintro e w1 ⟨rfl, q, rfl⟩))) | (go_at_call 250; refine Calls.mono (gw_at (rabsc_b _ _ _ _ _ _ (by with_reducible assumption) (by with_reducible assumption) (by with_reducible assumption) (by with_reducible assumption) (by with_reducible assumption) (by with_reducible assumption) _)) ?_; rintro e w1 ⟨rfl, q, rfl⟩) | (go_at_call 251; refine Calls.mono (gw_at (rrt_b _ _ _)) ?_; rintro e w1 ⟨rfl, q, rfl⟩) | (go_at_call 196; refine Calls.mono (gw_at (rvlerp_b _ _ _ _ _ _)) ?_; rintro e w1 ⟨rfl, q, rfl⟩) | (go_at_call 252; refine Calls.mono (gw_at (rcp_b _ _ _ _ _ _ _)) ?_; rintro e w1 ⟨rfl, q, rfl⟩) | (go_at_call 209; refine Calls.mono (gw_at (rdist2_b _ _ _ _ _)) ?_; rintro e w1 ⟨rfl, q, rfl⟩))
  first
    | (refine wp_region_gw_tail 8 (by kernel_rfl) (by decide +kernel) ?_
       simp only [List.take_succ_cons, List.take_zero, List.drop_succ_cons, List.drop_zero]
       repeat (go_big_quiet_step ((first | (go_at_call 249; exact gw_call (rsgsat_b _ _ _)) | (go_at_call 207; (first | (exact gw_call (boolIs (risct_b _ _ _ _ _ _ _ _ _) (b := true) (by assumption))) | (exact gw_call (boolIs (risct_b _ _ _ _ _ _ _ _ _) (b := false) (by assumption))) | (exact gw_call (risct_b _ _ _ _ _ _ _ _ _)))) | (go_at_call 250; exact gw_call (rabsc_b _ _ _ _ _ _ (by with_reducible assumption) (by with_reducible assumption) (by with_reducible assumption) (by with_reducible assumption) (by with_reducible assumption) (by with_reducible assumption) _)) | (go_at_call 251; exact gw_call (rrt_b _ _ _)) | (go_at_call 196; exact gw_call (rvlerp_b _ _ _ _ _ _)) | (go_at_call 252; exact gw_call (rcp_b _ _ _ _ _ _ _)) | (go_at_call 209; exact gw_call (rdist2_b _ _ _ _ _)))))
       refine wpQuiet_nil ?_
       intro w1 hw1
       obtain ⟨q, rfl⟩ := hw1)
    | (refine wp_region_gw (by kernel_rfl) (by decide +kernel) ?_
       repeat (go_big_quiet_step ((first | (go_at_call 249; exact gw_call (rsgsat_b _ _ _)) | (go_at_call 207; (first | (exact gw_call (boolIs (risct_b _ _ _ _ _ _ _ _ _) (b := true) (by assumption))) | (exact gw_call (boolIs (risct_b _ _ _ _ _ _ _ _ _) (b := false) (by assumption))) | (exact gw_call (risct_b _ _ _ _ _ _ _ _ _)))) | (go_at_call 250; exact gw_call (rabsc_b _ _ _ _ _ _ (by with_reducible assumption) (by with_reducible assumption) (by with_reducible assumption) (by with_reducible assumption) (by with_reducible assumption) (by with_reducible assumption) _)) | (go_at_call 251; exact gw_call (rrt_b _ _ _)) | (go_at_call 196; exact gw_call (rvlerp_b _ _ _ _ _ _)) | (go_at_call 252; exact gw_call (rcp_b _ _ _ _ _ _ _)) | (go_at_call 209; exact gw_call (rdist2_b _ _ _ _ _)))))
       refine wpQuiet_nil ?_
       intro w1 hw1
       obtain ⟨q, rfl⟩ := hw1)
    | (apply wp_box1 9 111 8 12 #[.int .i64 0, .int .i64 0] 24 (by kernel_rfl) (by rfl) (by decide +kernel) (by intro o ho a w; simp at ho; subst ho; simp [go_sem, ptr])
       · intro p0
         simp only [heads, ghost, List.take_succ_cons, List.take_zero, List.map_cons, List.map_nil]
         repeat (go_big_quiet_step ((first | (go_at_call 249; exact gw_call (rsgsat_b _ _ _)) | (go_at_call 207; (first | (exact gw_call (boolIs (risct_b _ _ _ _ _ _ _ _ _) (b := true) (by assumption))) | (exact gw_call (boolIs (risct_b _ _ _ _ _ _ _ _ _) (b := false) (by assumption))) | (exact gw_call (risct_b _ _ _ _ _ _ _ _ _)))) | (go_at_call 250; exact gw_call (rabsc_b _ _ _ _ _ _ (by with_reducible assumption) (by with_reducible assumption) (by with_reducible assumption) (by with_reducible assumption) (by with_reducible assumption) (by with_reducible assumption) _)) | (go_at_call 251; exact gw_call (rrt_b _ _ _)) | (go_at_call 196; exact gw_call (rvlerp_b _ _ _ _ _ _)) | (go_at_call 252; exact gw_call (rcp_b _ _ _ _ _ _ _)) | (go_at_call 209; exact gw_call (rdist2_b _ _ _ _ _)))))
         exact wpQuiet_nil rfl
       · intro R bB p0 nB gB  kB hK
         simp only [List.drop_succ_cons, List.drop_zero, Act.put, ptr, List.setIfInBounds_toArray, List.set_cons_succ, List.set_cons_zero]
         have cB_0 : _ = some _ := blk_cell kB 0
         have cB_1 : _ = some _ := blk_cell kB 1
         have fB_0 := blk_free kB 0
         have fB_1 := blk_free kB 1
         have oB := blk_older kB
         go_wp2_with fail
         refine box_end1 gB hK ?_ ?_
         · exact bBel
         · exact (by repeat' (first | with_reducible assumption | with_reducible apply blk_gw | with_reducible apply blk_alloc | with_reducible apply blk_set | ((with_reducible apply blk_other); focus (first | omega | assumption))))
       intro bB p0 nB  kB
       have cB_0 : _ = some _ := blk_cell kB 0
       have cB_1 : _ = some _ := blk_cell kB 1
       have fB_0 := blk_free kB 0
       have fB_1 := blk_free kB 1
       have oB := blk_older kB)
    | (refine wp_region_gw_tail 2 (by kernel_rfl) (by decide +kernel) ?_
       simp only [List.take_succ_cons, List.take_zero, List.drop_succ_cons, List.drop_zero]
       repeat (go_big_quiet_step ((first | (go_at_call 249; exact gw_call (rsgsat_b _ _ _)) | (go_at_call 207; (first | (exact gw_call (boolIs (risct_b _ _ _ _ _ _ _ _ _) (b := true) (by assumption))) | (exact gw_call (boolIs (risct_b _ _ _ _ _ _ _ _ _) (b := false) (by assumption))) | (exact gw_call (risct_b _ _ _ _ _ _ _ _ _)))) | (go_at_call 250; exact gw_call (rabsc_b _ _ _ _ _ _ (by with_reducible assumption) (by with_reducible assumption) (by with_reducible assumption) (by with_reducible assumption) (by with_reducible assumption) (by with_reducible assumption) _)) | (go_at_call 251; exact gw_call (rrt_b _ _ _)) | (go_at_call 196; exact gw_call (rvlerp_b _ _ _ _ _ _)) | (go_at_call 252; exact gw_call (rcp_b _ _ _ _ _ _ _)) | (go_at_call 209; exact gw_call (rdist2_b _ _ _ _ _)))))
       refine wpQuiet_nil ?_
       intro w1 hw1
       obtain ⟨q, rfl⟩ := hw1)
    | (apply wp_box2 4 111 2 13 3 14 #[.int .i64 0, .int .i64 0] #[.int .i64 0, .int .i64 0] 24 24 (by kernel_rfl) (by rfl) (by decide +kernel) (by rfl) (by intro o ho a w; simp at ho; subst ho; simp [go_sem, ptr]) (by intro o ho a w; simp at ho; subst ho; simp [go_sem, ptr])
       · intro p0
         simp only [heads, ghost, List.take_succ_cons, List.take_zero, List.map_cons, List.map_nil]
         repeat (go_big_quiet_step ((first | (go_at_call 249; exact gw_call (rsgsat_b _ _ _)) | (go_at_call 207; (first | (exact gw_call (boolIs (risct_b _ _ _ _ _ _ _ _ _) (b := true) (by assumption))) | (exact gw_call (boolIs (risct_b _ _ _ _ _ _ _ _ _) (b := false) (by assumption))) | (exact gw_call (risct_b _ _ _ _ _ _ _ _ _)))) | (go_at_call 250; exact gw_call (rabsc_b _ _ _ _ _ _ (by with_reducible assumption) (by with_reducible assumption) (by with_reducible assumption) (by with_reducible assumption) (by with_reducible assumption) (by with_reducible assumption) _)) | (go_at_call 251; exact gw_call (rrt_b _ _ _)) | (go_at_call 196; exact gw_call (rvlerp_b _ _ _ _ _ _)) | (go_at_call 252; exact gw_call (rcp_b _ _ _ _ _ _ _)) | (go_at_call 209; exact gw_call (rdist2_b _ _ _ _ _)))))
         exact wpQuiet_nil rfl
       · intro R bB1 bB2 p0 nB1 nB2 gB1 gB2 neB01 neB01' kB1 kB2 hK
         simp only [List.drop_succ_cons, List.drop_zero, Act.put, ptr, List.setIfInBounds_toArray, List.set_cons_succ, List.set_cons_zero]
         have cB1_0 : _ = some _ := blk_cell kB1 0
         have cB1_1 : _ = some _ := blk_cell kB1 1
         have cB2_0 : _ = some _ := blk_cell kB2 0
         have cB2_1 : _ = some _ := blk_cell kB2 1
         have fB1_0 := blk_free kB1 0
         have fB1_1 := blk_free kB1 1
         have fB2_0 := blk_free kB2 0
         have fB2_1 := blk_free kB2 1
         have oB1 := blk_older kB1
         have oB2 := blk_older kB2
         go_wp2_with fail
         refine box_end2 gB1 gB2 hK ?_ ?_ ?_
         · exact bBel
         · exact (by repeat' (first | with_reducible assumption | with_reducible apply blk_gw | with_reducible apply blk_alloc | with_reducible apply blk_set | ((with_reducible apply blk_other); focus (first | omega | assumption))))
         · exact (by repeat' (first | with_reducible assumption | with_reducible apply blk_gw | with_reducible apply blk_alloc | with_reducible apply blk_set | ((with_reducible apply blk_other); focus (first | omega | assumption))))
       intro bB1 bB2 p0 nB1 nB2 neB01 neB01' kB1 kB2
       have cB1_0 : _ = some _ := blk_cell kB1 0
       have cB1_1 : _ = some _ := blk_cell kB1 1
       have cB2_0 : _ = some _ := blk_cell kB2 0
       have cB2_1 : _ = some _ := blk_cell kB2 1
       have fB1_0 := blk_free kB1 0
       have fB1_1 := blk_free kB1 1
       have fB2_0 := blk_free kB2 0
       have fB2_1 := blk_free kB2 1
       have oB1 := blk_older kB1
       have oB2 := blk_older kB2)
  go_wp2_with (first | (go_at_call 249; refine Calls.mono (gw_at (rsgsat_b _ _ _)) ?_; rintro e w1 ⟨rfl, q, rfl⟩) | (go_at_call 207; (first | (refine Calls.mono (gw_at (boolIs (risct_b _ _ _ _ _ _ _ _ _) (b := true) (by assumption))) ?_; rintro e w1 ⟨rfl, q, rfl⟩) | (refine Calls.mono (gw_at (boolIs (risct_b _ _ _ _ _ _ _ _ _) (b := false) (by assumption))) ?_; rintro e w1 ⟨rfl, q, rfl⟩) | (refine Calls.mono (gw_at (risct_b _ _ _ _ _ _ _ _ _)) ?_; rintro e w1 ⟨rfl, q, rfl⟩))) | (go_at_call 250; refine Calls.mono (gw_at (rabsc_b _ _ _ _ _ _ (by with_reducible assumption) (by with_reducible assumption) (by with_reducible assumption) (by with_reducible assumption) (by with_reducible assumption) (by with_reducible assumption) _)) ?_; rintro e w1 ⟨rfl, q, rfl⟩) | (go_at_call 251; refine Calls.mono (gw_at (rrt_b _ _ _)) ?_; rintro e w1 ⟨rfl, q, rfl⟩) | (go_at_call 196; refine Calls.mono (gw_at (rvlerp_b _ _ _ _ _ _)) ?_; rintro e w1 ⟨rfl, q, rfl⟩) | (go_at_call 252; refine Calls.mono (gw_at (rcp_b _ _ _ _ _ _ _)) ?_; rintro e w1 ⟨rfl, q, rfl⟩) | (go_at_call 209; refine Calls.mono (gw_at (rdist2_b _ _ _ _ _)) ?_; rintro e w1 ⟨rfl, q, rfl⟩))
  refine wp_named ?_
  intro W hW
  have hbW : Below w.heap.size w W := by rw [hW]; exact bBel
  have kA : blk W w.heap.size #[.int .i64 a1, .int .i64 a2] 24 := by rw [hW]; exact bBkn
  have kB : blk W (w.heap.size + 1) #[.int .i64 b1, .int .i64 b2] 24 := by rw [hW]; exact bBkn
  have kC : blk W (w.heap.size + 1 + 1) #[.int .i64 c1, .int .i64 c2] 24 := by rw [hW]; exact bBkn
  have kD : blk W (w.heap.size + 1 + 1 + 1) #[.int .i64 d1, .int .i64 d2] 24 := by rw [hW]; exact bBkn
  have k8 : blk W (w.heap.size + 1 + 1 + 1 + 1) #[.int .i64 0, .int .i64 0] 24 := by rw [hW]; exact bBkn
  have k9 : blk W (w.heap.size + 1 + 1 + 1 + 1 + 1) #[.int .i64 0, .int .i64 0] 24 := by rw [hW]; exact bBkn
  clear hW
  have hszW : w.heap.size + 1 + 1 + 1 + 1 + 1 < W.heap.size := blk_lt k9
  have hA : w.heap.size ≤ w.heap.size := Nat.le_refl _
  generalize hB0 : w.heap.size = B0 at hszW hA kA kB kC kD k8 k9 ⊢
  have nA : B0 < B0 + 1 := by omega
  generalize hB1 : B0 + 1 = B1 at *
  have nB : B1 < B1 + 1 := by omega
  generalize hB2 : B1 + 1 = B2 at *
  have nC : B2 < B2 + 1 := by omega
  generalize hB3 : B2 + 1 = B3 at *
  have nD : B3 < B3 + 1 := by omega
  generalize hB8 : B3 + 1 = B8 at *
  have n8 : B8 < B8 + 1 := by omega
  generalize hB9 : B8 + 1 = B9 at *
  clear hB1 hB2 hB3 hB8 hB9
  have okA := blk_older kA
  have ckA_0 : _ = some _ := blk_cell kA 0
  have ckA_1 : _ = some _ := blk_cell kA 1
  have fkA_0 := blk_free kA 0
  have fkA_1 := blk_free kA 1
  have okC := blk_older kC
  have ckC_0 : _ = some _ := blk_cell kC 0
  have ckC_1 : _ = some _ := blk_cell kC 1
  have fkC_0 := blk_free kC 0
  have fkC_1 := blk_free kC 1
  go_cut [13, 14] (fun p q wx => ∃ P Q : Nat, p = .pointer (some ⟨P, 0, none⟩) ∧ q = .pointer (some ⟨Q, 0, none⟩) ∧ B9 < P ∧ B9 < Q ∧ P ≠ Q ∧ blk wx P #[.int .i64 a1, .int .i64 a2] 24 ∧ blk wx Q #[.int .i64 c1, .int .i64 c2] 24 ∧
    blk wx B0 #[.int .i64 a1, .int .i64 a2] 24 ∧ blk wx B1 #[.int .i64 b1, .int .i64 b2] 24 ∧ blk wx B2 #[.int .i64 c1, .int .i64 c2] 24 ∧ blk wx B3 #[.int .i64 d1, .int .i64 d2] 24 ∧ blk wx B8 #[.int .i64 0, .int .i64 0] 24 ∧ blk wx B9 #[.int .i64 0, .int .i64 0] 24 ∧ Below w.heap.size w wx)
  case first =>
    go_region
    all_goals
      go_wp2_with fail
    all_goals
      go_meet
      exact ⟨_, _, rfl, rfl, by omega, by omega, by omega, (by apply blk_drew; exact bBkn), (by apply blk_drew; exact bBkn), (by apply blk_of; (repeat (first | with_reducible exact kA | with_reducible apply blk_drew | with_reducible apply blk_gw | with_reducible apply blk_alloc | with_reducible apply blk_set | ((with_reducible apply blk_other); focus omega))); (first | rfl | simp)), (by apply blk_of; (repeat (first | with_reducible exact kB | with_reducible apply blk_drew | with_reducible apply blk_gw | with_reducible apply blk_alloc | with_reducible apply blk_set | ((with_reducible apply blk_other); focus omega))); (first | rfl | simp)), (by apply blk_of; (repeat (first | with_reducible exact kC | with_reducible apply blk_drew | with_reducible apply blk_gw | with_reducible apply blk_alloc | with_reducible apply blk_set | ((with_reducible apply blk_other); focus omega))); (first | rfl | simp)), (by apply blk_of; (repeat (first | with_reducible exact kD | with_reducible apply blk_drew | with_reducible apply blk_gw | with_reducible apply blk_alloc | with_reducible apply blk_set | ((with_reducible apply blk_other); focus omega))); (first | rfl | simp)), (by apply blk_of; (repeat (first | with_reducible exact k8 | with_reducible apply blk_drew | with_reducible apply blk_gw | with_reducible apply blk_alloc | with_reducible apply blk_set | ((with_reducible apply blk_other); focus omega))); (first | rfl | simp)), (by apply blk_of; (repeat (first | with_reducible exact k9 | with_reducible apply blk_drew | with_reducible apply blk_gw | with_reducible apply blk_alloc | with_reducible apply blk_set | ((with_reducible apply blk_other); focus omega))); (first | rfl | simp)), Below.trans hbW bBel⟩
  case rest =>
  clear kA kB kC kD k8 k9 hszW hbW ckA_0 ckA_1 ckC_0 ckC_1 fkA_0 fkA_1 fkC_0 fkC_1 okA okC
  obtain ⟨P, Q, rfl, rfl, hP9, hQ9, hPQ, jP, jQ, jA, jB, jC, jD, j8, j9, hbX⟩ := hcut
  generalize wc = X at *
  have hzX := hbX.size
  have ojA := blk_older jA
  have cjA_0 : _ = some _ := blk_cell jA 0
  have cjA_1 : _ = some _ := blk_cell jA 1
  have fjA_0 := blk_free jA 0
  have fjA_1 := blk_free jA 1
  have ojB := blk_older jB
  have cjB_0 : _ = some _ := blk_cell jB 0
  have cjB_1 : _ = some _ := blk_cell jB 1
  have fjB_0 := blk_free jB 0
  have fjB_1 := blk_free jB 1
  have ojC := blk_older jC
  have cjC_0 : _ = some _ := blk_cell jC 0
  have cjC_1 : _ = some _ := blk_cell jC 1
  have fjC_0 := blk_free jC 0
  have fjC_1 := blk_free jC 1
  have ojD := blk_older jD
  have cjD_0 : _ = some _ := blk_cell jD 0
  have cjD_1 : _ = some _ := blk_cell jD 1
  have fjD_0 := blk_free jD 0
  have fjD_1 := blk_free jD 1
  have oj8 := blk_older j8
  have cj8_0 : _ = some _ := blk_cell j8 0
  have cj8_1 : _ = some _ := blk_cell j8 1
  have fj8_0 := blk_free j8 0
  have fj8_1 := blk_free j8 1
  have oj9 := blk_older j9
  have cj9_0 : _ = some _ := blk_cell j9 0
  have cj9_1 : _ = some _ := blk_cell j9 1
  have fj9_0 := blk_free j9 0
  have fj9_1 := blk_free j9 1
  have ojP := blk_older jP
  have cjP_0 : _ = some _ := blk_cell jP 0
  have cjP_1 : _ = some _ := blk_cell jP 1
  have fjP_0 := blk_free jP 0
  have fjP_1 := blk_free jP 1
  have ojQ := blk_older jQ
  have cjQ_0 : _ = some _ := blk_cell jQ 0
  have cjQ_1 : _ = some _ := blk_cell jQ 1
  have fjQ_0 := blk_free jQ 0
  have fjQ_1 := blk_free jQ 1
  go_upto_region 8 with (go_at_call 252; refine Calls.mono (gw_at (rcp_b _ _ _ _ _ _ _)) ?_; rintro e w1 ⟨rfl, qa, rfl⟩)
  refine wp_named ?_
  intro X1 hX1
  have jA_1 : blk X1 B0 #[.int .i64 a1, .int .i64 a2] 24 := by rw [hX1]; exact (by apply blk_of; (repeat (first | with_reducible exact jA | with_reducible apply blk_drew | with_reducible apply blk_gw | with_reducible apply blk_alloc | with_reducible apply blk_set | ((with_reducible apply blk_other); focus omega))); (first | rfl | simp))
  have jB_1 : blk X1 B1 #[.int .i64 b1, .int .i64 b2] 24 := by rw [hX1]; exact (by apply blk_of; (repeat (first | with_reducible exact jB | with_reducible apply blk_drew | with_reducible apply blk_gw | with_reducible apply blk_alloc | with_reducible apply blk_set | ((with_reducible apply blk_other); focus omega))); (first | rfl | simp))
  have jC_1 : blk X1 B2 #[.int .i64 c1, .int .i64 c2] 24 := by rw [hX1]; exact (by apply blk_of; (repeat (first | with_reducible exact jC | with_reducible apply blk_drew | with_reducible apply blk_gw | with_reducible apply blk_alloc | with_reducible apply blk_set | ((with_reducible apply blk_other); focus omega))); (first | rfl | simp))
  have jD_1 : blk X1 B3 #[.int .i64 d1, .int .i64 d2] 24 := by rw [hX1]; exact (by apply blk_of; (repeat (first | with_reducible exact jD | with_reducible apply blk_drew | with_reducible apply blk_gw | with_reducible apply blk_alloc | with_reducible apply blk_set | ((with_reducible apply blk_other); focus omega))); (first | rfl | simp))
  have j8_1 : blk X1 B8 #[.int .i64 0, .int .i64 0] 24 := by rw [hX1]; exact (by apply blk_of; (repeat (first | with_reducible exact j8 | with_reducible apply blk_drew | with_reducible apply blk_gw | with_reducible apply blk_alloc | with_reducible apply blk_set | ((with_reducible apply blk_other); focus omega))); (first | rfl | simp))
  have j9_1 : blk X1 B9 #[.int .i64 0, .int .i64 0] 24 := by rw [hX1]; exact (by apply blk_of; (repeat (first | with_reducible exact j9 | with_reducible apply blk_drew | with_reducible apply blk_gw | with_reducible apply blk_alloc | with_reducible apply blk_set | ((with_reducible apply blk_other); focus omega))); (first | rfl | simp))
  have jP_1 : blk X1 P #[.int .i64 a1, .int .i64 a2] 24 := by rw [hX1]; exact (by apply blk_of; (repeat (first | with_reducible exact jP | with_reducible apply blk_drew | with_reducible apply blk_gw | with_reducible apply blk_alloc | with_reducible apply blk_set | ((with_reducible apply blk_other); focus omega))); (first | rfl | simp))
  have jQ_1 : blk X1 Q #[.int .i64 u1, .int .i64 u2] 24 := by rw [hX1]; exact (by apply blk_of; (repeat (first | with_reducible exact jQ | with_reducible apply blk_drew | with_reducible apply blk_gw | with_reducible apply blk_alloc | with_reducible apply blk_set | ((with_reducible apply blk_other); focus omega))); (first | rfl | simp))
  have hbX1 : Below w.heap.size w X1 := by rw [hX1]; exact bBel
  have hzX1 := hbX1.size
  clear hX1
  clear ojA cjA_0 cjA_1 fjA_0 fjA_1 ojB cjB_0 cjB_1 fjB_0 fjB_1 ojC cjC_0 cjC_1 fjC_0 fjC_1 ojD cjD_0 cjD_1 fjD_0 fjD_1 oj8 cj8_0 cj8_1 fj8_0 fj8_1 oj9 cj9_0 cj9_1 fj9_0 fj9_1 ojP cjP_0 cjP_1 fjP_0 fjP_1 ojQ cjQ_0 cjQ_1 fjQ_0 fjQ_1
  clear jA jB jC jD j8 j9 jP jQ
  clear hzX
  clear hbX
  have ojA_1 := blk_older jA_1
  have cjA_1_0 : _ = some _ := blk_cell jA_1 0
  have cjA_1_1 : _ = some _ := blk_cell jA_1 1
  have fjA_1_0 := blk_free jA_1 0
  have fjA_1_1 := blk_free jA_1 1
  have ojB_1 := blk_older jB_1
  have cjB_1_0 : _ = some _ := blk_cell jB_1 0
  have cjB_1_1 : _ = some _ := blk_cell jB_1 1
  have fjB_1_0 := blk_free jB_1 0
  have fjB_1_1 := blk_free jB_1 1
  have ojC_1 := blk_older jC_1
  have cjC_1_0 : _ = some _ := blk_cell jC_1 0
  have cjC_1_1 : _ = some _ := blk_cell jC_1 1
  have fjC_1_0 := blk_free jC_1 0
  have fjC_1_1 := blk_free jC_1 1
  have ojD_1 := blk_older jD_1
  have cjD_1_0 : _ = some _ := blk_cell jD_1 0
  have cjD_1_1 : _ = some _ := blk_cell jD_1 1
  have fjD_1_0 := blk_free jD_1 0
  have fjD_1_1 := blk_free jD_1 1
  have oj8_1 := blk_older j8_1
  have cj8_1_0 : _ = some _ := blk_cell j8_1 0
  have cj8_1_1 : _ = some _ := blk_cell j8_1 1
  have fj8_1_0 := blk_free j8_1 0
  have fj8_1_1 := blk_free j8_1 1
  have oj9_1 := blk_older j9_1
  have cj9_1_0 : _ = some _ := blk_cell j9_1 0
  have cj9_1_1 : _ = some _ := blk_cell j9_1 1
  have fj9_1_0 := blk_free j9_1 0
  have fj9_1_1 := blk_free j9_1 1
  have ojP_1 := blk_older jP_1
  have cjP_1_0 : _ = some _ := blk_cell jP_1 0
  have cjP_1_1 : _ = some _ := blk_cell jP_1 1
  have fjP_1_0 := blk_free jP_1 0
  have fjP_1_1 := blk_free jP_1 1
  have ojQ_1 := blk_older jQ_1
  have cjQ_1_0 : _ = some _ := blk_cell jQ_1 0
  have cjQ_1_1 : _ = some _ := blk_cell jQ_1 1
  have fjQ_1_0 := blk_free jQ_1 0
  have fjQ_1_1 := blk_free jQ_1 1
  go_upto_region 9 with (go_at_call 252; refine Calls.mono (gw_at (rcp_b _ _ _ _ _ _ _)) ?_; rintro e w1 ⟨rfl, qa, rfl⟩)
  refine wp_named ?_
  intro X2 hX2
  have jA_2 : blk X2 B0 #[.int .i64 a1, .int .i64 a2] 24 := by rw [hX2]; exact (by apply blk_of; (repeat (first | with_reducible exact jA_1 | with_reducible apply blk_drew | with_reducible apply blk_gw | with_reducible apply blk_alloc | with_reducible apply blk_set | ((with_reducible apply blk_other); focus omega))); (first | rfl | simp))
  have jB_2 : blk X2 B1 #[.int .i64 b1, .int .i64 b2] 24 := by rw [hX2]; exact (by apply blk_of; (repeat (first | with_reducible exact jB_1 | with_reducible apply blk_drew | with_reducible apply blk_gw | with_reducible apply blk_alloc | with_reducible apply blk_set | ((with_reducible apply blk_other); focus omega))); (first | rfl | simp))
  have jC_2 : blk X2 B2 #[.int .i64 c1, .int .i64 c2] 24 := by rw [hX2]; exact (by apply blk_of; (repeat (first | with_reducible exact jC_1 | with_reducible apply blk_drew | with_reducible apply blk_gw | with_reducible apply blk_alloc | with_reducible apply blk_set | ((with_reducible apply blk_other); focus omega))); (first | rfl | simp))
  have jD_2 : blk X2 B3 #[.int .i64 d1, .int .i64 d2] 24 := by rw [hX2]; exact (by apply blk_of; (repeat (first | with_reducible exact jD_1 | with_reducible apply blk_drew | with_reducible apply blk_gw | with_reducible apply blk_alloc | with_reducible apply blk_set | ((with_reducible apply blk_other); focus omega))); (first | rfl | simp))
  have j8_2 : blk X2 B8 #[.int .i64 0, .int .i64 0] 24 := by rw [hX2]; exact (by apply blk_of; (repeat (first | with_reducible exact j8_1 | with_reducible apply blk_drew | with_reducible apply blk_gw | with_reducible apply blk_alloc | with_reducible apply blk_set | ((with_reducible apply blk_other); focus omega))); (first | rfl | simp))
  have j9_2 : blk X2 B9 #[.int .i64 0, .int .i64 0] 24 := by rw [hX2]; exact (by apply blk_of; (repeat (first | with_reducible exact j9_1 | with_reducible apply blk_drew | with_reducible apply blk_gw | with_reducible apply blk_alloc | with_reducible apply blk_set | ((with_reducible apply blk_other); focus omega))); (first | rfl | simp))
  have jP_2 : blk X2 P #[.int .i64 a1, .int .i64 a2] 24 := by rw [hX2]; exact (by apply blk_of; (repeat (first | with_reducible exact jP_1 | with_reducible apply blk_drew | with_reducible apply blk_gw | with_reducible apply blk_alloc | with_reducible apply blk_set | ((with_reducible apply blk_other); focus omega))); (first | rfl | simp))
  have jQ_2 : blk X2 Q #[.int .i64 u1, .int .i64 u2] 24 := by rw [hX2]; exact (by apply blk_of; (repeat (first | with_reducible exact jQ_1 | with_reducible apply blk_drew | with_reducible apply blk_gw | with_reducible apply blk_alloc | with_reducible apply blk_set | ((with_reducible apply blk_other); focus omega))); (first | rfl | simp))
  have jX : blk X2 (X1.heap.size + qa.os.size) #[.int .i64 v1, .int .i64 v2] 24 := by rw [hX2]; exact bBkn
  have n_B0_BX : B0 < X1.heap.size + qa.os.size := by have := blk_lt jA_1; omega
  have n_B1_BX : B1 < X1.heap.size + qa.os.size := by have := blk_lt jB_1; omega
  have n_B2_BX : B2 < X1.heap.size + qa.os.size := by have := blk_lt jC_1; omega
  have n_B3_BX : B3 < X1.heap.size + qa.os.size := by have := blk_lt jD_1; omega
  have n_B8_BX : B8 < X1.heap.size + qa.os.size := by have := blk_lt j8_1; omega
  have n_B9_BX : B9 < X1.heap.size + qa.os.size := by have := blk_lt j9_1; omega
  have n_P_BX : P < X1.heap.size + qa.os.size := by have := blk_lt jP_1; omega
  have n_Q_BX : Q < X1.heap.size + qa.os.size := by have := blk_lt jQ_1; omega
  have hbX2 : Below w.heap.size w X2 := by rw [hX2]; exact bBel
  have hzX2 := hbX2.size
  clear hX2
  clear ojA_1 cjA_1_0 cjA_1_1 fjA_1_0 fjA_1_1 ojB_1 cjB_1_0 cjB_1_1 fjB_1_0 fjB_1_1 ojC_1 cjC_1_0 cjC_1_1 fjC_1_0 fjC_1_1 ojD_1 cjD_1_0 cjD_1_1 fjD_1_0 fjD_1_1 oj8_1 cj8_1_0 cj8_1_1 fj8_1_0 fj8_1_1 oj9_1 cj9_1_0 cj9_1_1 fj9_1_0 fj9_1_1 ojP_1 cjP_1_0 cjP_1_1 fjP_1_0 fjP_1_1 ojQ_1 cjQ_1_0 cjQ_1_1 fjQ_1_0 fjQ_1_1
  clear jA_1 jB_1 jC_1 jD_1 j8_1 j9_1 jP_1 jQ_1
  clear hzX1
  generalize X1.heap.size + qa.os.size = BX at *
  clear hbX1
  have ojA_2 := blk_older jA_2
  have cjA_2_0 : _ = some _ := blk_cell jA_2 0
  have cjA_2_1 : _ = some _ := blk_cell jA_2 1
  have fjA_2_0 := blk_free jA_2 0
  have fjA_2_1 := blk_free jA_2 1
  have ojB_2 := blk_older jB_2
  have cjB_2_0 : _ = some _ := blk_cell jB_2 0
  have cjB_2_1 : _ = some _ := blk_cell jB_2 1
  have fjB_2_0 := blk_free jB_2 0
  have fjB_2_1 := blk_free jB_2 1
  have ojC_2 := blk_older jC_2
  have cjC_2_0 : _ = some _ := blk_cell jC_2 0
  have cjC_2_1 : _ = some _ := blk_cell jC_2 1
  have fjC_2_0 := blk_free jC_2 0
  have fjC_2_1 := blk_free jC_2 1
  have ojD_2 := blk_older jD_2
  have cjD_2_0 : _ = some _ := blk_cell jD_2 0
  have cjD_2_1 : _ = some _ := blk_cell jD_2 1
  have fjD_2_0 := blk_free jD_2 0
  have fjD_2_1 := blk_free jD_2 1
  have oj8_2 := blk_older j8_2
  have cj8_2_0 : _ = some _ := blk_cell j8_2 0
  have cj8_2_1 : _ = some _ := blk_cell j8_2 1
  have fj8_2_0 := blk_free j8_2 0
  have fj8_2_1 := blk_free j8_2 1
  have oj9_2 := blk_older j9_2
  have cj9_2_0 : _ = some _ := blk_cell j9_2 0
  have cj9_2_1 : _ = some _ := blk_cell j9_2 1
  have fj9_2_0 := blk_free j9_2 0
  have fj9_2_1 := blk_free j9_2 1
  have ojP_2 := blk_older jP_2
  have cjP_2_0 : _ = some _ := blk_cell jP_2 0
  have cjP_2_1 : _ = some _ := blk_cell jP_2 1
  have fjP_2_0 := blk_free jP_2 0
  have fjP_2_1 := blk_free jP_2 1
  have ojQ_2 := blk_older jQ_2
  have cjQ_2_0 : _ = some _ := blk_cell jQ_2 0
  have cjQ_2_1 : _ = some _ := blk_cell jQ_2 1
  have fjQ_2_0 := blk_free jQ_2 0
  have fjQ_2_1 := blk_free jQ_2 1
  have ojX := blk_older jX
  have cjX_0 : _ = some _ := blk_cell jX 0
  have cjX_1 : _ = some _ := blk_cell jX 1
  have fjX_0 := blk_free jX 0
  have fjX_1 := blk_free jX 1
  go_upto_region 10 with (go_at_call 252; refine Calls.mono (gw_at (rcp_b _ _ _ _ _ _ _)) ?_; rintro e w1 ⟨rfl, qa, rfl⟩)
  refine wp_named ?_
  intro X3 hX3
  have jA_3 : blk X3 B0 #[.int .i64 a1, .int .i64 a2] 24 := by rw [hX3]; exact (by apply blk_of; (repeat (first | with_reducible exact jA_2 | with_reducible apply blk_drew | with_reducible apply blk_gw | with_reducible apply blk_alloc | with_reducible apply blk_set | ((with_reducible apply blk_other); focus omega))); (first | rfl | simp))
  have jB_3 : blk X3 B1 #[.int .i64 b1, .int .i64 b2] 24 := by rw [hX3]; exact (by apply blk_of; (repeat (first | with_reducible exact jB_2 | with_reducible apply blk_drew | with_reducible apply blk_gw | with_reducible apply blk_alloc | with_reducible apply blk_set | ((with_reducible apply blk_other); focus omega))); (first | rfl | simp))
  have jC_3 : blk X3 B2 #[.int .i64 c1, .int .i64 c2] 24 := by rw [hX3]; exact (by apply blk_of; (repeat (first | with_reducible exact jC_2 | with_reducible apply blk_drew | with_reducible apply blk_gw | with_reducible apply blk_alloc | with_reducible apply blk_set | ((with_reducible apply blk_other); focus omega))); (first | rfl | simp))
  have jD_3 : blk X3 B3 #[.int .i64 d1, .int .i64 d2] 24 := by rw [hX3]; exact (by apply blk_of; (repeat (first | with_reducible exact jD_2 | with_reducible apply blk_drew | with_reducible apply blk_gw | with_reducible apply blk_alloc | with_reducible apply blk_set | ((with_reducible apply blk_other); focus omega))); (first | rfl | simp))
  have j8_3 : blk X3 B8 #[.int .i64 0, .int .i64 0] 24 := by rw [hX3]; exact (by apply blk_of; (repeat (first | with_reducible exact j8_2 | with_reducible apply blk_drew | with_reducible apply blk_gw | with_reducible apply blk_alloc | with_reducible apply blk_set | ((with_reducible apply blk_other); focus omega))); (first | rfl | simp))
  have j9_3 : blk X3 B9 #[.int .i64 0, .int .i64 0] 24 := by rw [hX3]; exact (by apply blk_of; (repeat (first | with_reducible exact j9_2 | with_reducible apply blk_drew | with_reducible apply blk_gw | with_reducible apply blk_alloc | with_reducible apply blk_set | ((with_reducible apply blk_other); focus omega))); (first | rfl | simp))
  have jP_3 : blk X3 P #[.int .i64 a1, .int .i64 a2] 24 := by rw [hX3]; exact (by apply blk_of; (repeat (first | with_reducible exact jP_2 | with_reducible apply blk_drew | with_reducible apply blk_gw | with_reducible apply blk_alloc | with_reducible apply blk_set | ((with_reducible apply blk_other); focus omega))); (first | rfl | simp))
  have jQ_3 : blk X3 Q #[.int .i64 u1, .int .i64 u2] 24 := by rw [hX3]; exact (by apply blk_of; (repeat (first | with_reducible exact jQ_2 | with_reducible apply blk_drew | with_reducible apply blk_gw | with_reducible apply blk_alloc | with_reducible apply blk_set | ((with_reducible apply blk_other); focus omega))); (first | rfl | simp))
  have jX_1 : blk X3 BX #[.int .i64 v1, .int .i64 v2] 24 := by rw [hX3]; exact (by apply blk_of; (repeat (first | with_reducible exact jX | with_reducible apply blk_drew | with_reducible apply blk_gw | with_reducible apply blk_alloc | with_reducible apply blk_set | ((with_reducible apply blk_other); focus omega))); (first | rfl | simp))
  have jY : blk X3 (X2.heap.size + qa.os.size) #[.int .i64 x1, .int .i64 x2] 24 := by rw [hX3]; exact bBkn
  have n_B0_BY : B0 < X2.heap.size + qa.os.size := by have := blk_lt jA_2; omega
  have n_B1_BY : B1 < X2.heap.size + qa.os.size := by have := blk_lt jB_2; omega
  have n_B2_BY : B2 < X2.heap.size + qa.os.size := by have := blk_lt jC_2; omega
  have n_B3_BY : B3 < X2.heap.size + qa.os.size := by have := blk_lt jD_2; omega
  have n_B8_BY : B8 < X2.heap.size + qa.os.size := by have := blk_lt j8_2; omega
  have n_B9_BY : B9 < X2.heap.size + qa.os.size := by have := blk_lt j9_2; omega
  have n_P_BY : P < X2.heap.size + qa.os.size := by have := blk_lt jP_2; omega
  have n_Q_BY : Q < X2.heap.size + qa.os.size := by have := blk_lt jQ_2; omega
  have n_BX_BY : BX < X2.heap.size + qa.os.size := by have := blk_lt jX; omega
  have hbX3 : Below w.heap.size w X3 := by rw [hX3]; exact bBel
  have hzX3 := hbX3.size
  clear hX3
  clear ojA_2 cjA_2_0 cjA_2_1 fjA_2_0 fjA_2_1 ojB_2 cjB_2_0 cjB_2_1 fjB_2_0 fjB_2_1 ojC_2 cjC_2_0 cjC_2_1 fjC_2_0 fjC_2_1 ojD_2 cjD_2_0 cjD_2_1 fjD_2_0 fjD_2_1 oj8_2 cj8_2_0 cj8_2_1 fj8_2_0 fj8_2_1 oj9_2 cj9_2_0 cj9_2_1 fj9_2_0 fj9_2_1 ojP_2 cjP_2_0 cjP_2_1 fjP_2_0 fjP_2_1 ojQ_2 cjQ_2_0 cjQ_2_1 fjQ_2_0 fjQ_2_1 ojX cjX_0 cjX_1 fjX_0 fjX_1
  clear jA_2 jB_2 jC_2 jD_2 j8_2 j9_2 jP_2 jQ_2 jX
  clear hzX2
  generalize X2.heap.size + qa.os.size = BY at *
  clear hbX2
  have ojA_3 := blk_older jA_3
  have cjA_3_0 : _ = some _ := blk_cell jA_3 0
  have cjA_3_1 : _ = some _ := blk_cell jA_3 1
  have fjA_3_0 := blk_free jA_3 0
  have fjA_3_1 := blk_free jA_3 1
  have ojB_3 := blk_older jB_3
  have cjB_3_0 : _ = some _ := blk_cell jB_3 0
  have cjB_3_1 : _ = some _ := blk_cell jB_3 1
  have fjB_3_0 := blk_free jB_3 0
  have fjB_3_1 := blk_free jB_3 1
  have ojC_3 := blk_older jC_3
  have cjC_3_0 : _ = some _ := blk_cell jC_3 0
  have cjC_3_1 : _ = some _ := blk_cell jC_3 1
  have fjC_3_0 := blk_free jC_3 0
  have fjC_3_1 := blk_free jC_3 1
  have ojD_3 := blk_older jD_3
  have cjD_3_0 : _ = some _ := blk_cell jD_3 0
  have cjD_3_1 : _ = some _ := blk_cell jD_3 1
  have fjD_3_0 := blk_free jD_3 0
  have fjD_3_1 := blk_free jD_3 1
  have oj8_3 := blk_older j8_3
  have cj8_3_0 : _ = some _ := blk_cell j8_3 0
  have cj8_3_1 : _ = some _ := blk_cell j8_3 1
  have fj8_3_0 := blk_free j8_3 0
  have fj8_3_1 := blk_free j8_3 1
  have oj9_3 := blk_older j9_3
  have cj9_3_0 : _ = some _ := blk_cell j9_3 0
  have cj9_3_1 : _ = some _ := blk_cell j9_3 1
  have fj9_3_0 := blk_free j9_3 0
  have fj9_3_1 := blk_free j9_3 1
  have ojP_3 := blk_older jP_3
  have cjP_3_0 : _ = some _ := blk_cell jP_3 0
  have cjP_3_1 : _ = some _ := blk_cell jP_3 1
  have fjP_3_0 := blk_free jP_3 0
  have fjP_3_1 := blk_free jP_3 1
  have ojQ_3 := blk_older jQ_3
  have cjQ_3_0 : _ = some _ := blk_cell jQ_3 0
  have cjQ_3_1 : _ = some _ := blk_cell jQ_3 1
  have fjQ_3_0 := blk_free jQ_3 0
  have fjQ_3_1 := blk_free jQ_3 1
  have ojX_1 := blk_older jX_1
  have cjX_1_0 : _ = some _ := blk_cell jX_1 0
  have cjX_1_1 : _ = some _ := blk_cell jX_1 1
  have fjX_1_0 := blk_free jX_1 0
  have fjX_1_1 := blk_free jX_1 1
  have ojY := blk_older jY
  have cjY_0 : _ = some _ := blk_cell jY 0
  have cjY_1 : _ = some _ := blk_cell jY 1
  have fjY_0 := blk_free jY 0
  have fjY_1 := blk_free jY 1
  go_upto_region 11 with (go_at_call 252; refine Calls.mono (gw_at (rcp_b _ _ _ _ _ _ _)) ?_; rintro e w1 ⟨rfl, qa, rfl⟩)
  refine wp_named ?_
  intro X4 hX4
  have jA_4 : blk X4 B0 #[.int .i64 a1, .int .i64 a2] 24 := by rw [hX4]; exact (by apply blk_of; (repeat (first | with_reducible exact jA_3 | with_reducible apply blk_drew | with_reducible apply blk_gw | with_reducible apply blk_alloc | with_reducible apply blk_set | ((with_reducible apply blk_other); focus omega))); (first | rfl | simp))
  have jB_4 : blk X4 B1 #[.int .i64 b1, .int .i64 b2] 24 := by rw [hX4]; exact (by apply blk_of; (repeat (first | with_reducible exact jB_3 | with_reducible apply blk_drew | with_reducible apply blk_gw | with_reducible apply blk_alloc | with_reducible apply blk_set | ((with_reducible apply blk_other); focus omega))); (first | rfl | simp))
  have jC_4 : blk X4 B2 #[.int .i64 c1, .int .i64 c2] 24 := by rw [hX4]; exact (by apply blk_of; (repeat (first | with_reducible exact jC_3 | with_reducible apply blk_drew | with_reducible apply blk_gw | with_reducible apply blk_alloc | with_reducible apply blk_set | ((with_reducible apply blk_other); focus omega))); (first | rfl | simp))
  have jD_4 : blk X4 B3 #[.int .i64 d1, .int .i64 d2] 24 := by rw [hX4]; exact (by apply blk_of; (repeat (first | with_reducible exact jD_3 | with_reducible apply blk_drew | with_reducible apply blk_gw | with_reducible apply blk_alloc | with_reducible apply blk_set | ((with_reducible apply blk_other); focus omega))); (first | rfl | simp))
  have j8_4 : blk X4 B8 #[.int .i64 0, .int .i64 0] 24 := by rw [hX4]; exact (by apply blk_of; (repeat (first | with_reducible exact j8_3 | with_reducible apply blk_drew | with_reducible apply blk_gw | with_reducible apply blk_alloc | with_reducible apply blk_set | ((with_reducible apply blk_other); focus omega))); (first | rfl | simp))
  have j9_4 : blk X4 B9 #[.int .i64 0, .int .i64 0] 24 := by rw [hX4]; exact (by apply blk_of; (repeat (first | with_reducible exact j9_3 | with_reducible apply blk_drew | with_reducible apply blk_gw | with_reducible apply blk_alloc | with_reducible apply blk_set | ((with_reducible apply blk_other); focus omega))); (first | rfl | simp))
  have jP_4 : blk X4 P #[.int .i64 a1, .int .i64 a2] 24 := by rw [hX4]; exact (by apply blk_of; (repeat (first | with_reducible exact jP_3 | with_reducible apply blk_drew | with_reducible apply blk_gw | with_reducible apply blk_alloc | with_reducible apply blk_set | ((with_reducible apply blk_other); focus omega))); (first | rfl | simp))
  have jQ_4 : blk X4 Q #[.int .i64 u1, .int .i64 u2] 24 := by rw [hX4]; exact (by apply blk_of; (repeat (first | with_reducible exact jQ_3 | with_reducible apply blk_drew | with_reducible apply blk_gw | with_reducible apply blk_alloc | with_reducible apply blk_set | ((with_reducible apply blk_other); focus omega))); (first | rfl | simp))
  have jX_2 : blk X4 BX #[.int .i64 v1, .int .i64 v2] 24 := by rw [hX4]; exact (by apply blk_of; (repeat (first | with_reducible exact jX_1 | with_reducible apply blk_drew | with_reducible apply blk_gw | with_reducible apply blk_alloc | with_reducible apply blk_set | ((with_reducible apply blk_other); focus omega))); (first | rfl | simp))
  have jY_1 : blk X4 BY #[.int .i64 x1, .int .i64 x2] 24 := by rw [hX4]; exact (by apply blk_of; (repeat (first | with_reducible exact jY | with_reducible apply blk_drew | with_reducible apply blk_gw | with_reducible apply blk_alloc | with_reducible apply blk_set | ((with_reducible apply blk_other); focus omega))); (first | rfl | simp))
  have jZ : blk X4 (X3.heap.size + qa.os.size) #[.int .i64 y1, .int .i64 y2] 24 := by rw [hX4]; exact bBkn
  have n_B0_BZ : B0 < X3.heap.size + qa.os.size := by have := blk_lt jA_3; omega
  have n_B1_BZ : B1 < X3.heap.size + qa.os.size := by have := blk_lt jB_3; omega
  have n_B2_BZ : B2 < X3.heap.size + qa.os.size := by have := blk_lt jC_3; omega
  have n_B3_BZ : B3 < X3.heap.size + qa.os.size := by have := blk_lt jD_3; omega
  have n_B8_BZ : B8 < X3.heap.size + qa.os.size := by have := blk_lt j8_3; omega
  have n_B9_BZ : B9 < X3.heap.size + qa.os.size := by have := blk_lt j9_3; omega
  have n_P_BZ : P < X3.heap.size + qa.os.size := by have := blk_lt jP_3; omega
  have n_Q_BZ : Q < X3.heap.size + qa.os.size := by have := blk_lt jQ_3; omega
  have n_BX_BZ : BX < X3.heap.size + qa.os.size := by have := blk_lt jX_1; omega
  have n_BY_BZ : BY < X3.heap.size + qa.os.size := by have := blk_lt jY; omega
  have hbX4 : Below w.heap.size w X4 := by rw [hX4]; exact bBel
  have hzX4 := hbX4.size
  clear hX4
  clear ojA_3 cjA_3_0 cjA_3_1 fjA_3_0 fjA_3_1 ojB_3 cjB_3_0 cjB_3_1 fjB_3_0 fjB_3_1 ojC_3 cjC_3_0 cjC_3_1 fjC_3_0 fjC_3_1 ojD_3 cjD_3_0 cjD_3_1 fjD_3_0 fjD_3_1 oj8_3 cj8_3_0 cj8_3_1 fj8_3_0 fj8_3_1 oj9_3 cj9_3_0 cj9_3_1 fj9_3_0 fj9_3_1 ojP_3 cjP_3_0 cjP_3_1 fjP_3_0 fjP_3_1 ojQ_3 cjQ_3_0 cjQ_3_1 fjQ_3_0 fjQ_3_1 ojX_1 cjX_1_0 cjX_1_1 fjX_1_0 fjX_1_1 ojY cjY_0 cjY_1 fjY_0 fjY_1
  clear jA_3 jB_3 jC_3 jD_3 j8_3 j9_3 jP_3 jQ_3 jX_1 jY
  clear hzX3
  generalize X3.heap.size + qa.os.size = BZ at *
  clear hbX3
  have ojA_4 := blk_older jA_4
  have cjA_4_0 : _ = some _ := blk_cell jA_4 0
  have cjA_4_1 : _ = some _ := blk_cell jA_4 1
  have fjA_4_0 := blk_free jA_4 0
  have fjA_4_1 := blk_free jA_4 1
  have ojB_4 := blk_older jB_4
  have cjB_4_0 : _ = some _ := blk_cell jB_4 0
  have cjB_4_1 : _ = some _ := blk_cell jB_4 1
  have fjB_4_0 := blk_free jB_4 0
  have fjB_4_1 := blk_free jB_4 1
  have ojC_4 := blk_older jC_4
  have cjC_4_0 : _ = some _ := blk_cell jC_4 0
  have cjC_4_1 : _ = some _ := blk_cell jC_4 1
  have fjC_4_0 := blk_free jC_4 0
  have fjC_4_1 := blk_free jC_4 1
  have ojD_4 := blk_older jD_4
  have cjD_4_0 : _ = some _ := blk_cell jD_4 0
  have cjD_4_1 : _ = some _ := blk_cell jD_4 1
  have fjD_4_0 := blk_free jD_4 0
  have fjD_4_1 := blk_free jD_4 1
  have oj8_4 := blk_older j8_4
  have cj8_4_0 : _ = some _ := blk_cell j8_4 0
  have cj8_4_1 : _ = some _ := blk_cell j8_4 1
  have fj8_4_0 := blk_free j8_4 0
  have fj8_4_1 := blk_free j8_4 1
  have oj9_4 := blk_older j9_4
  have cj9_4_0 : _ = some _ := blk_cell j9_4 0
  have cj9_4_1 : _ = some _ := blk_cell j9_4 1
  have fj9_4_0 := blk_free j9_4 0
  have fj9_4_1 := blk_free j9_4 1
  have ojP_4 := blk_older jP_4
  have cjP_4_0 : _ = some _ := blk_cell jP_4 0
  have cjP_4_1 : _ = some _ := blk_cell jP_4 1
  have fjP_4_0 := blk_free jP_4 0
  have fjP_4_1 := blk_free jP_4 1
  have ojQ_4 := blk_older jQ_4
  have cjQ_4_0 : _ = some _ := blk_cell jQ_4 0
  have cjQ_4_1 : _ = some _ := blk_cell jQ_4 1
  have fjQ_4_0 := blk_free jQ_4 0
  have fjQ_4_1 := blk_free jQ_4 1
  have ojX_2 := blk_older jX_2
  have cjX_2_0 : _ = some _ := blk_cell jX_2 0
  have cjX_2_1 : _ = some _ := blk_cell jX_2 1
  have fjX_2_0 := blk_free jX_2 0
  have fjX_2_1 := blk_free jX_2 1
  have ojY_1 := blk_older jY_1
  have cjY_1_0 : _ = some _ := blk_cell jY_1 0
  have cjY_1_1 : _ = some _ := blk_cell jY_1 1
  have fjY_1_0 := blk_free jY_1 0
  have fjY_1_1 := blk_free jY_1 1
  have ojZ := blk_older jZ
  have cjZ_0 : _ = some _ := blk_cell jZ 0
  have cjZ_1 : _ = some _ := blk_cell jZ 1
  have fjZ_0 := blk_free jZ 0
  have fjZ_1 := blk_free jZ 1
  first
    | (refine wp_region_gw_tail 8 (by kernel_rfl) (by decide +kernel) ?_
       simp only [List.take_succ_cons, List.take_zero, List.drop_succ_cons, List.drop_zero]
       repeat (go_big_quiet_step ((first | (go_at_call 249; exact gw_call (rsgsat_b _ _ _)) | (go_at_call 207; (first | (exact gw_call (boolIs (risct_b _ _ _ _ _ _ _ _ _) (b := true) (by assumption))) | (exact gw_call (boolIs (risct_b _ _ _ _ _ _ _ _ _) (b := false) (by assumption))) | (exact gw_call (risct_b _ _ _ _ _ _ _ _ _)))) | (go_at_call 250; exact gw_call (rabsc_b _ _ _ _ _ _ (by with_reducible assumption) (by with_reducible assumption) (by with_reducible assumption) (by with_reducible assumption) (by with_reducible assumption) (by with_reducible assumption) _)) | (go_at_call 251; exact gw_call (rrt_b _ _ _)) | (go_at_call 196; exact gw_call (rvlerp_b _ _ _ _ _ _)) | (go_at_call 252; exact gw_call (rcp_b _ _ _ _ _ _ _)) | (go_at_call 209; exact gw_call (rdist2_b _ _ _ _ _)))))
       refine wpQuiet_nil ?_
       intro w1 hw1
       obtain ⟨q, rfl⟩ := hw1)
    | (refine wp_region_gw (by kernel_rfl) (by decide +kernel) ?_
       repeat (go_big_quiet_step ((first | (go_at_call 249; exact gw_call (rsgsat_b _ _ _)) | (go_at_call 207; (first | (exact gw_call (boolIs (risct_b _ _ _ _ _ _ _ _ _) (b := true) (by assumption))) | (exact gw_call (boolIs (risct_b _ _ _ _ _ _ _ _ _) (b := false) (by assumption))) | (exact gw_call (risct_b _ _ _ _ _ _ _ _ _)))) | (go_at_call 250; exact gw_call (rabsc_b _ _ _ _ _ _ (by with_reducible assumption) (by with_reducible assumption) (by with_reducible assumption) (by with_reducible assumption) (by with_reducible assumption) (by with_reducible assumption) _)) | (go_at_call 251; exact gw_call (rrt_b _ _ _)) | (go_at_call 196; exact gw_call (rvlerp_b _ _ _ _ _ _)) | (go_at_call 252; exact gw_call (rcp_b _ _ _ _ _ _ _)) | (go_at_call 209; exact gw_call (rdist2_b _ _ _ _ _)))))
       refine wpQuiet_nil ?_
       intro w1 hw1
       obtain ⟨q, rfl⟩ := hw1)
    | (apply wp_box1 9 111 8 12 #[.int .i64 0, .int .i64 0] 24 (by kernel_rfl) (by rfl) (by decide +kernel) (by intro o ho a w; simp at ho; subst ho; simp [go_sem, ptr])
       · intro p0
         simp only [heads, ghost, List.take_succ_cons, List.take_zero, List.map_cons, List.map_nil]
         repeat (go_big_quiet_step ((first | (go_at_call 249; exact gw_call (rsgsat_b _ _ _)) | (go_at_call 207; (first | (exact gw_call (boolIs (risct_b _ _ _ _ _ _ _ _ _) (b := true) (by assumption))) | (exact gw_call (boolIs (risct_b _ _ _ _ _ _ _ _ _) (b := false) (by assumption))) | (exact gw_call (risct_b _ _ _ _ _ _ _ _ _)))) | (go_at_call 250; exact gw_call (rabsc_b _ _ _ _ _ _ (by with_reducible assumption) (by with_reducible assumption) (by with_reducible assumption) (by with_reducible assumption) (by with_reducible assumption) (by with_reducible assumption) _)) | (go_at_call 251; exact gw_call (rrt_b _ _ _)) | (go_at_call 196; exact gw_call (rvlerp_b _ _ _ _ _ _)) | (go_at_call 252; exact gw_call (rcp_b _ _ _ _ _ _ _)) | (go_at_call 209; exact gw_call (rdist2_b _ _ _ _ _)))))
         exact wpQuiet_nil rfl
       · intro R bB p0 nB gB  kB hK
         simp only [List.drop_succ_cons, List.drop_zero, Act.put, ptr, List.setIfInBounds_toArray, List.set_cons_succ, List.set_cons_zero]
         have cB_0 : _ = some _ := blk_cell kB 0
         have cB_1 : _ = some _ := blk_cell kB 1
         have fB_0 := blk_free kB 0
         have fB_1 := blk_free kB 1
         have oB := blk_older kB
         go_wp2_with fail
         refine box_end1 gB hK ?_ ?_
         · exact bBel
         · exact (by repeat' (first | with_reducible assumption | with_reducible apply blk_gw | with_reducible apply blk_alloc | with_reducible apply blk_set | ((with_reducible apply blk_other); focus (first | omega | assumption))))
       intro bB p0 nB  kB
       have cB_0 : _ = some _ := blk_cell kB 0
       have cB_1 : _ = some _ := blk_cell kB 1
       have fB_0 := blk_free kB 0
       have fB_1 := blk_free kB 1
       have oB := blk_older kB)
    | (refine wp_region_gw_tail 2 (by kernel_rfl) (by decide +kernel) ?_
       simp only [List.take_succ_cons, List.take_zero, List.drop_succ_cons, List.drop_zero]
       repeat (go_big_quiet_step ((first | (go_at_call 249; exact gw_call (rsgsat_b _ _ _)) | (go_at_call 207; (first | (exact gw_call (boolIs (risct_b _ _ _ _ _ _ _ _ _) (b := true) (by assumption))) | (exact gw_call (boolIs (risct_b _ _ _ _ _ _ _ _ _) (b := false) (by assumption))) | (exact gw_call (risct_b _ _ _ _ _ _ _ _ _)))) | (go_at_call 250; exact gw_call (rabsc_b _ _ _ _ _ _ (by with_reducible assumption) (by with_reducible assumption) (by with_reducible assumption) (by with_reducible assumption) (by with_reducible assumption) (by with_reducible assumption) _)) | (go_at_call 251; exact gw_call (rrt_b _ _ _)) | (go_at_call 196; exact gw_call (rvlerp_b _ _ _ _ _ _)) | (go_at_call 252; exact gw_call (rcp_b _ _ _ _ _ _ _)) | (go_at_call 209; exact gw_call (rdist2_b _ _ _ _ _)))))
       refine wpQuiet_nil ?_
       intro w1 hw1
       obtain ⟨q, rfl⟩ := hw1)
    | (apply wp_box2 4 111 2 13 3 14 #[.int .i64 0, .int .i64 0] #[.int .i64 0, .int .i64 0] 24 24 (by kernel_rfl) (by rfl) (by decide +kernel) (by rfl) (by intro o ho a w; simp at ho; subst ho; simp [go_sem, ptr]) (by intro o ho a w; simp at ho; subst ho; simp [go_sem, ptr])
       · intro p0
         simp only [heads, ghost, List.take_succ_cons, List.take_zero, List.map_cons, List.map_nil]
         repeat (go_big_quiet_step ((first | (go_at_call 249; exact gw_call (rsgsat_b _ _ _)) | (go_at_call 207; (first | (exact gw_call (boolIs (risct_b _ _ _ _ _ _ _ _ _) (b := true) (by assumption))) | (exact gw_call (boolIs (risct_b _ _ _ _ _ _ _ _ _) (b := false) (by assumption))) | (exact gw_call (risct_b _ _ _ _ _ _ _ _ _)))) | (go_at_call 250; exact gw_call (rabsc_b _ _ _ _ _ _ (by with_reducible assumption) (by with_reducible assumption) (by with_reducible assumption) (by with_reducible assumption) (by with_reducible assumption) (by with_reducible assumption) _)) | (go_at_call 251; exact gw_call (rrt_b _ _ _)) | (go_at_call 196; exact gw_call (rvlerp_b _ _ _ _ _ _)) | (go_at_call 252; exact gw_call (rcp_b _ _ _ _ _ _ _)) | (go_at_call 209; exact gw_call (rdist2_b _ _ _ _ _)))))
         exact wpQuiet_nil rfl
       · intro R bB1 bB2 p0 nB1 nB2 gB1 gB2 neB01 neB01' kB1 kB2 hK
         simp only [List.drop_succ_cons, List.drop_zero, Act.put, ptr, List.setIfInBounds_toArray, List.set_cons_succ, List.set_cons_zero]
         have cB1_0 : _ = some _ := blk_cell kB1 0
         have cB1_1 : _ = some _ := blk_cell kB1 1
         have cB2_0 : _ = some _ := blk_cell kB2 0
         have cB2_1 : _ = some _ := blk_cell kB2 1
         have fB1_0 := blk_free kB1 0
         have fB1_1 := blk_free kB1 1
         have fB2_0 := blk_free kB2 0
         have fB2_1 := blk_free kB2 1
         have oB1 := blk_older kB1
         have oB2 := blk_older kB2
         go_wp2_with fail
         refine box_end2 gB1 gB2 hK ?_ ?_ ?_
         · exact bBel
         · exact (by repeat' (first | with_reducible assumption | with_reducible apply blk_gw | with_reducible apply blk_alloc | with_reducible apply blk_set | ((with_reducible apply blk_other); focus (first | omega | assumption))))
         · exact (by repeat' (first | with_reducible assumption | with_reducible apply blk_gw | with_reducible apply blk_alloc | with_reducible apply blk_set | ((with_reducible apply blk_other); focus (first | omega | assumption))))
       intro bB1 bB2 p0 nB1 nB2 neB01 neB01' kB1 kB2
       have cB1_0 : _ = some _ := blk_cell kB1 0
       have cB1_1 : _ = some _ := blk_cell kB1 1
       have cB2_0 : _ = some _ := blk_cell kB2 0
       have cB2_1 : _ = some _ := blk_cell kB2 1
       have fB1_0 := blk_free kB1 0
       have fB1_1 := blk_free kB1 1
       have fB2_0 := blk_free kB2 0
       have fB2_1 := blk_free kB2 1
       have oB1 := blk_older kB1
       have oB2 := blk_older kB2)
  go_upto_if 88 with fail
  refine wp_named ?_
  intro X5 hX5
  have jA_5 : blk X5 B0 #[.int .i64 a1, .int .i64 a2] 24 := by rw [hX5]; exact (by apply blk_of; (repeat (first | with_reducible exact jA_4 | with_reducible apply blk_drew | with_reducible apply blk_gw | with_reducible apply blk_alloc | with_reducible apply blk_set | ((with_reducible apply blk_other); focus omega))); (first | rfl | simp))
  have jB_5 : blk X5 B1 #[.int .i64 b1, .int .i64 b2] 24 := by rw [hX5]; exact (by apply blk_of; (repeat (first | with_reducible exact jB_4 | with_reducible apply blk_drew | with_reducible apply blk_gw | with_reducible apply blk_alloc | with_reducible apply blk_set | ((with_reducible apply blk_other); focus omega))); (first | rfl | simp))
  have jC_5 : blk X5 B2 #[.int .i64 c1, .int .i64 c2] 24 := by rw [hX5]; exact (by apply blk_of; (repeat (first | with_reducible exact jC_4 | with_reducible apply blk_drew | with_reducible apply blk_gw | with_reducible apply blk_alloc | with_reducible apply blk_set | ((with_reducible apply blk_other); focus omega))); (first | rfl | simp))
  have jD_5 : blk X5 B3 #[.int .i64 d1, .int .i64 d2] 24 := by rw [hX5]; exact (by apply blk_of; (repeat (first | with_reducible exact jD_4 | with_reducible apply blk_drew | with_reducible apply blk_gw | with_reducible apply blk_alloc | with_reducible apply blk_set | ((with_reducible apply blk_other); focus omega))); (first | rfl | simp))
  have j8_5 : blk X5 B8 #[.int .i64 0, .int .i64 0] 24 := by rw [hX5]; exact (by apply blk_of; (repeat (first | with_reducible exact j8_4 | with_reducible apply blk_drew | with_reducible apply blk_gw | with_reducible apply blk_alloc | with_reducible apply blk_set | ((with_reducible apply blk_other); focus omega))); (first | rfl | simp))
  have j9_5 : blk X5 B9 #[.int .i64 0, .int .i64 0] 24 := by rw [hX5]; exact (by apply blk_of; (repeat (first | with_reducible exact j9_4 | with_reducible apply blk_drew | with_reducible apply blk_gw | with_reducible apply blk_alloc | with_reducible apply blk_set | ((with_reducible apply blk_other); focus omega))); (first | rfl | simp))
  have jP_5 : blk X5 P #[.int .i64 a1, .int .i64 a2] 24 := by rw [hX5]; exact (by apply blk_of; (repeat (first | with_reducible exact jP_4 | with_reducible apply blk_drew | with_reducible apply blk_gw | with_reducible apply blk_alloc | with_reducible apply blk_set | ((with_reducible apply blk_other); focus omega))); (first | rfl | simp))
  have jQ_5 : blk X5 Q #[.int .i64 u1, .int .i64 u2] 24 := by rw [hX5]; exact (by apply blk_of; (repeat (first | with_reducible exact jQ_4 | with_reducible apply blk_drew | with_reducible apply blk_gw | with_reducible apply blk_alloc | with_reducible apply blk_set | ((with_reducible apply blk_other); focus omega))); (first | rfl | simp))
  have jX_3 : blk X5 BX #[.int .i64 v1, .int .i64 v2] 24 := by rw [hX5]; exact (by apply blk_of; (repeat (first | with_reducible exact jX_2 | with_reducible apply blk_drew | with_reducible apply blk_gw | with_reducible apply blk_alloc | with_reducible apply blk_set | ((with_reducible apply blk_other); focus omega))); (first | rfl | simp))
  have jY_2 : blk X5 BY #[.int .i64 x1, .int .i64 x2] 24 := by rw [hX5]; exact (by apply blk_of; (repeat (first | with_reducible exact jY_1 | with_reducible apply blk_drew | with_reducible apply blk_gw | with_reducible apply blk_alloc | with_reducible apply blk_set | ((with_reducible apply blk_other); focus omega))); (first | rfl | simp))
  have jZ_1 : blk X5 BZ #[.int .i64 y1, .int .i64 y2] 24 := by rw [hX5]; exact (by apply blk_of; (repeat (first | with_reducible exact jZ | with_reducible apply blk_drew | with_reducible apply blk_gw | with_reducible apply blk_alloc | with_reducible apply blk_set | ((with_reducible apply blk_other); focus omega))); (first | rfl | simp))
  have hbX5 : Below w.heap.size w X5 := by rw [hX5]; exact bBel
  have hzX5 := hbX5.size
  clear hX5
  clear ojA_4 cjA_4_0 cjA_4_1 fjA_4_0 fjA_4_1 ojB_4 cjB_4_0 cjB_4_1 fjB_4_0 fjB_4_1 ojC_4 cjC_4_0 cjC_4_1 fjC_4_0 fjC_4_1 ojD_4 cjD_4_0 cjD_4_1 fjD_4_0 fjD_4_1 oj8_4 cj8_4_0 cj8_4_1 fj8_4_0 fj8_4_1 oj9_4 cj9_4_0 cj9_4_1 fj9_4_0 fj9_4_1 ojP_4 cjP_4_0 cjP_4_1 fjP_4_0 fjP_4_1 ojQ_4 cjQ_4_0 cjQ_4_1 fjQ_4_0 fjQ_4_1 ojX_2 cjX_2_0 cjX_2_1 fjX_2_0 fjX_2_1 ojY_1 cjY_1_0 cjY_1_1 fjY_1_0 fjY_1_1 ojZ cjZ_0 cjZ_1 fjZ_0 fjZ_1
  clear jA_4 jB_4 jC_4 jD_4 j8_4 j9_4 jP_4 jQ_4 jX_2 jY_1 jZ
  clear hzX4
  clear hbX4
  have ojA_5 := blk_older jA_5
  have cjA_5_0 : _ = some _ := blk_cell jA_5 0
  have cjA_5_1 : _ = some _ := blk_cell jA_5 1
  have fjA_5_0 := blk_free jA_5 0
  have fjA_5_1 := blk_free jA_5 1
  have ojB_5 := blk_older jB_5
  have cjB_5_0 : _ = some _ := blk_cell jB_5 0
  have cjB_5_1 : _ = some _ := blk_cell jB_5 1
  have fjB_5_0 := blk_free jB_5 0
  have fjB_5_1 := blk_free jB_5 1
  have ojC_5 := blk_older jC_5
  have cjC_5_0 : _ = some _ := blk_cell jC_5 0
  have cjC_5_1 : _ = some _ := blk_cell jC_5 1
  have fjC_5_0 := blk_free jC_5 0
  have fjC_5_1 := blk_free jC_5 1
  have ojD_5 := blk_older jD_5
  have cjD_5_0 : _ = some _ := blk_cell jD_5 0
  have cjD_5_1 : _ = some _ := blk_cell jD_5 1
  have fjD_5_0 := blk_free jD_5 0
  have fjD_5_1 := blk_free jD_5 1
  have oj8_5 := blk_older j8_5
  have cj8_5_0 : _ = some _ := blk_cell j8_5 0
  have cj8_5_1 : _ = some _ := blk_cell j8_5 1
  have fj8_5_0 := blk_free j8_5 0
  have fj8_5_1 := blk_free j8_5 1
  have oj9_5 := blk_older j9_5
  have cj9_5_0 : _ = some _ := blk_cell j9_5 0
  have cj9_5_1 : _ = some _ := blk_cell j9_5 1
  have fj9_5_0 := blk_free j9_5 0
  have fj9_5_1 := blk_free j9_5 1
  have ojP_5 := blk_older jP_5
  have cjP_5_0 : _ = some _ := blk_cell jP_5 0
  have cjP_5_1 : _ = some _ := blk_cell jP_5 1
  have fjP_5_0 := blk_free jP_5 0
  have fjP_5_1 := blk_free jP_5 1
  have ojQ_5 := blk_older jQ_5
  have cjQ_5_0 : _ = some _ := blk_cell jQ_5 0
  have cjQ_5_1 : _ = some _ := blk_cell jQ_5 1
  have fjQ_5_0 := blk_free jQ_5 0
  have fjQ_5_1 := blk_free jQ_5 1
  have ojX_3 := blk_older jX_3
  have cjX_3_0 : _ = some _ := blk_cell jX_3 0
  have cjX_3_1 : _ = some _ := blk_cell jX_3 1
  have fjX_3_0 := blk_free jX_3 0
  have fjX_3_1 := blk_free jX_3 1
  have ojY_2 := blk_older jY_2
  have cjY_2_0 : _ = some _ := blk_cell jY_2 0
  have cjY_2_1 : _ = some _ := blk_cell jY_2 1
  have fjY_2_0 := blk_free jY_2 0
  have fjY_2_1 := blk_free jY_2 1
  have ojZ_1 := blk_older jZ_1
  have cjZ_1_0 : _ = some _ := blk_cell jZ_1 0
  have cjZ_1_1 : _ = some _ := blk_cell jZ_1 1
  have fjZ_1_0 := blk_free jZ_1 0
  have fjZ_1_1 := blk_free jZ_1 1
  go_cut [] (fun wx => blk wx B0 #[.int .i64 a1, .int .i64 a2] 24 ∧ blk wx B1 #[.int .i64 b1, .int .i64 b2] 24 ∧ blk wx B2 #[.int .i64 c1, .int .i64 c2] 24 ∧ blk wx B3 #[.int .i64 d1, .int .i64 d2] 24 ∧ blk wx B8 #[.int .i64 0, .int .i64 0] 24 ∧ blk wx B9 #[.int .i64 0, .int .i64 0] 24 ∧ blk wx P #[.int .i64 O2.px, .int .i64 O2.py] 24 ∧ blk wx Q #[.int .i64 O2.qx, .int .i64 O2.qy] 24 ∧ blk wx BX #[.int .i64 v1, .int .i64 v2] 24 ∧ blk wx BY #[.int .i64 x1, .int .i64 x2] 24 ∧ blk wx BZ #[.int .i64 y1, .int .i64 y2] 24 ∧ Below w.heap.size w wx)
  case first =>
    by_cases h : dist2 b1 b2 v1 v2 < dist2 a1 a2 u1 u2
    · have hb' := decide_eq_true h
      have hO : O2 = ⟨b1, b2, v1, v2⟩ := by rw [← hO2, ← hO1]; exact if_pos h
      go_wp2_with fail
      go_region
      all_goals (go_wp2_with fail)
      all_goals (go_meet; rw [hO]; exact ⟨(by apply blk_of; (repeat (first | with_reducible exact jA_5 | with_reducible apply blk_drew | with_reducible apply blk_gw | with_reducible apply blk_alloc | with_reducible apply blk_set | ((with_reducible apply blk_other); focus omega))); (first | rfl | simp)), (by apply blk_of; (repeat (first | with_reducible exact jB_5 | with_reducible apply blk_drew | with_reducible apply blk_gw | with_reducible apply blk_alloc | with_reducible apply blk_set | ((with_reducible apply blk_other); focus omega))); (first | rfl | simp)), (by apply blk_of; (repeat (first | with_reducible exact jC_5 | with_reducible apply blk_drew | with_reducible apply blk_gw | with_reducible apply blk_alloc | with_reducible apply blk_set | ((with_reducible apply blk_other); focus omega))); (first | rfl | simp)), (by apply blk_of; (repeat (first | with_reducible exact jD_5 | with_reducible apply blk_drew | with_reducible apply blk_gw | with_reducible apply blk_alloc | with_reducible apply blk_set | ((with_reducible apply blk_other); focus omega))); (first | rfl | simp)), (by apply blk_of; (repeat (first | with_reducible exact j8_5 | with_reducible apply blk_drew | with_reducible apply blk_gw | with_reducible apply blk_alloc | with_reducible apply blk_set | ((with_reducible apply blk_other); focus omega))); (first | rfl | simp)), (by apply blk_of; (repeat (first | with_reducible exact j9_5 | with_reducible apply blk_drew | with_reducible apply blk_gw | with_reducible apply blk_alloc | with_reducible apply blk_set | ((with_reducible apply blk_other); focus omega))); (first | rfl | simp)), (by apply blk_of; (repeat (first | with_reducible exact jP_5 | with_reducible apply blk_drew | with_reducible apply blk_gw | with_reducible apply blk_alloc | with_reducible apply blk_set | ((with_reducible apply blk_other); focus omega))); (first | rfl | simp)), (by apply blk_of; (repeat (first | with_reducible exact jQ_5 | with_reducible apply blk_drew | with_reducible apply blk_gw | with_reducible apply blk_alloc | with_reducible apply blk_set | ((with_reducible apply blk_other); focus omega))); (first | rfl | simp)), (by apply blk_of; (repeat (first | with_reducible exact jX_3 | with_reducible apply blk_drew | with_reducible apply blk_gw | with_reducible apply blk_alloc | with_reducible apply blk_set | ((with_reducible apply blk_other); focus omega))); (first | rfl | simp)), (by apply blk_of; (repeat (first | with_reducible exact jY_2 | with_reducible apply blk_drew | with_reducible apply blk_gw | with_reducible apply blk_alloc | with_reducible apply blk_set | ((with_reducible apply blk_other); focus omega))); (first | rfl | simp)), (by apply blk_of; (repeat (first | with_reducible exact jZ_1 | with_reducible apply blk_drew | with_reducible apply blk_gw | with_reducible apply blk_alloc | with_reducible apply blk_set | ((with_reducible apply blk_other); focus omega))); (first | rfl | simp)), bBel⟩)
    · have hb' := decide_eq_false h
      have hO : O2 = O1 := by rw [← hO2, ← hO1]; exact if_neg h
      go_wp2_with fail
      go_meet
      rw [hO]; subst hO1
      exact ⟨(by apply blk_of; (repeat (first | with_reducible exact jA_5 | with_reducible apply blk_drew | with_reducible apply blk_gw | with_reducible apply blk_alloc | with_reducible apply blk_set | ((with_reducible apply blk_other); focus omega))); (first | rfl | simp)), (by apply blk_of; (repeat (first | with_reducible exact jB_5 | with_reducible apply blk_drew | with_reducible apply blk_gw | with_reducible apply blk_alloc | with_reducible apply blk_set | ((with_reducible apply blk_other); focus omega))); (first | rfl | simp)), (by apply blk_of; (repeat (first | with_reducible exact jC_5 | with_reducible apply blk_drew | with_reducible apply blk_gw | with_reducible apply blk_alloc | with_reducible apply blk_set | ((with_reducible apply blk_other); focus omega))); (first | rfl | simp)), (by apply blk_of; (repeat (first | with_reducible exact jD_5 | with_reducible apply blk_drew | with_reducible apply blk_gw | with_reducible apply blk_alloc | with_reducible apply blk_set | ((with_reducible apply blk_other); focus omega))); (first | rfl | simp)), (by apply blk_of; (repeat (first | with_reducible exact j8_5 | with_reducible apply blk_drew | with_reducible apply blk_gw | with_reducible apply blk_alloc | with_reducible apply blk_set | ((with_reducible apply blk_other); focus omega))); (first | rfl | simp)), (by apply blk_of; (repeat (first | with_reducible exact j9_5 | with_reducible apply blk_drew | with_reducible apply blk_gw | with_reducible apply blk_alloc | with_reducible apply blk_set | ((with_reducible apply blk_other); focus omega))); (first | rfl | simp)), (by apply blk_of; (repeat (first | with_reducible exact jP_5 | with_reducible apply blk_drew | with_reducible apply blk_gw | with_reducible apply blk_alloc | with_reducible apply blk_set | ((with_reducible apply blk_other); focus omega))); (first | rfl | simp)), (by apply blk_of; (repeat (first | with_reducible exact jQ_5 | with_reducible apply blk_drew | with_reducible apply blk_gw | with_reducible apply blk_alloc | with_reducible apply blk_set | ((with_reducible apply blk_other); focus omega))); (first | rfl | simp)), (by apply blk_of; (repeat (first | with_reducible exact jX_3 | with_reducible apply blk_drew | with_reducible apply blk_gw | with_reducible apply blk_alloc | with_reducible apply blk_set | ((with_reducible apply blk_other); focus omega))); (first | rfl | simp)), (by apply blk_of; (repeat (first | with_reducible exact jY_2 | with_reducible apply blk_drew | with_reducible apply blk_gw | with_reducible apply blk_alloc | with_reducible apply blk_set | ((with_reducible apply blk_other); focus omega))); (first | rfl | simp)), (by apply blk_of; (repeat (first | with_reducible exact jZ_1 | with_reducible apply blk_drew | with_reducible apply blk_gw | with_reducible apply blk_alloc | with_reducible apply blk_set | ((with_reducible apply blk_other); focus omega))); (first | rfl | simp)), bBel⟩
  case rest =>
  clear ojA_5 cjA_5_0 cjA_5_1 fjA_5_0 fjA_5_1 ojB_5 cjB_5_0 cjB_5_1 fjB_5_0 fjB_5_1 ojC_5 cjC_5_0 cjC_5_1 fjC_5_0 fjC_5_1 ojD_5 cjD_5_0 cjD_5_1 fjD_5_0 fjD_5_1 oj8_5 cj8_5_0 cj8_5_1 fj8_5_0 fj8_5_1 oj9_5 cj9_5_0 cj9_5_1 fj9_5_0 fj9_5_1 ojP_5 cjP_5_0 cjP_5_1 fjP_5_0 fjP_5_1 ojQ_5 cjQ_5_0 cjQ_5_1 fjQ_5_0 fjQ_5_1 ojX_3 cjX_3_0 cjX_3_1 fjX_3_0 fjX_3_1 ojY_2 cjY_2_0 cjY_2_1 fjY_2_0 fjY_2_1 ojZ_1 cjZ_1_0 cjZ_1_1 fjZ_1_0 fjZ_1_1 jA_5 jB_5 jC_5 jD_5 j8_5 j9_5 jP_5 jQ_5 jX_3 jY_2 jZ_1 hbX5 hzX5
  obtain ⟨jA_6, jB_6, jC_6, jD_6, j8_6, j9_6, jP_6, jQ_6, jX_4, jY_3, jZ_2, hbX6⟩ := hcut
  generalize wc = X6 at *
  have hzX6 := hbX6.size
  have ojA_6 := blk_older jA_6
  have cjA_6_0 : _ = some _ := blk_cell jA_6 0
  have cjA_6_1 : _ = some _ := blk_cell jA_6 1
  have fjA_6_0 := blk_free jA_6 0
  have fjA_6_1 := blk_free jA_6 1
  have ojB_6 := blk_older jB_6
  have cjB_6_0 : _ = some _ := blk_cell jB_6 0
  have cjB_6_1 : _ = some _ := blk_cell jB_6 1
  have fjB_6_0 := blk_free jB_6 0
  have fjB_6_1 := blk_free jB_6 1
  have ojC_6 := blk_older jC_6
  have cjC_6_0 : _ = some _ := blk_cell jC_6 0
  have cjC_6_1 : _ = some _ := blk_cell jC_6 1
  have fjC_6_0 := blk_free jC_6 0
  have fjC_6_1 := blk_free jC_6 1
  have ojD_6 := blk_older jD_6
  have cjD_6_0 : _ = some _ := blk_cell jD_6 0
  have cjD_6_1 : _ = some _ := blk_cell jD_6 1
  have fjD_6_0 := blk_free jD_6 0
  have fjD_6_1 := blk_free jD_6 1
  have oj8_6 := blk_older j8_6
  have cj8_6_0 : _ = some _ := blk_cell j8_6 0
  have cj8_6_1 : _ = some _ := blk_cell j8_6 1
  have fj8_6_0 := blk_free j8_6 0
  have fj8_6_1 := blk_free j8_6 1
  have oj9_6 := blk_older j9_6
  have cj9_6_0 : _ = some _ := blk_cell j9_6 0
  have cj9_6_1 : _ = some _ := blk_cell j9_6 1
  have fj9_6_0 := blk_free j9_6 0
  have fj9_6_1 := blk_free j9_6 1
  have ojP_6 := blk_older jP_6
  have cjP_6_0 : _ = some _ := blk_cell jP_6 0
  have cjP_6_1 : _ = some _ := blk_cell jP_6 1
  have fjP_6_0 := blk_free jP_6 0
  have fjP_6_1 := blk_free jP_6 1
  have ojQ_6 := blk_older jQ_6
  have cjQ_6_0 : _ = some _ := blk_cell jQ_6 0
  have cjQ_6_1 : _ = some _ := blk_cell jQ_6 1
  have fjQ_6_0 := blk_free jQ_6 0
  have fjQ_6_1 := blk_free jQ_6 1
  have ojX_4 := blk_older jX_4
  have cjX_4_0 : _ = some _ := blk_cell jX_4 0
  have cjX_4_1 : _ = some _ := blk_cell jX_4 1
  have fjX_4_0 := blk_free jX_4 0
  have fjX_4_1 := blk_free jX_4 1
  have ojY_3 := blk_older jY_3
  have cjY_3_0 : _ = some _ := blk_cell jY_3 0
  have cjY_3_1 : _ = some _ := blk_cell jY_3 1
  have fjY_3_0 := blk_free jY_3 0
  have fjY_3_1 := blk_free jY_3 1
  have ojZ_2 := blk_older jZ_2
  have cjZ_2_0 : _ = some _ := blk_cell jZ_2 0
  have cjZ_2_1 : _ = some _ := blk_cell jZ_2 1
  have fjZ_2_0 := blk_free jZ_2 0
  have fjZ_2_1 := blk_free jZ_2 1
  go_upto_region 13 with fail
  first
    | (refine wp_region_gw_tail 8 (by kernel_rfl) (by decide +kernel) ?_
       simp only [List.take_succ_cons, List.take_zero, List.drop_succ_cons, List.drop_zero]
       repeat (go_big_quiet_step ((first | (go_at_call 249; exact gw_call (rsgsat_b _ _ _)) | (go_at_call 207; (first | (exact gw_call (boolIs (risct_b _ _ _ _ _ _ _ _ _) (b := true) (by assumption))) | (exact gw_call (boolIs (risct_b _ _ _ _ _ _ _ _ _) (b := false) (by assumption))) | (exact gw_call (risct_b _ _ _ _ _ _ _ _ _)))) | (go_at_call 250; exact gw_call (rabsc_b _ _ _ _ _ _ (by with_reducible assumption) (by with_reducible assumption) (by with_reducible assumption) (by with_reducible assumption) (by with_reducible assumption) (by with_reducible assumption) _)) | (go_at_call 251; exact gw_call (rrt_b _ _ _)) | (go_at_call 196; exact gw_call (rvlerp_b _ _ _ _ _ _)) | (go_at_call 252; exact gw_call (rcp_b _ _ _ _ _ _ _)) | (go_at_call 209; exact gw_call (rdist2_b _ _ _ _ _)))))
       refine wpQuiet_nil ?_
       intro w1 hw1
       obtain ⟨q, rfl⟩ := hw1)
    | (refine wp_region_gw (by kernel_rfl) (by decide +kernel) ?_
       repeat (go_big_quiet_step ((first | (go_at_call 249; exact gw_call (rsgsat_b _ _ _)) | (go_at_call 207; (first | (exact gw_call (boolIs (risct_b _ _ _ _ _ _ _ _ _) (b := true) (by assumption))) | (exact gw_call (boolIs (risct_b _ _ _ _ _ _ _ _ _) (b := false) (by assumption))) | (exact gw_call (risct_b _ _ _ _ _ _ _ _ _)))) | (go_at_call 250; exact gw_call (rabsc_b _ _ _ _ _ _ (by with_reducible assumption) (by with_reducible assumption) (by with_reducible assumption) (by with_reducible assumption) (by with_reducible assumption) (by with_reducible assumption) _)) | (go_at_call 251; exact gw_call (rrt_b _ _ _)) | (go_at_call 196; exact gw_call (rvlerp_b _ _ _ _ _ _)) | (go_at_call 252; exact gw_call (rcp_b _ _ _ _ _ _ _)) | (go_at_call 209; exact gw_call (rdist2_b _ _ _ _ _)))))
       refine wpQuiet_nil ?_
       intro w1 hw1
       obtain ⟨q, rfl⟩ := hw1)
    | (apply wp_box1 9 111 8 12 #[.int .i64 0, .int .i64 0] 24 (by kernel_rfl) (by rfl) (by decide +kernel) (by intro o ho a w; simp at ho; subst ho; simp [go_sem, ptr])
       · intro p0
         simp only [heads, ghost, List.take_succ_cons, List.take_zero, List.map_cons, List.map_nil]
         repeat (go_big_quiet_step ((first | (go_at_call 249; exact gw_call (rsgsat_b _ _ _)) | (go_at_call 207; (first | (exact gw_call (boolIs (risct_b _ _ _ _ _ _ _ _ _) (b := true) (by assumption))) | (exact gw_call (boolIs (risct_b _ _ _ _ _ _ _ _ _) (b := false) (by assumption))) | (exact gw_call (risct_b _ _ _ _ _ _ _ _ _)))) | (go_at_call 250; exact gw_call (rabsc_b _ _ _ _ _ _ (by with_reducible assumption) (by with_reducible assumption) (by with_reducible assumption) (by with_reducible assumption) (by with_reducible assumption) (by with_reducible assumption) _)) | (go_at_call 251; exact gw_call (rrt_b _ _ _)) | (go_at_call 196; exact gw_call (rvlerp_b _ _ _ _ _ _)) | (go_at_call 252; exact gw_call (rcp_b _ _ _ _ _ _ _)) | (go_at_call 209; exact gw_call (rdist2_b _ _ _ _ _)))))
         exact wpQuiet_nil rfl
       · intro R bB p0 nB gB  kB hK
         simp only [List.drop_succ_cons, List.drop_zero, Act.put, ptr, List.setIfInBounds_toArray, List.set_cons_succ, List.set_cons_zero]
         have cB_0 : _ = some _ := blk_cell kB 0
         have cB_1 : _ = some _ := blk_cell kB 1
         have fB_0 := blk_free kB 0
         have fB_1 := blk_free kB 1
         have oB := blk_older kB
         go_wp2_with fail
         refine box_end1 gB hK ?_ ?_
         · exact bBel
         · exact (by repeat' (first | with_reducible assumption | with_reducible apply blk_gw | with_reducible apply blk_alloc | with_reducible apply blk_set | ((with_reducible apply blk_other); focus (first | omega | assumption))))
       intro bB p0 nB  kB
       have cB_0 : _ = some _ := blk_cell kB 0
       have cB_1 : _ = some _ := blk_cell kB 1
       have fB_0 := blk_free kB 0
       have fB_1 := blk_free kB 1
       have oB := blk_older kB)
    | (refine wp_region_gw_tail 2 (by kernel_rfl) (by decide +kernel) ?_
       simp only [List.take_succ_cons, List.take_zero, List.drop_succ_cons, List.drop_zero]
       repeat (go_big_quiet_step ((first | (go_at_call 249; exact gw_call (rsgsat_b _ _ _)) | (go_at_call 207; (first | (exact gw_call (boolIs (risct_b _ _ _ _ _ _ _ _ _) (b := true) (by assumption))) | (exact gw_call (boolIs (risct_b _ _ _ _ _ _ _ _ _) (b := false) (by assumption))) | (exact gw_call (risct_b _ _ _ _ _ _ _ _ _)))) | (go_at_call 250; exact gw_call (rabsc_b _ _ _ _ _ _ (by with_reducible assumption) (by with_reducible assumption) (by with_reducible assumption) (by with_reducible assumption) (by with_reducible assumption) (by with_reducible assumption) _)) | (go_at_call 251; exact gw_call (rrt_b _ _ _)) | (go_at_call 196; exact gw_call (rvlerp_b _ _ _ _ _ _)) | (go_at_call 252; exact gw_call (rcp_b _ _ _ _ _ _ _)) | (go_at_call 209; exact gw_call (rdist2_b _ _ _ _ _)))))
       refine wpQuiet_nil ?_
       intro w1 hw1
       obtain ⟨q, rfl⟩ := hw1)
    | (apply wp_box2 4 111 2 13 3 14 #[.int .i64 0, .int .i64 0] #[.int .i64 0, .int .i64 0] 24 24 (by kernel_rfl) (by rfl) (by decide +kernel) (by rfl) (by intro o ho a w; simp at ho; subst ho; simp [go_sem, ptr]) (by intro o ho a w; simp at ho; subst ho; simp [go_sem, ptr])
       · intro p0
         simp only [heads, ghost, List.take_succ_cons, List.take_zero, List.map_cons, List.map_nil]
         repeat (go_big_quiet_step ((first | (go_at_call 249; exact gw_call (rsgsat_b _ _ _)) | (go_at_call 207; (first | (exact gw_call (boolIs (risct_b _ _ _ _ _ _ _ _ _) (b := true) (by assumption))) | (exact gw_call (boolIs (risct_b _ _ _ _ _ _ _ _ _) (b := false) (by assumption))) | (exact gw_call (risct_b _ _ _ _ _ _ _ _ _)))) | (go_at_call 250; exact gw_call (rabsc_b _ _ _ _ _ _ (by with_reducible assumption) (by with_reducible assumption) (by with_reducible assumption) (by with_reducible assumption) (by with_reducible assumption) (by with_reducible assumption) _)) | (go_at_call 251; exact gw_call (rrt_b _ _ _)) | (go_at_call 196; exact gw_call (rvlerp_b _ _ _ _ _ _)) | (go_at_call 252; exact gw_call (rcp_b _ _ _ _ _ _ _)) | (go_at_call 209; exact gw_call (rdist2_b _ _ _ _ _)))))
         exact wpQuiet_nil rfl
       · intro R bB1 bB2 p0 nB1 nB2 gB1 gB2 neB01 neB01' kB1 kB2 hK
         simp only [List.drop_succ_cons, List.drop_zero, Act.put, ptr, List.setIfInBounds_toArray, List.set_cons_succ, List.set_cons_zero]
         have cB1_0 : _ = some _ := blk_cell kB1 0
         have cB1_1 : _ = some _ := blk_cell kB1 1
         have cB2_0 : _ = some _ := blk_cell kB2 0
         have cB2_1 : _ = some _ := blk_cell kB2 1
         have fB1_0 := blk_free kB1 0
         have fB1_1 := blk_free kB1 1
         have fB2_0 := blk_free kB2 0
         have fB2_1 := blk_free kB2 1
         have oB1 := blk_older kB1
         have oB2 := blk_older kB2
         go_wp2_with fail
         refine box_end2 gB1 gB2 hK ?_ ?_ ?_
         · exact bBel
         · exact (by repeat' (first | with_reducible assumption | with_reducible apply blk_gw | with_reducible apply blk_alloc | with_reducible apply blk_set | ((with_reducible apply blk_other); focus (first | omega | assumption))))
         · exact (by repeat' (first | with_reducible assumption | with_reducible apply blk_gw | with_reducible apply blk_alloc | with_reducible apply blk_set | ((with_reducible apply blk_other); focus (first | omega | assumption))))
       intro bB1 bB2 p0 nB1 nB2 neB01 neB01' kB1 kB2
       have cB1_0 : _ = some _ := blk_cell kB1 0
       have cB1_1 : _ = some _ := blk_cell kB1 1
       have cB2_0 : _ = some _ := blk_cell kB2 0
       have cB2_1 : _ = some _ := blk_cell kB2 1
       have fB1_0 := blk_free kB1 0
       have fB1_1 := blk_free kB1 1
       have fB2_0 := blk_free kB2 0
       have fB2_1 := blk_free kB2 1
       have oB1 := blk_older kB1
       have oB2 := blk_older kB2)
  go_upto_if 97 with fail
  refine wp_named ?_
  intro X7 hX7
  have jA_7 : blk X7 B0 #[.int .i64 a1, .int .i64 a2] 24 := by rw [hX7]; exact (by apply blk_of; (repeat (first | with_reducible exact jA_6 | with_reducible apply blk_drew | with_reducible apply blk_gw | with_reducible apply blk_alloc | with_reducible apply blk_set | ((with_reducible apply blk_other); focus omega))); (first | rfl | simp))
  have jB_7 : blk X7 B1 #[.int .i64 b1, .int .i64 b2] 24 := by rw [hX7]; exact (by apply blk_of; (repeat (first | with_reducible exact jB_6 | with_reducible apply blk_drew | with_reducible apply blk_gw | with_reducible apply blk_alloc | with_reducible apply blk_set | ((with_reducible apply blk_other); focus omega))); (first | rfl | simp))
  have jC_7 : blk X7 B2 #[.int .i64 c1, .int .i64 c2] 24 := by rw [hX7]; exact (by apply blk_of; (repeat (first | with_reducible exact jC_6 | with_reducible apply blk_drew | with_reducible apply blk_gw | with_reducible apply blk_alloc | with_reducible apply blk_set | ((with_reducible apply blk_other); focus omega))); (first | rfl | simp))
  have jD_7 : blk X7 B3 #[.int .i64 d1, .int .i64 d2] 24 := by rw [hX7]; exact (by apply blk_of; (repeat (first | with_reducible exact jD_6 | with_reducible apply blk_drew | with_reducible apply blk_gw | with_reducible apply blk_alloc | with_reducible apply blk_set | ((with_reducible apply blk_other); focus omega))); (first | rfl | simp))
  have j8_7 : blk X7 B8 #[.int .i64 0, .int .i64 0] 24 := by rw [hX7]; exact (by apply blk_of; (repeat (first | with_reducible exact j8_6 | with_reducible apply blk_drew | with_reducible apply blk_gw | with_reducible apply blk_alloc | with_reducible apply blk_set | ((with_reducible apply blk_other); focus omega))); (first | rfl | simp))
  have j9_7 : blk X7 B9 #[.int .i64 0, .int .i64 0] 24 := by rw [hX7]; exact (by apply blk_of; (repeat (first | with_reducible exact j9_6 | with_reducible apply blk_drew | with_reducible apply blk_gw | with_reducible apply blk_alloc | with_reducible apply blk_set | ((with_reducible apply blk_other); focus omega))); (first | rfl | simp))
  have jP_7 : blk X7 P #[.int .i64 O2.px, .int .i64 O2.py] 24 := by rw [hX7]; exact (by apply blk_of; (repeat (first | with_reducible exact jP_6 | with_reducible apply blk_drew | with_reducible apply blk_gw | with_reducible apply blk_alloc | with_reducible apply blk_set | ((with_reducible apply blk_other); focus omega))); (first | rfl | simp))
  have jQ_7 : blk X7 Q #[.int .i64 O2.qx, .int .i64 O2.qy] 24 := by rw [hX7]; exact (by apply blk_of; (repeat (first | with_reducible exact jQ_6 | with_reducible apply blk_drew | with_reducible apply blk_gw | with_reducible apply blk_alloc | with_reducible apply blk_set | ((with_reducible apply blk_other); focus omega))); (first | rfl | simp))
  have jX_5 : blk X7 BX #[.int .i64 v1, .int .i64 v2] 24 := by rw [hX7]; exact (by apply blk_of; (repeat (first | with_reducible exact jX_4 | with_reducible apply blk_drew | with_reducible apply blk_gw | with_reducible apply blk_alloc | with_reducible apply blk_set | ((with_reducible apply blk_other); focus omega))); (first | rfl | simp))
  have jY_4 : blk X7 BY #[.int .i64 x1, .int .i64 x2] 24 := by rw [hX7]; exact (by apply blk_of; (repeat (first | with_reducible exact jY_3 | with_reducible apply blk_drew | with_reducible apply blk_gw | with_reducible apply blk_alloc | with_reducible apply blk_set | ((with_reducible apply blk_other); focus omega))); (first | rfl | simp))
  have jZ_3 : blk X7 BZ #[.int .i64 y1, .int .i64 y2] 24 := by rw [hX7]; exact (by apply blk_of; (repeat (first | with_reducible exact jZ_2 | with_reducible apply blk_drew | with_reducible apply blk_gw | with_reducible apply blk_alloc | with_reducible apply blk_set | ((with_reducible apply blk_other); focus omega))); (first | rfl | simp))
  have hbX7 : Below w.heap.size w X7 := by rw [hX7]; exact bBel
  have hzX7 := hbX7.size
  clear hX7
  clear ojA_6 cjA_6_0 cjA_6_1 fjA_6_0 fjA_6_1 ojB_6 cjB_6_0 cjB_6_1 fjB_6_0 fjB_6_1 ojC_6 cjC_6_0 cjC_6_1 fjC_6_0 fjC_6_1 ojD_6 cjD_6_0 cjD_6_1 fjD_6_0 fjD_6_1 oj8_6 cj8_6_0 cj8_6_1 fj8_6_0 fj8_6_1 oj9_6 cj9_6_0 cj9_6_1 fj9_6_0 fj9_6_1 ojP_6 cjP_6_0 cjP_6_1 fjP_6_0 fjP_6_1 ojQ_6 cjQ_6_0 cjQ_6_1 fjQ_6_0 fjQ_6_1 ojX_4 cjX_4_0 cjX_4_1 fjX_4_0 fjX_4_1 ojY_3 cjY_3_0 cjY_3_1 fjY_3_0 fjY_3_1 ojZ_2 cjZ_2_0 cjZ_2_1 fjZ_2_0 fjZ_2_1
  clear jA_6 jB_6 jC_6 jD_6 j8_6 j9_6 jP_6 jQ_6 jX_4 jY_3 jZ_2
  clear hzX6
  clear hbX6
  have ojA_7 := blk_older jA_7
  have cjA_7_0 : _ = some _ := blk_cell jA_7 0
  have cjA_7_1 : _ = some _ := blk_cell jA_7 1
  have fjA_7_0 := blk_free jA_7 0
  have fjA_7_1 := blk_free jA_7 1
  have ojB_7 := blk_older jB_7
  have cjB_7_0 : _ = some _ := blk_cell jB_7 0
  have cjB_7_1 : _ = some _ := blk_cell jB_7 1
  have fjB_7_0 := blk_free jB_7 0
  have fjB_7_1 := blk_free jB_7 1
  have ojC_7 := blk_older jC_7
  have cjC_7_0 : _ = some _ := blk_cell jC_7 0
  have cjC_7_1 : _ = some _ := blk_cell jC_7 1
  have fjC_7_0 := blk_free jC_7 0
  have fjC_7_1 := blk_free jC_7 1
  have ojD_7 := blk_older jD_7
  have cjD_7_0 : _ = some _ := blk_cell jD_7 0
  have cjD_7_1 : _ = some _ := blk_cell jD_7 1
  have fjD_7_0 := blk_free jD_7 0
  have fjD_7_1 := blk_free jD_7 1
  have oj8_7 := blk_older j8_7
  have cj8_7_0 : _ = some _ := blk_cell j8_7 0
  have cj8_7_1 : _ = some _ := blk_cell j8_7 1
  have fj8_7_0 := blk_free j8_7 0
  have fj8_7_1 := blk_free j8_7 1
  have oj9_7 := blk_older j9_7
  have cj9_7_0 : _ = some _ := blk_cell j9_7 0
  have cj9_7_1 : _ = some _ := blk_cell j9_7 1
  have fj9_7_0 := blk_free j9_7 0
  have fj9_7_1 := blk_free j9_7 1
  have ojP_7 := blk_older jP_7
  have cjP_7_0 : _ = some _ := blk_cell jP_7 0
  have cjP_7_1 : _ = some _ := blk_cell jP_7 1
  have fjP_7_0 := blk_free jP_7 0
  have fjP_7_1 := blk_free jP_7 1
  have ojQ_7 := blk_older jQ_7
  have cjQ_7_0 : _ = some _ := blk_cell jQ_7 0
  have cjQ_7_1 : _ = some _ := blk_cell jQ_7 1
  have fjQ_7_0 := blk_free jQ_7 0
  have fjQ_7_1 := blk_free jQ_7 1
  have ojX_5 := blk_older jX_5
  have cjX_5_0 : _ = some _ := blk_cell jX_5 0
  have cjX_5_1 : _ = some _ := blk_cell jX_5 1
  have fjX_5_0 := blk_free jX_5 0
  have fjX_5_1 := blk_free jX_5 1
  have ojY_4 := blk_older jY_4
  have cjY_4_0 : _ = some _ := blk_cell jY_4 0
  have cjY_4_1 : _ = some _ := blk_cell jY_4 1
  have fjY_4_0 := blk_free jY_4 0
  have fjY_4_1 := blk_free jY_4 1
  have ojZ_3 := blk_older jZ_3
  have cjZ_3_0 : _ = some _ := blk_cell jZ_3 0
  have cjZ_3_1 : _ = some _ := blk_cell jZ_3 1
  have fjZ_3_0 := blk_free jZ_3 0
  have fjZ_3_1 := blk_free jZ_3 1
  go_cut [] (fun wx => blk wx B0 #[.int .i64 a1, .int .i64 a2] 24 ∧ blk wx B1 #[.int .i64 b1, .int .i64 b2] 24 ∧ blk wx B2 #[.int .i64 c1, .int .i64 c2] 24 ∧ blk wx B3 #[.int .i64 d1, .int .i64 d2] 24 ∧ blk wx B8 #[.int .i64 0, .int .i64 0] 24 ∧ blk wx B9 #[.int .i64 0, .int .i64 0] 24 ∧ blk wx P #[.int .i64 O3.px, .int .i64 O3.py] 24 ∧ blk wx Q #[.int .i64 O3.qx, .int .i64 O3.qy] 24 ∧ blk wx BX #[.int .i64 v1, .int .i64 v2] 24 ∧ blk wx BY #[.int .i64 x1, .int .i64 x2] 24 ∧ blk wx BZ #[.int .i64 y1, .int .i64 y2] 24 ∧ Below w.heap.size w wx)
  case first =>
    by_cases h : dist2 x1 x2 c1 c2 < dist2 O2.px O2.py O2.qx O2.qy
    · have hb' := decide_eq_true h
      have hO : O3 = ⟨x1, x2, c1, c2⟩ := by rw [← hO3]; exact if_pos h
      go_wp2_with fail
      go_region
      all_goals (go_wp2_with fail)
      all_goals (go_meet; rw [hO]; exact ⟨(by apply blk_of; (repeat (first | with_reducible exact jA_7 | with_reducible apply blk_drew | with_reducible apply blk_gw | with_reducible apply blk_alloc | with_reducible apply blk_set | ((with_reducible apply blk_other); focus omega))); (first | rfl | simp)), (by apply blk_of; (repeat (first | with_reducible exact jB_7 | with_reducible apply blk_drew | with_reducible apply blk_gw | with_reducible apply blk_alloc | with_reducible apply blk_set | ((with_reducible apply blk_other); focus omega))); (first | rfl | simp)), (by apply blk_of; (repeat (first | with_reducible exact jC_7 | with_reducible apply blk_drew | with_reducible apply blk_gw | with_reducible apply blk_alloc | with_reducible apply blk_set | ((with_reducible apply blk_other); focus omega))); (first | rfl | simp)), (by apply blk_of; (repeat (first | with_reducible exact jD_7 | with_reducible apply blk_drew | with_reducible apply blk_gw | with_reducible apply blk_alloc | with_reducible apply blk_set | ((with_reducible apply blk_other); focus omega))); (first | rfl | simp)), (by apply blk_of; (repeat (first | with_reducible exact j8_7 | with_reducible apply blk_drew | with_reducible apply blk_gw | with_reducible apply blk_alloc | with_reducible apply blk_set | ((with_reducible apply blk_other); focus omega))); (first | rfl | simp)), (by apply blk_of; (repeat (first | with_reducible exact j9_7 | with_reducible apply blk_drew | with_reducible apply blk_gw | with_reducible apply blk_alloc | with_reducible apply blk_set | ((with_reducible apply blk_other); focus omega))); (first | rfl | simp)), (by apply blk_of; (repeat (first | with_reducible exact jP_7 | with_reducible apply blk_drew | with_reducible apply blk_gw | with_reducible apply blk_alloc | with_reducible apply blk_set | ((with_reducible apply blk_other); focus omega))); (first | rfl | simp)), (by apply blk_of; (repeat (first | with_reducible exact jQ_7 | with_reducible apply blk_drew | with_reducible apply blk_gw | with_reducible apply blk_alloc | with_reducible apply blk_set | ((with_reducible apply blk_other); focus omega))); (first | rfl | simp)), (by apply blk_of; (repeat (first | with_reducible exact jX_5 | with_reducible apply blk_drew | with_reducible apply blk_gw | with_reducible apply blk_alloc | with_reducible apply blk_set | ((with_reducible apply blk_other); focus omega))); (first | rfl | simp)), (by apply blk_of; (repeat (first | with_reducible exact jY_4 | with_reducible apply blk_drew | with_reducible apply blk_gw | with_reducible apply blk_alloc | with_reducible apply blk_set | ((with_reducible apply blk_other); focus omega))); (first | rfl | simp)), (by apply blk_of; (repeat (first | with_reducible exact jZ_3 | with_reducible apply blk_drew | with_reducible apply blk_gw | with_reducible apply blk_alloc | with_reducible apply blk_set | ((with_reducible apply blk_other); focus omega))); (first | rfl | simp)), bBel⟩)
    · have hb' := decide_eq_false h
      have hO : O3 = O2 := by rw [← hO3]; exact if_neg h
      go_wp2_with fail
      go_meet
      rw [hO]
      exact ⟨(by apply blk_of; (repeat (first | with_reducible exact jA_7 | with_reducible apply blk_drew | with_reducible apply blk_gw | with_reducible apply blk_alloc | with_reducible apply blk_set | ((with_reducible apply blk_other); focus omega))); (first | rfl | simp)), (by apply blk_of; (repeat (first | with_reducible exact jB_7 | with_reducible apply blk_drew | with_reducible apply blk_gw | with_reducible apply blk_alloc | with_reducible apply blk_set | ((with_reducible apply blk_other); focus omega))); (first | rfl | simp)), (by apply blk_of; (repeat (first | with_reducible exact jC_7 | with_reducible apply blk_drew | with_reducible apply blk_gw | with_reducible apply blk_alloc | with_reducible apply blk_set | ((with_reducible apply blk_other); focus omega))); (first | rfl | simp)), (by apply blk_of; (repeat (first | with_reducible exact jD_7 | with_reducible apply blk_drew | with_reducible apply blk_gw | with_reducible apply blk_alloc | with_reducible apply blk_set | ((with_reducible apply blk_other); focus omega))); (first | rfl | simp)), (by apply blk_of; (repeat (first | with_reducible exact j8_7 | with_reducible apply blk_drew | with_reducible apply blk_gw | with_reducible apply blk_alloc | with_reducible apply blk_set | ((with_reducible apply blk_other); focus omega))); (first | rfl | simp)), (by apply blk_of; (repeat (first | with_reducible exact j9_7 | with_reducible apply blk_drew | with_reducible apply blk_gw | with_reducible apply blk_alloc | with_reducible apply blk_set | ((with_reducible apply blk_other); focus omega))); (first | rfl | simp)), (by apply blk_of; (repeat (first | with_reducible exact jP_7 | with_reducible apply blk_drew | with_reducible apply blk_gw | with_reducible apply blk_alloc | with_reducible apply blk_set | ((with_reducible apply blk_other); focus omega))); (first | rfl | simp)), (by apply blk_of; (repeat (first | with_reducible exact jQ_7 | with_reducible apply blk_drew | with_reducible apply blk_gw | with_reducible apply blk_alloc | with_reducible apply blk_set | ((with_reducible apply blk_other); focus omega))); (first | rfl | simp)), (by apply blk_of; (repeat (first | with_reducible exact jX_5 | with_reducible apply blk_drew | with_reducible apply blk_gw | with_reducible apply blk_alloc | with_reducible apply blk_set | ((with_reducible apply blk_other); focus omega))); (first | rfl | simp)), (by apply blk_of; (repeat (first | with_reducible exact jY_4 | with_reducible apply blk_drew | with_reducible apply blk_gw | with_reducible apply blk_alloc | with_reducible apply blk_set | ((with_reducible apply blk_other); focus omega))); (first | rfl | simp)), (by apply blk_of; (repeat (first | with_reducible exact jZ_3 | with_reducible apply blk_drew | with_reducible apply blk_gw | with_reducible apply blk_alloc | with_reducible apply blk_set | ((with_reducible apply blk_other); focus omega))); (first | rfl | simp)), bBel⟩
  case rest =>
  clear ojA_7 cjA_7_0 cjA_7_1 fjA_7_0 fjA_7_1 ojB_7 cjB_7_0 cjB_7_1 fjB_7_0 fjB_7_1 ojC_7 cjC_7_0 cjC_7_1 fjC_7_0 fjC_7_1 ojD_7 cjD_7_0 cjD_7_1 fjD_7_0 fjD_7_1 oj8_7 cj8_7_0 cj8_7_1 fj8_7_0 fj8_7_1 oj9_7 cj9_7_0 cj9_7_1 fj9_7_0 fj9_7_1 ojP_7 cjP_7_0 cjP_7_1 fjP_7_0 fjP_7_1 ojQ_7 cjQ_7_0 cjQ_7_1 fjQ_7_0 fjQ_7_1 ojX_5 cjX_5_0 cjX_5_1 fjX_5_0 fjX_5_1 ojY_4 cjY_4_0 cjY_4_1 fjY_4_0 fjY_4_1 ojZ_3 cjZ_3_0 cjZ_3_1 fjZ_3_0 fjZ_3_1 jA_7 jB_7 jC_7 jD_7 j8_7 j9_7 jP_7 jQ_7 jX_5 jY_4 jZ_3 hbX7 hzX7
  obtain ⟨jA_8, jB_8, jC_8, jD_8, j8_8, j9_8, jP_8, jQ_8, jX_6, jY_5, jZ_4, hbX8⟩ := hcut
  generalize wc = X8 at *
  have hzX8 := hbX8.size
  have ojA_8 := blk_older jA_8
  have cjA_8_0 : _ = some _ := blk_cell jA_8 0
  have cjA_8_1 : _ = some _ := blk_cell jA_8 1
  have fjA_8_0 := blk_free jA_8 0
  have fjA_8_1 := blk_free jA_8 1
  have ojB_8 := blk_older jB_8
  have cjB_8_0 : _ = some _ := blk_cell jB_8 0
  have cjB_8_1 : _ = some _ := blk_cell jB_8 1
  have fjB_8_0 := blk_free jB_8 0
  have fjB_8_1 := blk_free jB_8 1
  have ojC_8 := blk_older jC_8
  have cjC_8_0 : _ = some _ := blk_cell jC_8 0
  have cjC_8_1 : _ = some _ := blk_cell jC_8 1
  have fjC_8_0 := blk_free jC_8 0
  have fjC_8_1 := blk_free jC_8 1
  have ojD_8 := blk_older jD_8
  have cjD_8_0 : _ = some _ := blk_cell jD_8 0
  have cjD_8_1 : _ = some _ := blk_cell jD_8 1
  have fjD_8_0 := blk_free jD_8 0
  have fjD_8_1 := blk_free jD_8 1
  have oj8_8 := blk_older j8_8
  have cj8_8_0 : _ = some _ := blk_cell j8_8 0
  have cj8_8_1 : _ = some _ := blk_cell j8_8 1
  have fj8_8_0 := blk_free j8_8 0
  have fj8_8_1 := blk_free j8_8 1
  have oj9_8 := blk_older j9_8
  have cj9_8_0 : _ = some _ := blk_cell j9_8 0
  have cj9_8_1 : _ = some _ := blk_cell j9_8 1
  have fj9_8_0 := blk_free j9_8 0
  have fj9_8_1 := blk_free j9_8 1
  have ojP_8 := blk_older jP_8
  have cjP_8_0 : _ = some _ := blk_cell jP_8 0
  have cjP_8_1 : _ = some _ := blk_cell jP_8 1
  have fjP_8_0 := blk_free jP_8 0
  have fjP_8_1 := blk_free jP_8 1
  have ojQ_8 := blk_older jQ_8
  have cjQ_8_0 : _ = some _ := blk_cell jQ_8 0
  have cjQ_8_1 : _ = some _ := blk_cell jQ_8 1
  have fjQ_8_0 := blk_free jQ_8 0
  have fjQ_8_1 := blk_free jQ_8 1
  have ojX_6 := blk_older jX_6
  have cjX_6_0 : _ = some _ := blk_cell jX_6 0
  have cjX_6_1 : _ = some _ := blk_cell jX_6 1
  have fjX_6_0 := blk_free jX_6 0
  have fjX_6_1 := blk_free jX_6 1
  have ojY_5 := blk_older jY_5
  have cjY_5_0 : _ = some _ := blk_cell jY_5 0
  have cjY_5_1 : _ = some _ := blk_cell jY_5 1
  have fjY_5_0 := blk_free jY_5 0
  have fjY_5_1 := blk_free jY_5 1
  have ojZ_4 := blk_older jZ_4
  have cjZ_4_0 : _ = some _ := blk_cell jZ_4 0
  have cjZ_4_1 : _ = some _ := blk_cell jZ_4 1
  have fjZ_4_0 := blk_free jZ_4 0
  have fjZ_4_1 := blk_free jZ_4 1
  go_upto_region 15 with fail
  first
    | (refine wp_region_gw_tail 8 (by kernel_rfl) (by decide +kernel) ?_
       simp only [List.take_succ_cons, List.take_zero, List.drop_succ_cons, List.drop_zero]
       repeat (go_big_quiet_step ((first | (go_at_call 249; exact gw_call (rsgsat_b _ _ _)) | (go_at_call 207; (first | (exact gw_call (boolIs (risct_b _ _ _ _ _ _ _ _ _) (b := true) (by assumption))) | (exact gw_call (boolIs (risct_b _ _ _ _ _ _ _ _ _) (b := false) (by assumption))) | (exact gw_call (risct_b _ _ _ _ _ _ _ _ _)))) | (go_at_call 250; exact gw_call (rabsc_b _ _ _ _ _ _ (by with_reducible assumption) (by with_reducible assumption) (by with_reducible assumption) (by with_reducible assumption) (by with_reducible assumption) (by with_reducible assumption) _)) | (go_at_call 251; exact gw_call (rrt_b _ _ _)) | (go_at_call 196; exact gw_call (rvlerp_b _ _ _ _ _ _)) | (go_at_call 252; exact gw_call (rcp_b _ _ _ _ _ _ _)) | (go_at_call 209; exact gw_call (rdist2_b _ _ _ _ _)))))
       refine wpQuiet_nil ?_
       intro w1 hw1
       obtain ⟨q, rfl⟩ := hw1)
    | (refine wp_region_gw (by kernel_rfl) (by decide +kernel) ?_
       repeat (go_big_quiet_step ((first | (go_at_call 249; exact gw_call (rsgsat_b _ _ _)) | (go_at_call 207; (first | (exact gw_call (boolIs (risct_b _ _ _ _ _ _ _ _ _) (b := true) (by assumption))) | (exact gw_call (boolIs (risct_b _ _ _ _ _ _ _ _ _) (b := false) (by assumption))) | (exact gw_call (risct_b _ _ _ _ _ _ _ _ _)))) | (go_at_call 250; exact gw_call (rabsc_b _ _ _ _ _ _ (by with_reducible assumption) (by with_reducible assumption) (by with_reducible assumption) (by with_reducible assumption) (by with_reducible assumption) (by with_reducible assumption) _)) | (go_at_call 251; exact gw_call (rrt_b _ _ _)) | (go_at_call 196; exact gw_call (rvlerp_b _ _ _ _ _ _)) | (go_at_call 252; exact gw_call (rcp_b _ _ _ _ _ _ _)) | (go_at_call 209; exact gw_call (rdist2_b _ _ _ _ _)))))
       refine wpQuiet_nil ?_
       intro w1 hw1
       obtain ⟨q, rfl⟩ := hw1)
    | (apply wp_box1 9 111 8 12 #[.int .i64 0, .int .i64 0] 24 (by kernel_rfl) (by rfl) (by decide +kernel) (by intro o ho a w; simp at ho; subst ho; simp [go_sem, ptr])
       · intro p0
         simp only [heads, ghost, List.take_succ_cons, List.take_zero, List.map_cons, List.map_nil]
         repeat (go_big_quiet_step ((first | (go_at_call 249; exact gw_call (rsgsat_b _ _ _)) | (go_at_call 207; (first | (exact gw_call (boolIs (risct_b _ _ _ _ _ _ _ _ _) (b := true) (by assumption))) | (exact gw_call (boolIs (risct_b _ _ _ _ _ _ _ _ _) (b := false) (by assumption))) | (exact gw_call (risct_b _ _ _ _ _ _ _ _ _)))) | (go_at_call 250; exact gw_call (rabsc_b _ _ _ _ _ _ (by with_reducible assumption) (by with_reducible assumption) (by with_reducible assumption) (by with_reducible assumption) (by with_reducible assumption) (by with_reducible assumption) _)) | (go_at_call 251; exact gw_call (rrt_b _ _ _)) | (go_at_call 196; exact gw_call (rvlerp_b _ _ _ _ _ _)) | (go_at_call 252; exact gw_call (rcp_b _ _ _ _ _ _ _)) | (go_at_call 209; exact gw_call (rdist2_b _ _ _ _ _)))))
         exact wpQuiet_nil rfl
       · intro R bB p0 nB gB  kB hK
         simp only [List.drop_succ_cons, List.drop_zero, Act.put, ptr, List.setIfInBounds_toArray, List.set_cons_succ, List.set_cons_zero]
         have cB_0 : _ = some _ := blk_cell kB 0
         have cB_1 : _ = some _ := blk_cell kB 1
         have fB_0 := blk_free kB 0
         have fB_1 := blk_free kB 1
         have oB := blk_older kB
         go_wp2_with fail
         refine box_end1 gB hK ?_ ?_
         · exact bBel
         · exact (by repeat' (first | with_reducible assumption | with_reducible apply blk_gw | with_reducible apply blk_alloc | with_reducible apply blk_set | ((with_reducible apply blk_other); focus (first | omega | assumption))))
       intro bB p0 nB  kB
       have cB_0 : _ = some _ := blk_cell kB 0
       have cB_1 : _ = some _ := blk_cell kB 1
       have fB_0 := blk_free kB 0
       have fB_1 := blk_free kB 1
       have oB := blk_older kB)
    | (refine wp_region_gw_tail 2 (by kernel_rfl) (by decide +kernel) ?_
       simp only [List.take_succ_cons, List.take_zero, List.drop_succ_cons, List.drop_zero]
       repeat (go_big_quiet_step ((first | (go_at_call 249; exact gw_call (rsgsat_b _ _ _)) | (go_at_call 207; (first | (exact gw_call (boolIs (risct_b _ _ _ _ _ _ _ _ _) (b := true) (by assumption))) | (exact gw_call (boolIs (risct_b _ _ _ _ _ _ _ _ _) (b := false) (by assumption))) | (exact gw_call (risct_b _ _ _ _ _ _ _ _ _)))) | (go_at_call 250; exact gw_call (rabsc_b _ _ _ _ _ _ (by with_reducible assumption) (by with_reducible assumption) (by with_reducible assumption) (by with_reducible assumption) (by with_reducible assumption) (by with_reducible assumption) _)) | (go_at_call 251; exact gw_call (rrt_b _ _ _)) | (go_at_call 196; exact gw_call (rvlerp_b _ _ _ _ _ _)) | (go_at_call 252; exact gw_call (rcp_b _ _ _ _ _ _ _)) | (go_at_call 209; exact gw_call (rdist2_b _ _ _ _ _)))))
       refine wpQuiet_nil ?_
       intro w1 hw1
       obtain ⟨q, rfl⟩ := hw1)
    | (apply wp_box2 4 111 2 13 3 14 #[.int .i64 0, .int .i64 0] #[.int .i64 0, .int .i64 0] 24 24 (by kernel_rfl) (by rfl) (by decide +kernel) (by rfl) (by intro o ho a w; simp at ho; subst ho; simp [go_sem, ptr]) (by intro o ho a w; simp at ho; subst ho; simp [go_sem, ptr])
       · intro p0
         simp only [heads, ghost, List.take_succ_cons, List.take_zero, List.map_cons, List.map_nil]
         repeat (go_big_quiet_step ((first | (go_at_call 249; exact gw_call (rsgsat_b _ _ _)) | (go_at_call 207; (first | (exact gw_call (boolIs (risct_b _ _ _ _ _ _ _ _ _) (b := true) (by assumption))) | (exact gw_call (boolIs (risct_b _ _ _ _ _ _ _ _ _) (b := false) (by assumption))) | (exact gw_call (risct_b _ _ _ _ _ _ _ _ _)))) | (go_at_call 250; exact gw_call (rabsc_b _ _ _ _ _ _ (by with_reducible assumption) (by with_reducible assumption) (by with_reducible assumption) (by with_reducible assumption) (by with_reducible assumption) (by with_reducible assumption) _)) | (go_at_call 251; exact gw_call (rrt_b _ _ _)) | (go_at_call 196; exact gw_call (rvlerp_b _ _ _ _ _ _)) | (go_at_call 252; exact gw_call (rcp_b _ _ _ _ _ _ _)) | (go_at_call 209; exact gw_call (rdist2_b _ _ _ _ _)))))
         exact wpQuiet_nil rfl
       · intro R bB1 bB2 p0 nB1 nB2 gB1 gB2 neB01 neB01' kB1 kB2 hK
         simp only [List.drop_succ_cons, List.drop_zero, Act.put, ptr, List.setIfInBounds_toArray, List.set_cons_succ, List.set_cons_zero]
         have cB1_0 : _ = some _ := blk_cell kB1 0
         have cB1_1 : _ = some _ := blk_cell kB1 1
         have cB2_0 : _ = some _ := blk_cell kB2 0
         have cB2_1 : _ = some _ := blk_cell kB2 1
         have fB1_0 := blk_free kB1 0
         have fB1_1 := blk_free kB1 1
         have fB2_0 := blk_free kB2 0
         have fB2_1 := blk_free kB2 1
         have oB1 := blk_older kB1
         have oB2 := blk_older kB2
         go_wp2_with fail
         refine box_end2 gB1 gB2 hK ?_ ?_ ?_
         · exact bBel
         · exact (by repeat' (first | with_reducible assumption | with_reducible apply blk_gw | with_reducible apply blk_alloc | with_reducible apply blk_set | ((with_reducible apply blk_other); focus (first | omega | assumption))))
         · exact (by repeat' (first | with_reducible assumption | with_reducible apply blk_gw | with_reducible apply blk_alloc | with_reducible apply blk_set | ((with_reducible apply blk_other); focus (first | omega | assumption))))
       intro bB1 bB2 p0 nB1 nB2 neB01 neB01' kB1 kB2
       have cB1_0 : _ = some _ := blk_cell kB1 0
       have cB1_1 : _ = some _ := blk_cell kB1 1
       have cB2_0 : _ = some _ := blk_cell kB2 0
       have cB2_1 : _ = some _ := blk_cell kB2 1
       have fB1_0 := blk_free kB1 0
       have fB1_1 := blk_free kB1 1
       have fB2_0 := blk_free kB2 0
       have fB2_1 := blk_free kB2 1
       have oB1 := blk_older kB1
       have oB2 := blk_older kB2)
  go_upto_if 106 with fail
  refine wp_named ?_
  intro X9 hX9
  have jA_9 : blk X9 B0 #[.int .i64 a1, .int .i64 a2] 24 := by rw [hX9]; exact (by apply blk_of; (repeat (first | with_reducible exact jA_8 | with_reducible apply blk_drew | with_reducible apply blk_gw | with_reducible apply blk_alloc | with_reducible apply blk_set | ((with_reducible apply blk_other); focus omega))); (first | rfl | simp))
  have jB_9 : blk X9 B1 #[.int .i64 b1, .int .i64 b2] 24 := by rw [hX9]; exact (by apply blk_of; (repeat (first | with_reducible exact jB_8 | with_reducible apply blk_drew | with_reducible apply blk_gw | with_reducible apply blk_alloc | with_reducible apply blk_set | ((with_reducible apply blk_other); focus omega))); (first | rfl | simp))
  have jC_9 : blk X9 B2 #[.int .i64 c1, .int .i64 c2] 24 := by rw [hX9]; exact (by apply blk_of; (repeat (first | with_reducible exact jC_8 | with_reducible apply blk_drew | with_reducible apply blk_gw | with_reducible apply blk_alloc | with_reducible apply blk_set | ((with_reducible apply blk_other); focus omega))); (first | rfl | simp))
  have jD_9 : blk X9 B3 #[.int .i64 d1, .int .i64 d2] 24 := by rw [hX9]; exact (by apply blk_of; (repeat (first | with_reducible exact jD_8 | with_reducible apply blk_drew | with_reducible apply blk_gw | with_reducible apply blk_alloc | with_reducible apply blk_set | ((with_reducible apply blk_other); focus omega))); (first | rfl | simp))
  have j8_9 : blk X9 B8 #[.int .i64 0, .int .i64 0] 24 := by rw [hX9]; exact (by apply blk_of; (repeat (first | with_reducible exact j8_8 | with_reducible apply blk_drew | with_reducible apply blk_gw | with_reducible apply blk_alloc | with_reducible apply blk_set | ((with_reducible apply blk_other); focus omega))); (first | rfl | simp))
  have j9_9 : blk X9 B9 #[.int .i64 0, .int .i64 0] 24 := by rw [hX9]; exact (by apply blk_of; (repeat (first | with_reducible exact j9_8 | with_reducible apply blk_drew | with_reducible apply blk_gw | with_reducible apply blk_alloc | with_reducible apply blk_set | ((with_reducible apply blk_other); focus omega))); (first | rfl | simp))
  have jP_9 : blk X9 P #[.int .i64 O3.px, .int .i64 O3.py] 24 := by rw [hX9]; exact (by apply blk_of; (repeat (first | with_reducible exact jP_8 | with_reducible apply blk_drew | with_reducible apply blk_gw | with_reducible apply blk_alloc | with_reducible apply blk_set | ((with_reducible apply blk_other); focus omega))); (first | rfl | simp))
  have jQ_9 : blk X9 Q #[.int .i64 O3.qx, .int .i64 O3.qy] 24 := by rw [hX9]; exact (by apply blk_of; (repeat (first | with_reducible exact jQ_8 | with_reducible apply blk_drew | with_reducible apply blk_gw | with_reducible apply blk_alloc | with_reducible apply blk_set | ((with_reducible apply blk_other); focus omega))); (first | rfl | simp))
  have jX_7 : blk X9 BX #[.int .i64 v1, .int .i64 v2] 24 := by rw [hX9]; exact (by apply blk_of; (repeat (first | with_reducible exact jX_6 | with_reducible apply blk_drew | with_reducible apply blk_gw | with_reducible apply blk_alloc | with_reducible apply blk_set | ((with_reducible apply blk_other); focus omega))); (first | rfl | simp))
  have jY_6 : blk X9 BY #[.int .i64 x1, .int .i64 x2] 24 := by rw [hX9]; exact (by apply blk_of; (repeat (first | with_reducible exact jY_5 | with_reducible apply blk_drew | with_reducible apply blk_gw | with_reducible apply blk_alloc | with_reducible apply blk_set | ((with_reducible apply blk_other); focus omega))); (first | rfl | simp))
  have jZ_5 : blk X9 BZ #[.int .i64 y1, .int .i64 y2] 24 := by rw [hX9]; exact (by apply blk_of; (repeat (first | with_reducible exact jZ_4 | with_reducible apply blk_drew | with_reducible apply blk_gw | with_reducible apply blk_alloc | with_reducible apply blk_set | ((with_reducible apply blk_other); focus omega))); (first | rfl | simp))
  have hbX9 : Below w.heap.size w X9 := by rw [hX9]; exact bBel
  have hzX9 := hbX9.size
  clear hX9
  clear ojA_8 cjA_8_0 cjA_8_1 fjA_8_0 fjA_8_1 ojB_8 cjB_8_0 cjB_8_1 fjB_8_0 fjB_8_1 ojC_8 cjC_8_0 cjC_8_1 fjC_8_0 fjC_8_1 ojD_8 cjD_8_0 cjD_8_1 fjD_8_0 fjD_8_1 oj8_8 cj8_8_0 cj8_8_1 fj8_8_0 fj8_8_1 oj9_8 cj9_8_0 cj9_8_1 fj9_8_0 fj9_8_1 ojP_8 cjP_8_0 cjP_8_1 fjP_8_0 fjP_8_1 ojQ_8 cjQ_8_0 cjQ_8_1 fjQ_8_0 fjQ_8_1 ojX_6 cjX_6_0 cjX_6_1 fjX_6_0 fjX_6_1 ojY_5 cjY_5_0 cjY_5_1 fjY_5_0 fjY_5_1 ojZ_4 cjZ_4_0 cjZ_4_1 fjZ_4_0 fjZ_4_1
  clear jA_8 jB_8 jC_8 jD_8 j8_8 j9_8 jP_8 jQ_8 jX_6 jY_5 jZ_4
  clear hzX8
  clear hbX8
  have ojA_9 := blk_older jA_9
  have cjA_9_0 : _ = some _ := blk_cell jA_9 0
  have cjA_9_1 : _ = some _ := blk_cell jA_9 1
  have fjA_9_0 := blk_free jA_9 0
  have fjA_9_1 := blk_free jA_9 1
  have ojB_9 := blk_older jB_9
  have cjB_9_0 : _ = some _ := blk_cell jB_9 0
  have cjB_9_1 : _ = some _ := blk_cell jB_9 1
  have fjB_9_0 := blk_free jB_9 0
  have fjB_9_1 := blk_free jB_9 1
  have ojC_9 := blk_older jC_9
  have cjC_9_0 : _ = some _ := blk_cell jC_9 0
  have cjC_9_1 : _ = some _ := blk_cell jC_9 1
  have fjC_9_0 := blk_free jC_9 0
  have fjC_9_1 := blk_free jC_9 1
  have ojD_9 := blk_older jD_9
  have cjD_9_0 : _ = some _ := blk_cell jD_9 0
  have cjD_9_1 : _ = some _ := blk_cell jD_9 1
  have fjD_9_0 := blk_free jD_9 0
  have fjD_9_1 := blk_free jD_9 1
  have oj8_9 := blk_older j8_9
  have cj8_9_0 : _ = some _ := blk_cell j8_9 0
  have cj8_9_1 : _ = some _ := blk_cell j8_9 1
  have fj8_9_0 := blk_free j8_9 0
  have fj8_9_1 := blk_free j8_9 1
  have oj9_9 := blk_older j9_9
  have cj9_9_0 : _ = some _ := blk_cell j9_9 0
  have cj9_9_1 : _ = some _ := blk_cell j9_9 1
  have fj9_9_0 := blk_free j9_9 0
  have fj9_9_1 := blk_free j9_9 1
  have ojP_9 := blk_older jP_9
  have cjP_9_0 : _ = some _ := blk_cell jP_9 0
  have cjP_9_1 : _ = some _ := blk_cell jP_9 1
  have fjP_9_0 := blk_free jP_9 0
  have fjP_9_1 := blk_free jP_9 1
  have ojQ_9 := blk_older jQ_9
  have cjQ_9_0 : _ = some _ := blk_cell jQ_9 0
  have cjQ_9_1 : _ = some _ := blk_cell jQ_9 1
  have fjQ_9_0 := blk_free jQ_9 0
  have fjQ_9_1 := blk_free jQ_9 1
  have ojX_7 := blk_older jX_7
  have cjX_7_0 : _ = some _ := blk_cell jX_7 0
  have cjX_7_1 : _ = some _ := blk_cell jX_7 1
  have fjX_7_0 := blk_free jX_7 0
  have fjX_7_1 := blk_free jX_7 1
  have ojY_6 := blk_older jY_6
  have cjY_6_0 : _ = some _ := blk_cell jY_6 0
  have cjY_6_1 : _ = some _ := blk_cell jY_6 1
  have fjY_6_0 := blk_free jY_6 0
  have fjY_6_1 := blk_free jY_6 1
  have ojZ_5 := blk_older jZ_5
  have cjZ_5_0 : _ = some _ := blk_cell jZ_5 0
  have cjZ_5_1 : _ = some _ := blk_cell jZ_5 1
  have fjZ_5_0 := blk_free jZ_5 0
  have fjZ_5_1 := blk_free jZ_5 1
  go_cut [] (fun wx => blk wx B0 #[.int .i64 a1, .int .i64 a2] 24 ∧ blk wx B1 #[.int .i64 b1, .int .i64 b2] 24 ∧ blk wx B2 #[.int .i64 c1, .int .i64 c2] 24 ∧ blk wx B3 #[.int .i64 d1, .int .i64 d2] 24 ∧ blk wx B8 #[.int .i64 0, .int .i64 0] 24 ∧ blk wx B9 #[.int .i64 0, .int .i64 0] 24 ∧ blk wx P #[.int .i64 O4.px, .int .i64 O4.py] 24 ∧ blk wx Q #[.int .i64 O4.qx, .int .i64 O4.qy] 24 ∧ blk wx BX #[.int .i64 v1, .int .i64 v2] 24 ∧ blk wx BY #[.int .i64 x1, .int .i64 x2] 24 ∧ blk wx BZ #[.int .i64 y1, .int .i64 y2] 24 ∧ Below w.heap.size w wx)
  case first =>
    by_cases h : dist2 y1 y2 d1 d2 < dist2 O3.px O3.py O3.qx O3.qy
    · have hb' := decide_eq_true h
      have hO : O4 = ⟨y1, y2, d1, d2⟩ := by rw [← hO4]; exact if_pos h
      go_wp2_with fail
      go_region
      all_goals (go_wp2_with fail)
      all_goals (go_meet; rw [hO]; exact ⟨(by apply blk_of; (repeat (first | with_reducible exact jA_9 | with_reducible apply blk_drew | with_reducible apply blk_gw | with_reducible apply blk_alloc | with_reducible apply blk_set | ((with_reducible apply blk_other); focus omega))); (first | rfl | simp)), (by apply blk_of; (repeat (first | with_reducible exact jB_9 | with_reducible apply blk_drew | with_reducible apply blk_gw | with_reducible apply blk_alloc | with_reducible apply blk_set | ((with_reducible apply blk_other); focus omega))); (first | rfl | simp)), (by apply blk_of; (repeat (first | with_reducible exact jC_9 | with_reducible apply blk_drew | with_reducible apply blk_gw | with_reducible apply blk_alloc | with_reducible apply blk_set | ((with_reducible apply blk_other); focus omega))); (first | rfl | simp)), (by apply blk_of; (repeat (first | with_reducible exact jD_9 | with_reducible apply blk_drew | with_reducible apply blk_gw | with_reducible apply blk_alloc | with_reducible apply blk_set | ((with_reducible apply blk_other); focus omega))); (first | rfl | simp)), (by apply blk_of; (repeat (first | with_reducible exact j8_9 | with_reducible apply blk_drew | with_reducible apply blk_gw | with_reducible apply blk_alloc | with_reducible apply blk_set | ((with_reducible apply blk_other); focus omega))); (first | rfl | simp)), (by apply blk_of; (repeat (first | with_reducible exact j9_9 | with_reducible apply blk_drew | with_reducible apply blk_gw | with_reducible apply blk_alloc | with_reducible apply blk_set | ((with_reducible apply blk_other); focus omega))); (first | rfl | simp)), (by apply blk_of; (repeat (first | with_reducible exact jP_9 | with_reducible apply blk_drew | with_reducible apply blk_gw | with_reducible apply blk_alloc | with_reducible apply blk_set | ((with_reducible apply blk_other); focus omega))); (first | rfl | simp)), (by apply blk_of; (repeat (first | with_reducible exact jQ_9 | with_reducible apply blk_drew | with_reducible apply blk_gw | with_reducible apply blk_alloc | with_reducible apply blk_set | ((with_reducible apply blk_other); focus omega))); (first | rfl | simp)), (by apply blk_of; (repeat (first | with_reducible exact jX_7 | with_reducible apply blk_drew | with_reducible apply blk_gw | with_reducible apply blk_alloc | with_reducible apply blk_set | ((with_reducible apply blk_other); focus omega))); (first | rfl | simp)), (by apply blk_of; (repeat (first | with_reducible exact jY_6 | with_reducible apply blk_drew | with_reducible apply blk_gw | with_reducible apply blk_alloc | with_reducible apply blk_set | ((with_reducible apply blk_other); focus omega))); (first | rfl | simp)), (by apply blk_of; (repeat (first | with_reducible exact jZ_5 | with_reducible apply blk_drew | with_reducible apply blk_gw | with_reducible apply blk_alloc | with_reducible apply blk_set | ((with_reducible apply blk_other); focus omega))); (first | rfl | simp)), bBel⟩)
    · have hb' := decide_eq_false h
      have hO : O4 = O3 := by rw [← hO4]; exact if_neg h
      go_wp2_with fail
      go_meet
      rw [hO]
      exact ⟨(by apply blk_of; (repeat (first | with_reducible exact jA_9 | with_reducible apply blk_drew | with_reducible apply blk_gw | with_reducible apply blk_alloc | with_reducible apply blk_set | ((with_reducible apply blk_other); focus omega))); (first | rfl | simp)), (by apply blk_of; (repeat (first | with_reducible exact jB_9 | with_reducible apply blk_drew | with_reducible apply blk_gw | with_reducible apply blk_alloc | with_reducible apply blk_set | ((with_reducible apply blk_other); focus omega))); (first | rfl | simp)), (by apply blk_of; (repeat (first | with_reducible exact jC_9 | with_reducible apply blk_drew | with_reducible apply blk_gw | with_reducible apply blk_alloc | with_reducible apply blk_set | ((with_reducible apply blk_other); focus omega))); (first | rfl | simp)), (by apply blk_of; (repeat (first | with_reducible exact jD_9 | with_reducible apply blk_drew | with_reducible apply blk_gw | with_reducible apply blk_alloc | with_reducible apply blk_set | ((with_reducible apply blk_other); focus omega))); (first | rfl | simp)), (by apply blk_of; (repeat (first | with_reducible exact j8_9 | with_reducible apply blk_drew | with_reducible apply blk_gw | with_reducible apply blk_alloc | with_reducible apply blk_set | ((with_reducible apply blk_other); focus omega))); (first | rfl | simp)), (by apply blk_of; (repeat (first | with_reducible exact j9_9 | with_reducible apply blk_drew | with_reducible apply blk_gw | with_reducible apply blk_alloc | with_reducible apply blk_set | ((with_reducible apply blk_other); focus omega))); (first | rfl | simp)), (by apply blk_of; (repeat (first | with_reducible exact jP_9 | with_reducible apply blk_drew | with_reducible apply blk_gw | with_reducible apply blk_alloc | with_reducible apply blk_set | ((with_reducible apply blk_other); focus omega))); (first | rfl | simp)), (by apply blk_of; (repeat (first | with_reducible exact jQ_9 | with_reducible apply blk_drew | with_reducible apply blk_gw | with_reducible apply blk_alloc | with_reducible apply blk_set | ((with_reducible apply blk_other); focus omega))); (first | rfl | simp)), (by apply blk_of; (repeat (first | with_reducible exact jX_7 | with_reducible apply blk_drew | with_reducible apply blk_gw | with_reducible apply blk_alloc | with_reducible apply blk_set | ((with_reducible apply blk_other); focus omega))); (first | rfl | simp)), (by apply blk_of; (repeat (first | with_reducible exact jY_6 | with_reducible apply blk_drew | with_reducible apply blk_gw | with_reducible apply blk_alloc | with_reducible apply blk_set | ((with_reducible apply blk_other); focus omega))); (first | rfl | simp)), (by apply blk_of; (repeat (first | with_reducible exact jZ_5 | with_reducible apply blk_drew | with_reducible apply blk_gw | with_reducible apply blk_alloc | with_reducible apply blk_set | ((with_reducible apply blk_other); focus omega))); (first | rfl | simp)), bBel⟩
  case rest =>
  clear ojA_9 cjA_9_0 cjA_9_1 fjA_9_0 fjA_9_1 ojB_9 cjB_9_0 cjB_9_1 fjB_9_0 fjB_9_1 ojC_9 cjC_9_0 cjC_9_1 fjC_9_0 fjC_9_1 ojD_9 cjD_9_0 cjD_9_1 fjD_9_0 fjD_9_1 oj8_9 cj8_9_0 cj8_9_1 fj8_9_0 fj8_9_1 oj9_9 cj9_9_0 cj9_9_1 fj9_9_0 fj9_9_1 ojP_9 cjP_9_0 cjP_9_1 fjP_9_0 fjP_9_1 ojQ_9 cjQ_9_0 cjQ_9_1 fjQ_9_0 fjQ_9_1 ojX_7 cjX_7_0 cjX_7_1 fjX_7_0 fjX_7_1 ojY_6 cjY_6_0 cjY_6_1 fjY_6_0 fjY_6_1 ojZ_5 cjZ_5_0 cjZ_5_1 fjZ_5_0 fjZ_5_1 jA_9 jB_9 jC_9 jD_9 j8_9 j9_9 jP_9 jQ_9 jX_7 jY_6 jZ_5 hbX9 hzX9
  obtain ⟨jA_10, jB_10, jC_10, jD_10, j8_10, j9_10, jP_10, jQ_10, jX_8, jY_7, jZ_6, hbY0⟩ := hcut
  generalize wc = Y0 at *
  have hzY0 := hbY0.size
  have ojA_10 := blk_older jA_10
  have cjA_10_0 : _ = some _ := blk_cell jA_10 0
  have cjA_10_1 : _ = some _ := blk_cell jA_10 1
  have fjA_10_0 := blk_free jA_10 0
  have fjA_10_1 := blk_free jA_10 1
  have ojB_10 := blk_older jB_10
  have cjB_10_0 : _ = some _ := blk_cell jB_10 0
  have cjB_10_1 : _ = some _ := blk_cell jB_10 1
  have fjB_10_0 := blk_free jB_10 0
  have fjB_10_1 := blk_free jB_10 1
  have ojC_10 := blk_older jC_10
  have cjC_10_0 : _ = some _ := blk_cell jC_10 0
  have cjC_10_1 : _ = some _ := blk_cell jC_10 1
  have fjC_10_0 := blk_free jC_10 0
  have fjC_10_1 := blk_free jC_10 1
  have ojD_10 := blk_older jD_10
  have cjD_10_0 : _ = some _ := blk_cell jD_10 0
  have cjD_10_1 : _ = some _ := blk_cell jD_10 1
  have fjD_10_0 := blk_free jD_10 0
  have fjD_10_1 := blk_free jD_10 1
  have oj8_10 := blk_older j8_10
  have cj8_10_0 : _ = some _ := blk_cell j8_10 0
  have cj8_10_1 : _ = some _ := blk_cell j8_10 1
  have fj8_10_0 := blk_free j8_10 0
  have fj8_10_1 := blk_free j8_10 1
  have oj9_10 := blk_older j9_10
  have cj9_10_0 : _ = some _ := blk_cell j9_10 0
  have cj9_10_1 : _ = some _ := blk_cell j9_10 1
  have fj9_10_0 := blk_free j9_10 0
  have fj9_10_1 := blk_free j9_10 1
  have ojP_10 := blk_older jP_10
  have cjP_10_0 : _ = some _ := blk_cell jP_10 0
  have cjP_10_1 : _ = some _ := blk_cell jP_10 1
  have fjP_10_0 := blk_free jP_10 0
  have fjP_10_1 := blk_free jP_10 1
  have ojQ_10 := blk_older jQ_10
  have cjQ_10_0 : _ = some _ := blk_cell jQ_10 0
  have cjQ_10_1 : _ = some _ := blk_cell jQ_10 1
  have fjQ_10_0 := blk_free jQ_10 0
  have fjQ_10_1 := blk_free jQ_10 1
  have ojX_8 := blk_older jX_8
  have cjX_8_0 : _ = some _ := blk_cell jX_8 0
  have cjX_8_1 : _ = some _ := blk_cell jX_8 1
  have fjX_8_0 := blk_free jX_8 0
  have fjX_8_1 := blk_free jX_8 1
  have ojY_7 := blk_older jY_7
  have cjY_7_0 : _ = some _ := blk_cell jY_7 0
  have cjY_7_1 : _ = some _ := blk_cell jY_7 1
  have fjY_7_0 := blk_free jY_7 0
  have fjY_7_1 := blk_free jY_7 1
  have ojZ_6 := blk_older jZ_6
  have cjZ_6_0 : _ = some _ := blk_cell jZ_6 0
  have cjZ_6_1 : _ = some _ := blk_cell jZ_6 1
  have fjZ_6_0 := blk_free jZ_6 0
  have fjZ_6_1 := blk_free jZ_6 1
  go_wp2_with fail
  have m8 : blk ((Y0.setCell ⟨B8, 0, none⟩ (.int .i64 O4.px)).setCell ⟨B8, 1, none⟩ (.int .i64 O4.py)) B8 #[.int .i64 O4.px, .int .i64 O4.py] 24 := (by apply blk_of; (repeat (first | with_reducible exact j8_10 | with_reducible apply blk_drew | with_reducible apply blk_gw | with_reducible apply blk_alloc | with_reducible apply blk_set | ((with_reducible apply blk_other); focus omega))); (first | rfl | simp))
  have mQ : blk ((Y0.setCell ⟨B8, 0, none⟩ (.int .i64 O4.px)).setCell ⟨B8, 1, none⟩ (.int .i64 O4.py)) Q #[.int .i64 O4.qx, .int .i64 O4.qy] 24 := (by apply blk_of; (repeat (first | with_reducible exact jQ_10 | with_reducible apply blk_drew | with_reducible apply blk_gw | with_reducible apply blk_alloc | with_reducible apply blk_set | ((with_reducible apply blk_other); focus omega))); (first | rfl | simp))
  have m9 : blk ((Y0.setCell ⟨B8, 0, none⟩ (.int .i64 O4.px)).setCell ⟨B8, 1, none⟩ (.int .i64 O4.py)) B9 #[.int .i64 0, .int .i64 0] 24 := (by apply blk_of; (repeat (first | with_reducible exact j9_10 | with_reducible apply blk_drew | with_reducible apply blk_gw | with_reducible apply blk_alloc | with_reducible apply blk_set | ((with_reducible apply blk_other); focus omega))); (first | rfl | simp))
  have omQ := blk_older mQ
  have cmQ_0 : _ = some _ := blk_cell mQ 0
  have cmQ_1 : _ = some _ := blk_cell mQ 1
  have fmQ_0 := blk_free mQ 0
  have fmQ_1 := blk_free mQ 1
  have om9 := blk_older m9
  have cm9_0 : _ = some _ := blk_cell m9 0
  have cm9_1 : _ = some _ := blk_cell m9 1
  have fm9_0 := blk_free m9 0
  have fm9_1 := blk_free m9 1
  go_region
  go_wp2_with fail
  refine post_named ?_
  intro Z hZ
  have z8 : blk Z B8 #[.int .i64 O4.px, .int .i64 O4.py] 24 := by rw [hZ]; exact (by apply blk_of; (repeat (first | with_reducible exact m8 | with_reducible apply blk_drew | with_reducible apply blk_gw | with_reducible apply blk_alloc | with_reducible apply blk_set | ((with_reducible apply blk_other); focus omega))); (first | rfl | simp))
  have z9 : blk Z B9 #[.int .i64 O4.qx, .int .i64 O4.qy] 24 := by rw [hZ]; exact (by apply blk_of; (repeat (first | with_reducible exact m9 | with_reducible apply blk_drew | with_reducible apply blk_gw | with_reducible apply blk_alloc | with_reducible apply blk_set | ((with_reducible apply blk_other); focus omega))); (first | rfl | simp))
  have hbZ : Below w.heap.size w Z := by rw [hZ]; exact bBel
  clear hZ
  have oz8 := blk_older z8
  have cz8_0 : _ = some _ := blk_cell z8 0
  have cz8_1 : _ = some _ := blk_cell z8 1
  have fz8_0 := blk_free z8 0
  have fz8_1 := blk_free z8 1
  have oz9 := blk_older z9
  have cz9_0 : _ = some _ := blk_cell z9 0
  have cz9_1 : _ = some _ := blk_cell z9 1
  have fz9_0 := blk_free z9 0
  have fz9_1 := blk_free z9 1
  exact bodyPost_ret (v := .tuple #[.agg #[.int .i64 O4.px, .int .i64 O4.py], .agg #[.int .i64 O4.qx, .int .i64 O4.qy]]) (by simp [results, Tryz.results208, go_sem, cz8_0, cz8_1, cz9_0, cz9_1]) rfl ⟨rfl, hbZ⟩

end Go.Proofs.YtdmcdicphohlfaaGreat

set_option linter.unusedVariables false
namespace Go.Proofs.YtdmcdicphohlfaaGreat
open Go.RowKit Fx

theorem rcps_b (ax ay bx b_y cx cy dx dy : Int) (w : World) : Calls Tryz.prog 208 #[.agg #[.int .i64 ax, .int .i64 ay], .agg #[.int .i64 bx, .int .i64 b_y], .agg #[.int .i64 cx, .int .i64 cy], .agg #[.int .i64 dx, .int .i64 dy]] w fun e w' => e = .returned (.tuple #[.agg #[.int .i64 (cps ax ay bx b_y cx cy dx dy).px, .int .i64 (cps ax ay bx b_y cx cy dx dy).py], .agg #[.int .i64 (cps ax ay bx b_y cx cy dx dy).qx, .int .i64 (cps ax ay bx b_y cx cy dx dy).qy]]) ∧ Below w.heap.size w w' := by
  have e := cps_ss ax ay bx b_y cx cy dx dy
  have i := isct_ss ax ay bx b_y cx cy dx dy
  cases h : isct ax ay bx b_y cx cy dx dy
  · have := rcps0_b (sat ax) (sat ay) (sat bx) (sat b_y) (sat cx) (sat cy) (sat dx) (sat dy) ax ay bx b_y cx cy dx dy rfl rfl rfl rfl rfl rfl rfl rfl (i.trans h) w
    rw [e] at this; exact this
  · have := rcps1_b (sat ax) (sat ay) (sat bx) (sat b_y) (sat cx) (sat cy) (sat dx) (sat dy) ax ay bx b_y cx cy dx dy rfl rfl rfl rfl rfl rfl rfl rfl (i.trans h) w
    rw [e] at this; exact this

theorem sdist_cps {ax ay bx b_y cx cy dx dy : Int} (h : isct ax ay bx b_y cx cy dx dy = false) : sdist ax ay bx b_y cx cy dx dy = sat (isq (dist2 (cps ax ay bx b_y cx cy dx dy).px (cps ax ay bx b_y cx cy dx dy).py (cps ax ay bx b_y cx cy dx dy).qx (cps ax ay bx b_y cx cy dx dy).qy)) := by
  unfold sdist cps
  rw [h, if_neg (by simp), if_neg (by simp)]; rfl

set_option maxHeartbeats 1000000 in
theorem rsdist_b (ax ay bx b_y cx cy dx dy : Int) (w : World) : Calls Tryz.prog 152 #[.agg #[.int .i64 ax, .int .i64 ay], .agg #[.int .i64 bx, .int .i64 b_y], .agg #[.int .i64 cx, .int .i64 cy], .agg #[.int .i64 dx, .int .i64 dy]] w fun e w' => e = .returned (.int .i64 (sdist ax ay bx b_y cx cy dx dy)) ∧ Below w.heap.size w w' := by
  have cI := fun w' => risct_b ax ay bx b_y cx cy dx dy w'
  cases h : isct ax ay bx b_y cx cy dx dy
  focus
    rw [h] at cI
    rw [sdist_cps h]
    have cC := fun w' => rcps_b ax ay bx b_y cx cy dx dy w'
    generalize cps ax ay bx b_y cx cy dx dy = C at *
    have hd := dist2_in C.px C.py C.qx C.qy
    clear h
    go_enter Tryz.func152, Tryz.ntmps152
    go_wp2_with (first
      | (go_at_call 207; refine Calls.mono (gw_at (cI _)) ?_; rintro e w1 ⟨rfl, q, rfl⟩)
      | (go_at_call 208; refine Calls.mono (gw_at (cC _)) ?_; rintro e w1 ⟨rfl, q, rfl⟩)
      | (go_at_call 209; refine Calls.mono (gw_at (rdist2_b _ _ _ _ _)) ?_; rintro e w1 ⟨rfl, q, rfl⟩)
      | (go_at_call 185; refine Calls.mono (gw_at (risq_b _ _)) ?_; rintro e w1 ⟨rfl, q, rfl⟩)
      | (go_at_call 158; refine Calls.mono (gw_at (rsat_b _ _)) ?_; rintro e w1 ⟨rfl, q, rfl⟩))
    go_ret
    exact ⟨rfl, bBel⟩
  rw [h] at cI
  rw [sdist_isct h]
  clear h
  go_enter Tryz.func152, Tryz.ntmps152
  go_wp2_with (go_at_call 207; refine Calls.mono (gw_at (cI _)) ?_; rintro e w1 ⟨rfl, q, rfl⟩)
  go_ret
  exact ⟨rfl, bBel⟩

end Go.Proofs.YtdmcdicphohlfaaGreat
