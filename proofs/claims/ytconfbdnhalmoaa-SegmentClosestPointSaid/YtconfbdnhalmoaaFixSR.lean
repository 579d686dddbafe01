/- Contracts of the reference of chapter 10. -/
import Derived.Test.YtconfbdnhalmoaaFixX
import Derived.Test.YtconfbdnhalmoaaSg
set_option linter.unusedVariables false
namespace Go.Proofs.Ytconfbdnhalmoaa
open Go.RowKit Fx

theorem rsgsat_b (x y : Int) (w : World) : Calls Try.prog 27 #[.agg #[.int .i64 x, .int .i64 y]] w fun e w' => e = .returned (.agg #[.int .i64 (sat x), .int .i64 (sat y)]) ∧ Below w.heap.size w w' := by
  go_enter Try.func27, Try.ntmps27
  go_wp2_with (first | (go_at_call 34; refine Calls.mono (gw_at (rsat_b _ _)) ?_; rintro e w1 ⟨rfl, q, rfl⟩))
  repeat
    refine wp_region_gw_tail 7 (by kernel_rfl) (by kernel_rfl) ?_
    simp only [List.take_succ_cons, List.take_zero, List.drop_succ_cons, List.drop_zero]
    repeat (go_big_quiet_step ((first | (go_at_call 34; exact gw_call (rsat_b _ _)))))
    refine wpQuiet_nil ?_
    intro w1 hw1
    obtain ⟨q, rfl⟩ := hw1
    go_wp2_with (first | (go_at_call 34; refine Calls.mono (gw_at (rsat_b _ _)) ?_; rintro e w1 ⟨rfl, q, rfl⟩))
  exact bodyPost_ret (v := .agg #[.int .i64 (sat x), .int .i64 (sat y)]) (by simp [results, Try.results27, go_sem]; try (first | with_reducible rfl | exact ⟨rfl, rfl⟩ | exact ⟨rfl, rfl, rfl⟩ | exact ⟨rfl, rfl, rfl, rfl⟩ | exact ⟨rfl, rfl, rfl, rfl, rfl⟩ | exact ⟨rfl, rfl, rfl, rfl, rfl, rfl⟩ | rfl)) rfl ⟨rfl, (by repeat (first | with_reducible exact Below.refl _ _ | with_reducible assumption | refine bgw ?_ (by first | (simp; done) | (simp; omega) | omega) _ | refine Below.setCell ?_ (by first | exact Nat.le_of_not_lt (by assumption) | (simp; done) | (simp; omega) | omega) _ | refine Below.alloc ?_ (by first | (simp; done) | (simp; omega) | omega) _ | refine Below.drew ?_))⟩

set_option maxHeartbeats 1000000 in
theorem rcp_b (ax ay bx b_y px py : Int) (w : World) : Calls Try.prog 15 #[.agg #[.int .i64 ax, .int .i64 ay], .agg #[.int .i64 bx, .int .i64 b_y], .agg #[.int .i64 px, .int .i64 py]] w fun e w' => e = .returned (.tuple #[.agg #[.int .i64 (cpc (cpt ax ay bx b_y px py) ax bx), .int .i64 (cpc (cpt ax ay bx b_y px py) ay b_y)], .int .i64 (cpt ax ay bx b_y px py)]) ∧ Below w.heap.size w w' := by
  have a1 := sat_le ax; have a2 := sat_ge ax; have a3 := sat_le ay; have a4 := sat_ge ay
  have b1 := sat_le bx; have b2 := sat_ge bx; have b3 := sat_le b_y; have b4 := sat_ge b_y
  have c1 := sat_le px; have c2 := sat_ge px; have c3 := sat_le py; have c4 := sat_ge py
  have d1 := diffmul (a := px) (b := ax) (c := bx) (d := ax); have d2 := diffmul (a := py) (b := ay) (c := b_y) (d := ay)
  have e1 := dist2_ss ax ay bx b_y
  have e2 : ratio ((sat px - sat ax) * (sat bx - sat ax) + (sat py - sat ay) * (sat b_y - sat ay)) (dist2 ax ay bx b_y) = cpt ax ay bx b_y px py := rfl
  have e3 := fun t => lerp_ss ax bx t
  have e4 := fun t => lerp_ss ay b_y t
  generalize cpt ax ay bx b_y px py = t at *
  by_cases t0 : t = 0
  focus
    subst t0
    rw [cpc_zero, cpc_zero]
    go_enter Try.func15, Try.ntmps15
    go_wp2_with (first | (go_at_call 27; refine Calls.mono (gw_at (rsgsat_b _ _ _)) ?_; rintro e w1 ⟨rfl, q, rfl⟩) | (go_at_call 31; refine Calls.mono (gw_at (rdist2_b _ _ _ _ _)) ?_; rintro e w1 ⟨rfl, q, rfl⟩) | (go_at_call 30; refine Calls.mono (gw_at (rrt_b _ _ _)) ?_; rintro e w1 ⟨rfl, q, rfl⟩) | (go_at_call 29; refine Calls.mono (gw_at (rvlerp_b _ _ _ _ _ _)) ?_; rintro e w1 ⟨rfl, q, rfl⟩))
    repeat
      refine wp_region_gw_tail 6 (by kernel_rfl) (by kernel_rfl) ?_
      simp only [List.take_succ_cons, List.take_zero, List.drop_succ_cons, List.drop_zero]
      repeat (go_big_quiet_step ((first | (go_at_call 27; exact gw_call (rsgsat_b _ _ _)) | (go_at_call 31; exact gw_call (rdist2_b _ _ _ _ _)) | (go_at_call 30; exact gw_call (rrt_b _ _ _)) | (go_at_call 29; exact gw_call (rvlerp_b _ _ _ _ _ _)))))
      refine wpQuiet_nil ?_
      intro w1 hw1
      obtain ⟨q, rfl⟩ := hw1
      go_wp2_with (first | (go_at_call 27; refine Calls.mono (gw_at (rsgsat_b _ _ _)) ?_; rintro e w1 ⟨rfl, q, rfl⟩) | (go_at_call 31; refine Calls.mono (gw_at (rdist2_b _ _ _ _ _)) ?_; rintro e w1 ⟨rfl, q, rfl⟩) | (go_at_call 30; refine Calls.mono (gw_at (rrt_b _ _ _)) ?_; rintro e w1 ⟨rfl, q, rfl⟩) | (go_at_call 29; refine Calls.mono (gw_at (rvlerp_b _ _ _ _ _ _)) ?_; rintro e w1 ⟨rfl, q, rfl⟩))
    exact bodyPost_ret (v := .tuple #[.agg #[.int .i64 (sat ax), .int .i64 (sat ay)], .int .i64 0]) (by simp [results, Try.results15, go_sem]) rfl ⟨rfl, (by repeat (first | with_reducible exact Below.refl _ _ | with_reducible assumption | refine bgw ?_ (by first | (simp; done) | (simp; omega) | omega) _ | refine Below.setCell ?_ (by first | exact Nat.le_of_not_lt (by assumption) | (simp; done) | (simp; omega) | omega) _ | refine Below.alloc ?_ (by first | (simp; done) | (simp; omega) | omega) _ | refine Below.drew ?_))⟩
  by_cases t1 : t = 65536
  focus
    subst t1
    rw [cpc_one, cpc_one]
    go_enter Try.func15, Try.ntmps15
    go_wp2_with (first | (go_at_call 27; refine Calls.mono (gw_at (rsgsat_b _ _ _)) ?_; rintro e w1 ⟨rfl, q, rfl⟩) | (go_at_call 31; refine Calls.mono (gw_at (rdist2_b _ _ _ _ _)) ?_; rintro e w1 ⟨rfl, q, rfl⟩) | (go_at_call 30; refine Calls.mono (gw_at (rrt_b _ _ _)) ?_; rintro e w1 ⟨rfl, q, rfl⟩) | (go_at_call 29; refine Calls.mono (gw_at (rvlerp_b _ _ _ _ _ _)) ?_; rintro e w1 ⟨rfl, q, rfl⟩))
    repeat
      refine wp_region_gw_tail 6 (by kernel_rfl) (by kernel_rfl) ?_
      simp only [List.take_succ_cons, List.take_zero, List.drop_succ_cons, List.drop_zero]
      repeat (go_big_quiet_step ((first | (go_at_call 27; exact gw_call (rsgsat_b _ _ _)) | (go_at_call 31; exact gw_call (rdist2_b _ _ _ _ _)) | (go_at_call 30; exact gw_call (rrt_b _ _ _)) | (go_at_call 29; exact gw_call (rvlerp_b _ _ _ _ _ _)))))
      refine wpQuiet_nil ?_
      intro w1 hw1
      obtain ⟨q, rfl⟩ := hw1
      go_wp2_with (first | (go_at_call 27; refine Calls.mono (gw_at (rsgsat_b _ _ _)) ?_; rintro e w1 ⟨rfl, q, rfl⟩) | (go_at_call 31; refine Calls.mono (gw_at (rdist2_b _ _ _ _ _)) ?_; rintro e w1 ⟨rfl, q, rfl⟩) | (go_at_call 30; refine Calls.mono (gw_at (rrt_b _ _ _)) ?_; rintro e w1 ⟨rfl, q, rfl⟩) | (go_at_call 29; refine Calls.mono (gw_at (rvlerp_b _ _ _ _ _ _)) ?_; rintro e w1 ⟨rfl, q, rfl⟩))
    exact bodyPost_ret (v := .tuple #[.agg #[.int .i64 (sat bx), .int .i64 (sat b_y)], .int .i64 65536]) (by simp [results, Try.results15, go_sem]) rfl ⟨rfl, (by repeat (first | with_reducible exact Below.refl _ _ | with_reducible assumption | refine bgw ?_ (by first | (simp; done) | (simp; omega) | omega) _ | refine Below.setCell ?_ (by first | exact Nat.le_of_not_lt (by assumption) | (simp; done) | (simp; omega) | omega) _ | refine Below.alloc ?_ (by first | (simp; done) | (simp; omega) | omega) _ | refine Below.drew ?_))⟩
  rw [cpc_mid t0 t1, cpc_mid t0 t1]
  have t0b : (t == 0) = false := by rw [beq_eq_false_iff_ne]; exact t0
  have t1b : (t == 65536) = false := by rw [beq_eq_false_iff_ne]; exact t1
  clear t0 t1
  go_enter Try.func15, Try.ntmps15
  go_wp2_with (first | (go_at_call 27; refine Calls.mono (gw_at (rsgsat_b _ _ _)) ?_; rintro e w1 ⟨rfl, q, rfl⟩) | (go_at_call 31; refine Calls.mono (gw_at (rdist2_b _ _ _ _ _)) ?_; rintro e w1 ⟨rfl, q, rfl⟩) | (go_at_call 30; refine Calls.mono (gw_at (rrt_b _ _ _)) ?_; rintro e w1 ⟨rfl, q, rfl⟩) | (go_at_call 29; refine Calls.mono (gw_at (rvlerp_b _ _ _ _ _ _)) ?_; rintro e w1 ⟨rfl, q, rfl⟩))
  repeat
    refine wp_region_gw_tail 6 (by kernel_rfl) (by kernel_rfl) ?_
    simp only [List.take_succ_cons, List.take_zero, List.drop_succ_cons, List.drop_zero]
    repeat (go_big_quiet_step ((first | (go_at_call 27; exact gw_call (rsgsat_b _ _ _)) | (go_at_call 31; exact gw_call (rdist2_b _ _ _ _ _)) | (go_at_call 30; exact gw_call (rrt_b _ _ _)) | (go_at_call 29; exact gw_call (rvlerp_b _ _ _ _ _ _)))))
    refine wpQuiet_nil ?_
    intro w1 hw1
    obtain ⟨q, rfl⟩ := hw1
    go_wp2_with (first | (go_at_call 27; refine Calls.mono (gw_at (rsgsat_b _ _ _)) ?_; rintro e w1 ⟨rfl, q, rfl⟩) | (go_at_call 31; refine Calls.mono (gw_at (rdist2_b _ _ _ _ _)) ?_; rintro e w1 ⟨rfl, q, rfl⟩) | (go_at_call 30; refine Calls.mono (gw_at (rrt_b _ _ _)) ?_; rintro e w1 ⟨rfl, q, rfl⟩) | (go_at_call 29; refine Calls.mono (gw_at (rvlerp_b _ _ _ _ _ _)) ?_; rintro e w1 ⟨rfl, q, rfl⟩))
  exact bodyPost_ret (v := .tuple #[.agg #[.int .i64 (lerp ax bx t), .int .i64 (lerp ay b_y t)], .int .i64 t]) (by simp [results, Try.results15, go_sem]) rfl ⟨rfl, (by repeat (first | with_reducible exact Below.refl _ _ | with_reducible assumption | refine bgw ?_ (by first | (simp; done) | (simp; omega) | omega) _ | refine Below.setCell ?_ (by first | exact Nat.le_of_not_lt (by assumption) | (simp; done) | (simp; omega) | omega) _ | refine Below.alloc ?_ (by first | (simp; done) | (simp; omega) | omega) _ | refine Below.drew ?_))⟩

theorem rabsc_b (cx cy dx dy px py : Int) (h1 : -536870911 ≤ cx ∧ cx ≤ 536870911) (h2 : -536870911 ≤ cy ∧ cy ≤ 536870911) (h3 : -536870911 ≤ dx ∧ dx ≤ 536870911) (h4 : -536870911 ≤ dy ∧ dy ≤ 536870911) (h5 : -536870911 ≤ px ∧ px ≤ 536870911) (h6 : -536870911 ≤ py ∧ py ≤ 536870911) (w : World) : Calls Try.prog 28 #[.agg #[.int .i64 cx, .int .i64 cy], .agg #[.int .i64 dx, .int .i64 dy], .agg #[.int .i64 px, .int .i64 py]] w fun e w' => e = .returned (.int .i64 (absc cx cy dx dy px py)) ∧ Below w.heap.size w w' := by
  have d1 := diffmul (a := dx) (b := cx) (c := py) (d := cy); have d2 := diffmul (a := dy) (b := cy) (c := px) (d := cx)
  have e1 := sat_id h1.1 h1.2; have e2 := sat_id h2.1 h2.2; have e3 := sat_id h3.1 h3.2; have e4 := sat_id h4.1 h4.2; have e5 := sat_id h5.1 h5.2; have e6 := sat_id h6.1 h6.2
  have hd : det cx cy dx dy px py = (dx - cx) * (py - cy) - (dy - cy) * (px - cx) := by unfold det; rw [e1, e2, e3, e4, e5, e6]
  simp only [e1, e2, e3, e4, e5, e6] at d1 d2
  obtain ⟨g1, g1'⟩ := h1; obtain ⟨g2, g2'⟩ := h2; obtain ⟨g3, g3'⟩ := h3; obtain ⟨g4, g4'⟩ := h4; obtain ⟨g5, g5'⟩ := h5; obtain ⟨g6, g6'⟩ := h6
  unfold absc
  rw [hd]
  clear hd e1 e2 e3 e4 e5 e6
  by_cases hn : (dx - cx) * (py - cy) - (dy - cy) * (px - cx) < 0
  focus
    rw [if_pos hn]
    go_enter Try.func28, Try.ntmps28
    go_wp2_with fail
    go_ret
    exact ⟨rfl, (by repeat (first | with_reducible exact Below.refl _ _ | with_reducible assumption | refine bgw ?_ (by first | (simp; done) | (simp; omega) | omega) _ | refine Below.setCell ?_ (by first | exact Nat.le_of_not_lt (by assumption) | (simp; done) | (simp; omega) | omega) _ | refine Below.alloc ?_ (by first | (simp; done) | (simp; omega) | omega) _ | refine Below.drew ?_))⟩
  rw [if_neg hn]
  go_enter Try.func28, Try.ntmps28
  go_wp2_with fail
  go_ret
  exact ⟨rfl, (by repeat (first | with_reducible exact Below.refl _ _ | with_reducible assumption | refine bgw ?_ (by first | (simp; done) | (simp; omega) | omega) _ | refine Below.setCell ?_ (by first | exact Nat.le_of_not_lt (by assumption) | (simp; done) | (simp; omega) | omega) _ | refine Below.alloc ?_ (by first | (simp; done) | (simp; omega) | omega) _ | refine Below.drew ?_))⟩

theorem or_mul (ax ay bx b_y cx cy dx dy ex ey fx fy : Int) : -1 ≤ orient ax ay bx b_y cx cy * orient dx dy ex ey fx fy ∧ orient ax ay bx b_y cx cy * orient dx dy ex ey fx fy ≤ 1 := by
  have h1 := or_ge ax ay bx b_y cx cy; have h2 := or_le ax ay bx b_y cx cy; have h3 := or_ge dx dy ex ey fx fy; have h4 := or_le dx dy ex ey fx fy
  have := mul_between (a := orient ax ay bx b_y cx cy) (b := orient dx dy ex ey fx fy) (A := 1) (B := 1) (by omega) (by omega) (by omega) (by omega)
  omega

set_option maxHeartbeats 2000000 in
theorem risct_b (ax ay bx b_y cx cy dx dy : Int) (w : World) : Calls Try.prog 17 #[.agg #[.int .i64 ax, .int .i64 ay], .agg #[.int .i64 bx, .int .i64 b_y], .agg #[.int .i64 cx, .int .i64 cy], .agg #[.int .i64 dx, .int .i64 dy]] w fun e w' => e = .returned (.bool (isct ax ay bx b_y cx cy dx dy)) ∧ Below w.heap.size w w' := by
  obtain ⟨p1, p2⟩ := or_mul ax ay bx b_y cx cy ax ay bx b_y dx dy
  obtain ⟨p3, p4⟩ := or_mul cx cy dx dy ax ay cx cy dx dy bx b_y
  have hV : ovl8 (min (sat ax) (sat bx)) (min (sat ay) (sat b_y)) (max (sat ax) (sat bx)) (max (sat ay) (sat b_y)) (min (sat cx) (sat dx)) (min (sat cy) (sat dy)) (max (sat cx) (sat dx)) (max (sat cy) (sat dy)) = (Bx.two ax ay bx b_y).ovl (Bx.two cx cy dx dy) := rfl
  unfold isct
  generalize (Bx.two ax ay bx b_y).ovl (Bx.two cx cy dx dy) = V at *
  by_cases h1 : orient ax ay bx b_y cx cy * orient ax ay bx b_y dx dy ≤ 0
  rotate_left
  focus
    rw [decide_eq_false h1, Bool.false_and, Bool.false_and]
    have h1b := decide_eq_false h1
    clear h1
    go_enter Try.func17, Try.ntmps17
    go_wp2_with (first | (go_at_call 40; (with_reducible show Calls _ _ (#[Value.slice _ 2 _]) _ _); refine Calls.mono (gw_at (rfp2_b _ _ _ _ _ _ _ _ (by first | ((with_reducible refine blk_at ?_); simp; done) | ((with_reducible refine blk_gw (blk_at ?_)); simp; done) | ((with_reducible refine blk_alloc (blk_at ?_)); simp; done) | ((with_reducible refine blk_gw (blk_alloc (blk_at ?_))); simp; done) | with_reducible assumption))) ?_; rintro e w1 ⟨rfl, q, rfl⟩) | (go_at_call 40; (with_reducible show Calls _ _ (#[Value.slice _ 4 _]) _ _); refine Calls.mono (gw_at (rfp4_b _ _ _ _ _ _ _ _ _ _ _ _ (by first | ((with_reducible refine blk_at ?_); simp; done) | ((with_reducible refine blk_gw (blk_at ?_)); simp; done) | ((with_reducible refine blk_alloc (blk_at ?_)); simp; done) | ((with_reducible refine blk_gw (blk_alloc (blk_at ?_))); simp; done) | with_reducible assumption))) ?_; rintro e w1 ⟨rfl, q, rfl⟩) | (go_at_call 40; (with_reducible show Calls _ _ (#[Value.slice _ (List.length _) _]) _ _); refine Calls.mono (gw_at (rfp_b _ _ _ _ (Pts.to (by with_reducible assumption) (by repeat (first | with_reducible exact Below.refl _ _ | with_reducible assumption | refine bgw ?_ (by first | (simp; done) | (simp; omega) | omega) _ | refine Below.setCell ?_ (by first | exact Nat.le_of_not_lt (by assumption) | (simp; done) | (simp; omega) | omega) _ | refine Below.alloc ?_ (by first | (simp; done) | (simp; omega) | omega) _ | refine Below.drew ?_))) (by with_reducible assumption))) ?_; rintro e w1 ⟨rfl, q, rfl⟩) | (go_at_call 41; refine Calls.mono (gw_at (rorient_b _ _ _ _ _ _ _)) ?_; rintro e w1 ⟨rfl, q, rfl⟩) | (go_at_call 42; (first | (refine Calls.mono (gw_at (boolIs (rxovl_b _ _ _ _ _ _ _ _ _) (b := true) (by assumption))) ?_; rintro e w1 ⟨rfl, q, rfl⟩) | (refine Calls.mono (gw_at (boolIs (rxovl_b _ _ _ _ _ _ _ _ _) (b := false) (by assumption))) ?_; rintro e w1 ⟨rfl, q, rfl⟩) | (refine Calls.mono (gw_at (rxovl_b _ _ _ _ _ _ _ _ _)) ?_; rintro e w1 ⟨rfl, q, rfl⟩))))
    repeat
      refine wp_region_gw (by kernel_rfl) (by kernel_rfl) ?_
      repeat (go_big_quiet_step ((first | (go_at_call 40; (with_reducible show Calls _ _ (#[Value.slice _ 2 _]) _ _); exact gw_call (rfp2_b _ _ _ _ _ _ _ _ (by first | ((with_reducible refine blk_at ?_); simp; done) | ((with_reducible refine blk_gw (blk_at ?_)); simp; done) | ((with_reducible refine blk_alloc (blk_at ?_)); simp; done) | ((with_reducible refine blk_gw (blk_alloc (blk_at ?_))); simp; done) | with_reducible assumption))) | (go_at_call 40; (with_reducible show Calls _ _ (#[Value.slice _ 4 _]) _ _); exact gw_call (rfp4_b _ _ _ _ _ _ _ _ _ _ _ _ (by first | ((with_reducible refine blk_at ?_); simp; done) | ((with_reducible refine blk_gw (blk_at ?_)); simp; done) | ((with_reducible refine blk_alloc (blk_at ?_)); simp; done) | ((with_reducible refine blk_gw (blk_alloc (blk_at ?_))); simp; done) | with_reducible assumption))) | (go_at_call 40; (with_reducible show Calls _ _ (#[Value.slice _ (List.length _) _]) _ _); exact gw_call (rfp_b _ _ _ _ (Pts.to (by with_reducible assumption) (by repeat (first | with_reducible exact Below.refl _ _ | with_reducible assumption | refine bgw ?_ (by first | (simp; done) | (simp; omega) | omega) _ | refine Below.setCell ?_ (by first | exact Nat.le_of_not_lt (by assumption) | (simp; done) | (simp; omega) | omega) _ | refine Below.alloc ?_ (by first | (simp; done) | (simp; omega) | omega) _ | refine Below.drew ?_))) (by with_reducible assumption))) | (go_at_call 41; exact gw_call (rorient_b _ _ _ _ _ _ _)) | (go_at_call 42; (first | (exact gw_call (boolIs (rxovl_b _ _ _ _ _ _ _ _ _) (b := true) (by assumption))) | (exact gw_call (boolIs (rxovl_b _ _ _ _ _ _ _ _ _) (b := false) (by assumption))) | (exact gw_call (rxovl_b _ _ _ _ _ _ _ _ _)))))))
      refine wpQuiet_nil ?_
      intro w1 hw1
      obtain ⟨q, rfl⟩ := hw1
      go_wp2_with (first | (go_at_call 40; (with_reducible show Calls _ _ (#[Value.slice _ 2 _]) _ _); refine Calls.mono (gw_at (rfp2_b _ _ _ _ _ _ _ _ (by first | ((with_reducible refine blk_at ?_); simp; done) | ((with_reducible refine blk_gw (blk_at ?_)); simp; done) | ((with_reducible refine blk_alloc (blk_at ?_)); simp; done) | ((with_reducible refine blk_gw (blk_alloc (blk_at ?_))); simp; done) | with_reducible assumption))) ?_; rintro e w1 ⟨rfl, q, rfl⟩) | (go_at_call 40; (with_reducible show Calls _ _ (#[Value.slice _ 4 _]) _ _); refine Calls.mono (gw_at (rfp4_b _ _ _ _ _ _ _ _ _ _ _ _ (by first | ((with_reducible refine blk_at ?_); simp; done) | ((with_reducible refine blk_gw (blk_at ?_)); simp; done) | ((with_reducible refine blk_alloc (blk_at ?_)); simp; done) | ((with_reducible refine blk_gw (blk_alloc (blk_at ?_))); simp; done) | with_reducible assumption))) ?_; rintro e w1 ⟨rfl, q, rfl⟩) | (go_at_call 40; (with_reducible show Calls _ _ (#[Value.slice _ (List.length _) _]) _ _); refine Calls.mono (gw_at (rfp_b _ _ _ _ (Pts.to (by with_reducible assumption) (by repeat (first | with_reducible exact Below.refl _ _ | with_reducible assumption | refine bgw ?_ (by first | (simp; done) | (simp; omega) | omega) _ | refine Below.setCell ?_ (by first | exact Nat.le_of_not_lt (by assumption) | (simp; done) | (simp; omega) | omega) _ | refine Below.alloc ?_ (by first | (simp; done) | (simp; omega) | omega) _ | refine Below.drew ?_))) (by with_reducible assumption))) ?_; rintro e w1 ⟨rfl, q, rfl⟩) | (go_at_call 41; refine Calls.mono (gw_at (rorient_b _ _ _ _ _ _ _)) ?_; rintro e w1 ⟨rfl, q, rfl⟩) | (go_at_call 42; (first | (refine Calls.mono (gw_at (boolIs (rxovl_b _ _ _ _ _ _ _ _ _) (b := true) (by assumption))) ?_; rintro e w1 ⟨rfl, q, rfl⟩) | (refine Calls.mono (gw_at (boolIs (rxovl_b _ _ _ _ _ _ _ _ _) (b := false) (by assumption))) ?_; rintro e w1 ⟨rfl, q, rfl⟩) | (refine Calls.mono (gw_at (rxovl_b _ _ _ _ _ _ _ _ _)) ?_; rintro e w1 ⟨rfl, q, rfl⟩))))
    go_ret
    exact ⟨rfl, (by repeat (first | with_reducible exact Below.refl _ _ | with_reducible assumption | refine bgw ?_ (by first | (simp; done) | (simp; omega) | omega) _ | refine Below.setCell ?_ (by first | exact Nat.le_of_not_lt (by assumption) | (simp; done) | (simp; omega) | omega) _ | refine Below.alloc ?_ (by first | (simp; done) | (simp; omega) | omega) _ | refine Below.drew ?_))⟩
  by_cases h2 : orient cx cy dx dy ax ay * orient cx cy dx dy bx b_y ≤ 0
  rotate_left
  focus
    rw [decide_eq_false h2, Bool.and_false, Bool.false_and]
    have h1b := decide_eq_true h1
    have h2b := decide_eq_false h2
    clear h1 h2
    go_enter Try.func17, Try.ntmps17
    go_wp2_with (first | (go_at_call 40; (with_reducible show Calls _ _ (#[Value.slice _ 2 _]) _ _); refine Calls.mono (gw_at (rfp2_b _ _ _ _ _ _ _ _ (by first | ((with_reducible refine blk_at ?_); simp; done) | ((with_reducible refine blk_gw (blk_at ?_)); simp; done) | ((with_reducible refine blk_alloc (blk_at ?_)); simp; done) | ((with_reducible refine blk_gw (blk_alloc (blk_at ?_))); simp; done) | with_reducible assumption))) ?_; rintro e w1 ⟨rfl, q, rfl⟩) | (go_at_call 40; (with_reducible show Calls _ _ (#[Value.slice _ 4 _]) _ _); refine Calls.mono (gw_at (rfp4_b _ _ _ _ _ _ _ _ _ _ _ _ (by first | ((with_reducible refine blk_at ?_); simp; done) | ((with_reducible refine blk_gw (blk_at ?_)); simp; done) | ((with_reducible refine blk_alloc (blk_at ?_)); simp; done) | ((with_reducible refine blk_gw (blk_alloc (blk_at ?_))); simp; done) | with_reducible assumption))) ?_; rintro e w1 ⟨rfl, q, rfl⟩) | (go_at_call 40; (with_reducible show Calls _ _ (#[Value.slice _ (List.length _) _]) _ _); refine Calls.mono (gw_at (rfp_b _ _ _ _ (Pts.to (by with_reducible assumption) (by repeat (first | with_reducible exact Below.refl _ _ | with_reducible assumption | refine bgw ?_ (by first | (simp; done) | (simp; omega) | omega) _ | refine Below.setCell ?_ (by first | exact Nat.le_of_not_lt (by assumption) | (simp; done) | (simp; omega) | omega) _ | refine Below.alloc ?_ (by first | (simp; done) | (simp; omega) | omega) _ | refine Below.drew ?_))) (by with_reducible assumption))) ?_; rintro e w1 ⟨rfl, q, rfl⟩) | (go_at_call 41; refine Calls.mono (gw_at (rorient_b _ _ _ _ _ _ _)) ?_; rintro e w1 ⟨rfl, q, rfl⟩) | (go_at_call 42; (first | (refine Calls.mono (gw_at (boolIs (rxovl_b _ _ _ _ _ _ _ _ _) (b := true) (by assumption))) ?_; rintro e w1 ⟨rfl, q, rfl⟩) | (refine Calls.mono (gw_at (boolIs (rxovl_b _ _ _ _ _ _ _ _ _) (b := false) (by assumption))) ?_; rintro e w1 ⟨rfl, q, rfl⟩) | (refine Calls.mono (gw_at (rxovl_b _ _ _ _ _ _ _ _ _)) ?_; rintro e w1 ⟨rfl, q, rfl⟩))))
    repeat
      refine wp_region_gw (by kernel_rfl) (by kernel_rfl) ?_
      repeat (go_big_quiet_step ((first | (go_at_call 40; (with_reducible show Calls _ _ (#[Value.slice _ 2 _]) _ _); exact gw_call (rfp2_b _ _ _ _ _ _ _ _ (by first | ((with_reducible refine blk_at ?_); simp; done) | ((with_reducible refine blk_gw (blk_at ?_)); simp; done) | ((with_reducible refine blk_alloc (blk_at ?_)); simp; done) | ((with_reducible refine blk_gw (blk_alloc (blk_at ?_))); simp; done) | with_reducible assumption))) | (go_at_call 40; (with_reducible show Calls _ _ (#[Value.slice _ 4 _]) _ _); exact gw_call (rfp4_b _ _ _ _ _ _ _ _ _ _ _ _ (by first | ((with_reducible refine blk_at ?_); simp; done) | ((with_reducible refine blk_gw (blk_at ?_)); simp; done) | ((with_reducible refine blk_alloc (blk_at ?_)); simp; done) | ((with_reducible refine blk_gw (blk_alloc (blk_at ?_))); simp; done) | with_reducible assumption))) | (go_at_call 40; (with_reducible show Calls _ _ (#[Value.slice _ (List.length _) _]) _ _); exact gw_call (rfp_b _ _ _ _ (Pts.to (by with_reducible assumption) (by repeat (first | with_reducible exact Below.refl _ _ | with_reducible assumption | refine bgw ?_ (by first | (simp; done) | (simp; omega) | omega) _ | refine Below.setCell ?_ (by first | exact Nat.le_of_not_lt (by assumption) | (simp; done) | (simp; omega) | omega) _ | refine Below.alloc ?_ (by first | (simp; done) | (simp; omega) | omega) _ | refine Below.drew ?_))) (by with_reducible assumption))) | (go_at_call 41; exact gw_call (rorient_b _ _ _ _ _ _ _)) | (go_at_call 42; (first | (exact gw_call (boolIs (rxovl_b _ _ _ _ _ _ _ _ _) (b := true) (by assumption))) | (exact gw_call (boolIs (rxovl_b _ _ _ _ _ _ _ _ _) (b := false) (by assumption))) | (exact gw_call (rxovl_b _ _ _ _ _ _ _ _ _)))))))
      refine wpQuiet_nil ?_
      intro w1 hw1
      obtain ⟨q, rfl⟩ := hw1
      go_wp2_with (first | (go_at_call 40; (with_reducible show Calls _ _ (#[Value.slice _ 2 _]) _ _); refine Calls.mono (gw_at (rfp2_b _ _ _ _ _ _ _ _ (by first | ((with_reducible refine blk_at ?_); simp; done) | ((with_reducible refine blk_gw (blk_at ?_)); simp; done) | ((with_reducible refine blk_alloc (blk_at ?_)); simp; done) | ((with_reducible refine blk_gw (blk_alloc (blk_at ?_))); simp; done) | with_reducible assumption))) ?_; rintro e w1 ⟨rfl, q, rfl⟩) | (go_at_call 40; (with_reducible show Calls _ _ (#[Value.slice _ 4 _]) _ _); refine Calls.mono (gw_at (rfp4_b _ _ _ _ _ _ _ _ _ _ _ _ (by first | ((with_reducible refine blk_at ?_); simp; done) | ((with_reducible refine blk_gw (blk_at ?_)); simp; done) | ((with_reducible refine blk_alloc (blk_at ?_)); simp; done) | ((with_reducible refine blk_gw (blk_alloc (blk_at ?_))); simp; done) | with_reducible assumption))) ?_; rintro e w1 ⟨rfl, q, rfl⟩) | (go_at_call 40; (with_reducible show Calls _ _ (#[Value.slice _ (List.length _) _]) _ _); refine Calls.mono (gw_at (rfp_b _ _ _ _ (Pts.to (by with_reducible assumption) (by repeat (first | with_reducible exact Below.refl _ _ | with_reducible assumption | refine bgw ?_ (by first | (simp; done) | (simp; omega) | omega) _ | refine Below.setCell ?_ (by first | exact Nat.le_of_not_lt (by assumption) | (simp; done) | (simp; omega) | omega) _ | refine Below.alloc ?_ (by first | (simp; done) | (simp; omega) | omega) _ | refine Below.drew ?_))) (by with_reducible assumption))) ?_; rintro e w1 ⟨rfl, q, rfl⟩) | (go_at_call 41; refine Calls.mono (gw_at (rorient_b _ _ _ _ _ _ _)) ?_; rintro e w1 ⟨rfl, q, rfl⟩) | (go_at_call 42; (first | (refine Calls.mono (gw_at (boolIs (rxovl_b _ _ _ _ _ _ _ _ _) (b := true) (by assumption))) ?_; rintro e w1 ⟨rfl, q, rfl⟩) | (refine Calls.mono (gw_at (boolIs (rxovl_b _ _ _ _ _ _ _ _ _) (b := false) (by assumption))) ?_; rintro e w1 ⟨rfl, q, rfl⟩) | (refine Calls.mono (gw_at (rxovl_b _ _ _ _ _ _ _ _ _)) ?_; rintro e w1 ⟨rfl, q, rfl⟩))))
    go_ret
    exact ⟨rfl, (by repeat (first | with_reducible exact Below.refl _ _ | with_reducible assumption | refine bgw ?_ (by first | (simp; done) | (simp; omega) | omega) _ | refine Below.setCell ?_ (by first | exact Nat.le_of_not_lt (by assumption) | (simp; done) | (simp; omega) | omega) _ | refine Below.alloc ?_ (by first | (simp; done) | (simp; omega) | omega) _ | refine Below.drew ?_))⟩
  rw [decide_eq_true h1, decide_eq_true h2, Bool.true_and, Bool.true_and]
  have h1b := decide_eq_true h1
  have h2b := decide_eq_true h2
  clear h1 h2
  cases V
  all_goals
    go_enter Try.func17, Try.ntmps17
    go_wp2_with (first | (go_at_call 40; (with_reducible show Calls _ _ (#[Value.slice _ 2 _]) _ _); refine Calls.mono (gw_at (rfp2_b _ _ _ _ _ _ _ _ (by first | ((with_reducible refine blk_at ?_); simp; done) | ((with_reducible refine blk_gw (blk_at ?_)); simp; done) | ((with_reducible refine blk_alloc (blk_at ?_)); simp; done) | ((with_reducible refine blk_gw (blk_alloc (blk_at ?_))); simp; done) | with_reducible assumption))) ?_; rintro e w1 ⟨rfl, q, rfl⟩) | (go_at_call 40; (with_reducible show Calls _ _ (#[Value.slice _ 4 _]) _ _); refine Calls.mono (gw_at (rfp4_b _ _ _ _ _ _ _ _ _ _ _ _ (by first | ((with_reducible refine blk_at ?_); simp; done) | ((with_reducible refine blk_gw (blk_at ?_)); simp; done) | ((with_reducible refine blk_alloc (blk_at ?_)); simp; done) | ((with_reducible refine blk_gw (blk_alloc (blk_at ?_))); simp; done) | with_reducible assumption))) ?_; rintro e w1 ⟨rfl, q, rfl⟩) | (go_at_call 40; (with_reducible show Calls _ _ (#[Value.slice _ (List.length _) _]) _ _); refine Calls.mono (gw_at (rfp_b _ _ _ _ (Pts.to (by with_reducible assumption) (by repeat (first | with_reducible exact Below.refl _ _ | with_reducible assumption | refine bgw ?_ (by first | (simp; done) | (simp; omega) | omega) _ | refine Below.setCell ?_ (by first | exact Nat.le_of_not_lt (by assumption) | (simp; done) | (simp; omega) | omega) _ | refine Below.alloc ?_ (by first | (simp; done) | (simp; omega) | omega) _ | refine Below.drew ?_))) (by with_reducible assumption))) ?_; rintro e w1 ⟨rfl, q, rfl⟩) | (go_at_call 41; refine Calls.mono (gw_at (rorient_b _ _ _ _ _ _ _)) ?_; rintro e w1 ⟨rfl, q, rfl⟩) | (go_at_call 42; (first | (refine Calls.mono (gw_at (boolIs (rxovl_b _ _ _ _ _ _ _ _ _) (b := true) (by assumption))) ?_; rintro e w1 ⟨rfl, q, rfl⟩) | (refine Calls.mono (gw_at (boolIs (rxovl_b _ _ _ _ _ _ _ _ _) (b := false) (by assumption))) ?_; rintro e w1 ⟨rfl, q, rfl⟩) | (refine Calls.mono (gw_at (rxovl_b _ _ _ _ _ _ _ _ _)) ?_; rintro e w1 ⟨rfl, q, rfl⟩))))
    repeat
      refine wp_region_gw (by kernel_rfl) (by kernel_rfl) ?_
      repeat (go_big_quiet_step ((first | (go_at_call 40; (with_reducible show Calls _ _ (#[Value.slice _ 2 _]) _ _); exact gw_call (rfp2_b _ _ _ _ _ _ _ _ (by first | ((with_reducible refine blk_at ?_); simp; done) | ((with_reducible refine blk_gw (blk_at ?_)); simp; done) | ((with_reducible refine blk_alloc (blk_at ?_)); simp; done) | ((with_reducible refine blk_gw (blk_alloc (blk_at ?_))); simp; done) | with_reducible assumption))) | (go_at_call 40; (with_reducible show Calls _ _ (#[Value.slice _ 4 _]) _ _); exact gw_call (rfp4_b _ _ _ _ _ _ _ _ _ _ _ _ (by first | ((with_reducible refine blk_at ?_); simp; done) | ((with_reducible refine blk_gw (blk_at ?_)); simp; done) | ((with_reducible refine blk_alloc (blk_at ?_)); simp; done) | ((with_reducible refine blk_gw (blk_alloc (blk_at ?_))); simp; done) | with_reducible assumption))) | (go_at_call 40; (with_reducible show Calls _ _ (#[Value.slice _ (List.length _) _]) _ _); exact gw_call (rfp_b _ _ _ _ (Pts.to (by with_reducible assumption) (by repeat (first | with_reducible exact Below.refl _ _ | with_reducible assumption | refine bgw ?_ (by first | (simp; done) | (simp; omega) | omega) _ | refine Below.setCell ?_ (by first | exact Nat.le_of_not_lt (by assumption) | (simp; done) | (simp; omega) | omega) _ | refine Below.alloc ?_ (by first | (simp; done) | (simp; omega) | omega) _ | refine Below.drew ?_))) (by with_reducible assumption))) | (go_at_call 41; exact gw_call (rorient_b _ _ _ _ _ _ _)) | (go_at_call 42; (first | (exact gw_call (boolIs (rxovl_b _ _ _ _ _ _ _ _ _) (b := true) (by assumption))) | (exact gw_call (boolIs (rxovl_b _ _ _ _ _ _ _ _ _) (b := false) (by assumption))) | (exact gw_call (rxovl_b _ _ _ _ _ _ _ _ _)))))))
      refine wpQuiet_nil ?_
      intro w1 hw1
      obtain ⟨q, rfl⟩ := hw1
      go_wp2_with (first | (go_at_call 40; (with_reducible show Calls _ _ (#[Value.slice _ 2 _]) _ _); refine Calls.mono (gw_at (rfp2_b _ _ _ _ _ _ _ _ (by first | ((with_reducible refine blk_at ?_); simp; done) | ((with_reducible refine blk_gw (blk_at ?_)); simp; done) | ((with_reducible refine blk_alloc (blk_at ?_)); simp; done) | ((with_reducible refine blk_gw (blk_alloc (blk_at ?_))); simp; done) | with_reducible assumption))) ?_; rintro e w1 ⟨rfl, q, rfl⟩) | (go_at_call 40; (with_reducible show Calls _ _ (#[Value.slice _ 4 _]) _ _); refine Calls.mono (gw_at (rfp4_b _ _ _ _ _ _ _ _ _ _ _ _ (by first | ((with_reducible refine blk_at ?_); simp; done) | ((with_reducible refine blk_gw (blk_at ?_)); simp; done) | ((with_reducible refine blk_alloc (blk_at ?_)); simp; done) | ((with_reducible refine blk_gw (blk_alloc (blk_at ?_))); simp; done) | with_reducible assumption))) ?_; rintro e w1 ⟨rfl, q, rfl⟩) | (go_at_call 40; (with_reducible show Calls _ _ (#[Value.slice _ (List.length _) _]) _ _); refine Calls.mono (gw_at (rfp_b _ _ _ _ (Pts.to (by with_reducible assumption) (by repeat (first | with_reducible exact Below.refl _ _ | with_reducible assumption | refine bgw ?_ (by first | (simp; done) | (simp; omega) | omega) _ | refine Below.setCell ?_ (by first | exact Nat.le_of_not_lt (by assumption) | (simp; done) | (simp; omega) | omega) _ | refine Below.alloc ?_ (by first | (simp; done) | (simp; omega) | omega) _ | refine Below.drew ?_))) (by with_reducible assumption))) ?_; rintro e w1 ⟨rfl, q, rfl⟩) | (go_at_call 41; refine Calls.mono (gw_at (rorient_b _ _ _ _ _ _ _)) ?_; rintro e w1 ⟨rfl, q, rfl⟩) | (go_at_call 42; (first | (refine Calls.mono (gw_at (boolIs (rxovl_b _ _ _ _ _ _ _ _ _) (b := true) (by assumption))) ?_; rintro e w1 ⟨rfl, q, rfl⟩) | (refine Calls.mono (gw_at (boolIs (rxovl_b _ _ _ _ _ _ _ _ _) (b := false) (by assumption))) ?_; rintro e w1 ⟨rfl, q, rfl⟩) | (refine Calls.mono (gw_at (rxovl_b _ _ _ _ _ _ _ _ _)) ?_; rintro e w1 ⟨rfl, q, rfl⟩))))
    go_ret
    exact ⟨rfl, (by repeat (first | with_reducible exact Below.refl _ _ | with_reducible assumption | refine bgw ?_ (by first | (simp; done) | (simp; omega) | omega) _ | refine Below.setCell ?_ (by first | exact Nat.le_of_not_lt (by assumption) | (simp; done) | (simp; omega) | omega) _ | refine Below.alloc ?_ (by first | (simp; done) | (simp; omega) | omega) _ | refine Below.drew ?_))⟩

end Go.Proofs.Ytconfbdnhalmoaa
