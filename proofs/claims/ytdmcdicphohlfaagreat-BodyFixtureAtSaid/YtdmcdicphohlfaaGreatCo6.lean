/- Contracts of package segment: each function returns what the Lean functions of the same meaning give (the same as for the reference), and nothing that existed has changed. No conditions.
Contracts of package segment, continued: the candidates.
Contracts of package segment, continued: ClosestPoints, Distance. -/
import Derived.Test.YtdmcdicphohlfaaGreatCo5
import Derived.Test.YtdmcdicphohlfaaGreatCo4
import Derived.RegionTactic
import Derived.BigRegion
import Derived.Deep.DeepCutAuto

set_option linter.unusedVariables false
namespace Go.Proofs.YtdmcdicphohlfaaGreat
open Go.RowKit Fx

theorem xsgsat_b (x y : Int) (w : World) : Calls Tryz.prog 215 #[.agg #[.int .i64 x, .int .i64 y]] w fun e w' => e = .returned (.agg #[.int .i64 (sat x), .int .i64 (sat y)]) ∧ Below w.heap.size w w' := by
  go_enter Tryz.func215, Tryz.ntmps215
  go_wp2_with (first | (go_at_call 164; refine Calls.mono (gw_at (sat_b _ _)) ?_; rintro e w1 ⟨rfl, q, rfl⟩))
  repeat
    refine wp_region_gw_tail 7 (by kernel_rfl) (by kernel_rfl) ?_
    simp only [List.take_succ_cons, List.take_zero, List.drop_succ_cons, List.drop_zero]
    repeat (go_big_quiet_step ((first | (go_at_call 164; exact gw_call (sat_b _ _)))))
    refine wpQuiet_nil ?_
    intro w1 hw1
    obtain ⟨q, rfl⟩ := hw1
    go_wp2_with (first | (go_at_call 164; refine Calls.mono (gw_at (sat_b _ _)) ?_; rintro e w1 ⟨rfl, q, rfl⟩))
  exact bodyPost_ret (v := .agg #[.int .i64 (sat x), .int .i64 (sat y)]) (by simp [results, Tryz.results215, go_sem]; try (first | with_reducible rfl | exact ⟨rfl, rfl⟩ | exact ⟨rfl, rfl, rfl⟩ | exact ⟨rfl, rfl, rfl, rfl⟩ | exact ⟨rfl, rfl, rfl, rfl, rfl⟩ | exact ⟨rfl, rfl, rfl, rfl, rfl, rfl⟩ | rfl)) rfl ⟨rfl, bBel⟩

set_option maxHeartbeats 1000000 in
theorem xcp_b (ax ay bx b_y px py : Int) (w : World) : Calls Tryz.prog 257 #[.agg #[.int .i64 ax, .int .i64 ay], .agg #[.int .i64 bx, .int .i64 b_y], .agg #[.int .i64 px, .int .i64 py]] w fun e w' => e = .returned (.tuple #[.agg #[.int .i64 (cpc (cpt ax ay bx b_y px py) ax bx), .int .i64 (cpc (cpt ax ay bx b_y px py) ay b_y)], .int .i64 (cpt ax ay bx b_y px py)]) ∧ Below w.heap.size w w' := by
  have a1 := sat_le ax; have a2 := sat_ge ax; have a3 := sat_le ay; have a4 := sat_ge ay
  have b1 := sat_le bx; have b2 := sat_ge bx; have b3 := sat_le b_y; have b4 := sat_ge b_y
  have c1 := sat_le px; have c2 := sat_ge px; have c3 := sat_le py; have c4 := sat_ge py
  have d1 := diffmul (a := px) (b := ax) (c := bx) (d := ax); have d2 := diffmul (a := py) (b := ay) (c := b_y) (d := ay)
  have e1 := dist2_ss ax ay bx b_y
  have e2 : ratio ((sat px - sat ax) * (sat bx - sat ax) + (sat py - sat ay) * (sat b_y - sat ay)) (dist2 ax ay bx b_y) = cpt ax ay bx b_y px py := rfl
  have e3 := fun t => lerp_ss ax bx t
  have e4 := fun t => lerp_ss ay b_y t
  generalize cpt ax ay bx b_y px py = t at *
  by_cases t0 : t = 0
  focus
    subst t0
    rw [cpc_zero, cpc_zero]
    go_enter Tryz.func257, Tryz.ntmps257
    go_wp2_with (first | (go_at_call 215; refine Calls.mono (gw_at (xsgsat_b _ _ _)) ?_; rintro e w1 ⟨rfl, q, rfl⟩) | (go_at_call 165; refine Calls.mono (gw_at (dist2_b _ _ _ _ _)) ?_; rintro e w1 ⟨rfl, q, rfl⟩) | (go_at_call 256; refine Calls.mono (gw_at (rt_b _ _ _)) ?_; rintro e w1 ⟨rfl, q, rfl⟩) | (go_at_call 238; refine Calls.mono (gw_at (vlerp_b _ _ _ _ _ _)) ?_; rintro e w1 ⟨rfl, q, rfl⟩))
    repeat
      refine wp_region_gw_tail 6 (by kernel_rfl) (by kernel_rfl) ?_
      simp only [List.take_succ_cons, List.take_zero, List.drop_succ_cons, List.drop_zero]
      repeat (go_big_quiet_step ((first | (go_at_call 215; exact gw_call (xsgsat_b _ _ _)) | (go_at_call 165; exact gw_call (dist2_b _ _ _ _ _)) | (go_at_call 256; exact gw_call (rt_b _ _ _)) | (go_at_call 238; exact gw_call (vlerp_b _ _ _ _ _ _)))))
      refine wpQuiet_nil ?_
      intro w1 hw1
      obtain ⟨q, rfl⟩ := hw1
      go_wp2_with (first | (go_at_call 215; refine Calls.mono (gw_at (xsgsat_b _ _ _)) ?_; rintro e w1 ⟨rfl, q, rfl⟩) | (go_at_call 165; refine Calls.mono (gw_at (dist2_b _ _ _ _ _)) ?_; rintro e w1 ⟨rfl, q, rfl⟩) | (go_at_call 256; refine Calls.mono (gw_at (rt_b _ _ _)) ?_; rintro e w1 ⟨rfl, q, rfl⟩) | (go_at_call 238; refine Calls.mono (gw_at (vlerp_b _ _ _ _ _ _)) ?_; rintro e w1 ⟨rfl, q, rfl⟩))
    exact bodyPost_ret (v := .tuple #[.agg #[.int .i64 (sat ax), .int .i64 (sat ay)], .int .i64 0]) (by simp [results, Tryz.results257, go_sem]) rfl ⟨rfl, bBel⟩
  by_cases t1 : t = 65536
  focus
    subst t1
    rw [cpc_one, cpc_one]
    go_enter Tryz.func257, Tryz.ntmps257
    go_wp2_with (first | (go_at_call 215; refine Calls.mono (gw_at (xsgsat_b _ _ _)) ?_; rintro e w1 ⟨rfl, q, rfl⟩) | (go_at_call 165; refine Calls.mono (gw_at (dist2_b _ _ _ _ _)) ?_; rintro e w1 ⟨rfl, q, rfl⟩) | (go_at_call 256; refine Calls.mono (gw_at (rt_b _ _ _)) ?_; rintro e w1 ⟨rfl, q, rfl⟩) | (go_at_call 238; refine Calls.mono (gw_at (vlerp_b _ _ _ _ _ _)) ?_; rintro e w1 ⟨rfl, q, rfl⟩))
    repeat
      refine wp_region_gw_tail 6 (by kernel_rfl) (by kernel_rfl) ?_
      simp only [List.take_succ_cons, List.take_zero, List.drop_succ_cons, List.drop_zero]
      repeat (go_big_quiet_step ((first | (go_at_call 215; exact gw_call (xsgsat_b _ _ _)) | (go_at_call 165; exact gw_call (dist2_b _ _ _ _ _)) | (go_at_call 256; exact gw_call (rt_b _ _ _)) | (go_at_call 238; exact gw_call (vlerp_b _ _ _ _ _ _)))))
      refine wpQuiet_nil ?_
      intro w1 hw1
      obtain ⟨q, rfl⟩ := hw1
      go_wp2_with (first | (go_at_call 215; refine Calls.mono (gw_at (xsgsat_b _ _ _)) ?_; rintro e w1 ⟨rfl, q, rfl⟩) | (go_at_call 165; refine Calls.mono (gw_at (dist2_b _ _ _ _ _)) ?_; rintro e w1 ⟨rfl, q, rfl⟩) | (go_at_call 256; refine Calls.mono (gw_at (rt_b _ _ _)) ?_; rintro e w1 ⟨rfl, q, rfl⟩) | (go_at_call 238; refine Calls.mono (gw_at (vlerp_b _ _ _ _ _ _)) ?_; rintro e w1 ⟨rfl, q, rfl⟩))
    exact bodyPost_ret (v := .tuple #[.agg #[.int .i64 (sat bx), .int .i64 (sat b_y)], .int .i64 65536]) (by simp [results, Tryz.results257, go_sem]) rfl ⟨rfl, bBel⟩
  rw [cpc_mid t0 t1, cpc_mid t0 t1]
  have t0b : (t == 0) = false := by rw [beq_eq_false_iff_ne]; exact t0
  have t1b : (t == 65536) = false := by rw [beq_eq_false_iff_ne]; exact t1
  clear t0 t1
  go_enter Tryz.func257, Tryz.ntmps257
  go_wp2_with (first | (go_at_call 215; refine Calls.mono (gw_at (xsgsat_b _ _ _)) ?_; rintro e w1 ⟨rfl, q, rfl⟩) | (go_at_call 165; refine Calls.mono (gw_at (dist2_b _ _ _ _ _)) ?_; rintro e w1 ⟨rfl, q, rfl⟩) | (go_at_call 256; refine Calls.mono (gw_at (rt_b _ _ _)) ?_; rintro e w1 ⟨rfl, q, rfl⟩) | (go_at_call 238; refine Calls.mono (gw_at (vlerp_b _ _ _ _ _ _)) ?_; rintro e w1 ⟨rfl, q, rfl⟩))
  repeat
    refine wp_region_gw_tail 6 (by kernel_rfl) (by kernel_rfl) ?_
    simp only [List.take_succ_cons, List.take_zero, List.drop_succ_cons, List.drop_zero]
    repeat (go_big_quiet_step ((first | (go_at_call 215; exact gw_call (xsgsat_b _ _ _)) | (go_at_call 165; exact gw_call (dist2_b _ _ _ _ _)) | (go_at_call 256; exact gw_call (rt_b _ _ _)) | (go_at_call 238; exact gw_call (vlerp_b _ _ _ _ _ _)))))
    refine wpQuiet_nil ?_
    intro w1 hw1
    obtain ⟨q, rfl⟩ := hw1
    go_wp2_with (first | (go_at_call 215; refine Calls.mono (gw_at (xsgsat_b _ _ _)) ?_; rintro e w1 ⟨rfl, q, rfl⟩) | (go_at_call 165; refine Calls.mono (gw_at (dist2_b _ _ _ _ _)) ?_; rintro e w1 ⟨rfl, q, rfl⟩) | (go_at_call 256; refine Calls.mono (gw_at (rt_b _ _ _)) ?_; rintro e w1 ⟨rfl, q, rfl⟩) | (go_at_call 238; refine Calls.mono (gw_at (vlerp_b _ _ _ _ _ _)) ?_; rintro e w1 ⟨rfl, q, rfl⟩))
  exact bodyPost_ret (v := .tuple #[.agg #[.int .i64 (lerp ax bx t), .int .i64 (lerp ay b_y t)], .int .i64 t]) (by simp [results, Tryz.results257, go_sem]) rfl ⟨rfl, bBel⟩

theorem xsml_b (ax ay bx b_y cx cy dx dy : Int) (w : World) : Calls Tryz.prog 253 #[.agg #[.int .i64 ax, .int .i64 ay], .agg #[.int .i64 bx, .int .i64 b_y], .agg #[.int .i64 cx, .int .i64 cy], .agg #[.int .i64 dx, .int .i64 dy]] w fun e w' => e = .returned (.bool (decide (orient ax ay bx b_y cx cy * orient ax ay bx b_y dx dy ≤ 0))) ∧ Below w.heap.size w w' := by
  obtain ⟨p1, p2⟩ := or_mul ax ay bx b_y cx cy ax ay bx b_y dx dy
  go_enter Tryz.func253, Tryz.ntmps253
  go_wp2_with (first | (go_at_call 167; refine Calls.mono (gw_at (orient_b _ _ _ _ _ _ _)) ?_; rintro e w1 ⟨rfl, q, rfl⟩))
  repeat
    refine wp_region_gw (by kernel_rfl) (by kernel_rfl) ?_
    repeat (go_big_quiet_step ((first | (go_at_call 167; exact gw_call (orient_b _ _ _ _ _ _ _)))))
    refine wpQuiet_nil ?_
    intro w1 hw1
    obtain ⟨q, rfl⟩ := hw1
    go_wp2_with (first | (go_at_call 167; refine Calls.mono (gw_at (orient_b _ _ _ _ _ _ _)) ?_; rintro e w1 ⟨rfl, q, rfl⟩))
  go_ret
  exact ⟨rfl, bBel⟩

theorem xsbo_b (ax ay bx b_y cx cy dx dy : Int) (w : World) : Calls Tryz.prog 254 #[.agg #[.int .i64 ax, .int .i64 ay], .agg #[.int .i64 bx, .int .i64 b_y], .agg #[.int .i64 cx, .int .i64 cy], .agg #[.int .i64 dx, .int .i64 dy]] w fun e w' => e = .returned (.bool ((Bx.two ax ay bx b_y).ovl (Bx.two cx cy dx dy))) ∧ Below w.heap.size w w' := by
  have hV : ovl8 (min (sat ax) (sat bx)) (min (sat ay) (sat b_y)) (max (sat ax) (sat bx)) (max (sat ay) (sat b_y)) (min (sat cx) (sat dx)) (min (sat cy) (sat dy)) (max (sat cx) (sat dx)) (max (sat cy) (sat dy)) = (Bx.two ax ay bx b_y).ovl (Bx.two cx cy dx dy) := rfl
  rw [← hV]
  clear hV
  go_enter Tryz.func254, Tryz.ntmps254
  go_wp2_with (first | (go_at_call 134; (with_reducible show Calls _ _ (#[Value.slice _ 2 _]) _ _); refine Calls.mono (gw_at (xfp2_b _ _ _ _ _ _ _ _ (by first | ((with_reducible refine blk_at ?_); simp; done) | ((with_reducible refine blk_gw (blk_at ?_)); simp; done) | ((with_reducible refine blk_alloc (blk_at ?_)); simp; done) | ((with_reducible refine blk_gw (blk_alloc (blk_at ?_))); simp; done) | with_reducible assumption) (by decide))) ?_; rintro e w1 ⟨rfl, q, rfl⟩) | (go_at_call 134; (with_reducible show Calls _ _ (#[Value.slice _ (List.length _) _]) _ _); refine Calls.mono (gw_at (xfp_b _ _ _ _ (Pts.to (by with_reducible assumption) bBel) (by with_reducible assumption) (by with_reducible assumption))) ?_; rintro e w1 ⟨rfl, q, rfl⟩) | (go_at_call 115; (first | (refine Calls.mono (gw_at (boolIs (xovl_b _ _ _ _ _ _ _ _ _) (b := true) (by assumption))) ?_; rintro e w1 ⟨rfl, q, rfl⟩) | (refine Calls.mono (gw_at (boolIs (xovl_b _ _ _ _ _ _ _ _ _) (b := false) (by assumption))) ?_; rintro e w1 ⟨rfl, q, rfl⟩) | (refine Calls.mono (gw_at (xovl_b _ _ _ _ _ _ _ _ _)) ?_; rintro e w1 ⟨rfl, q, rfl⟩))))
  go_ret
  exact ⟨rfl, bBel⟩

theorem xisct_b (ax ay bx b_y cx cy dx dy : Int) (w : World) : Calls Tryz.prog 216 #[.agg #[.int .i64 ax, .int .i64 ay], .agg #[.int .i64 bx, .int .i64 b_y], .agg #[.int .i64 cx, .int .i64 cy], .agg #[.int .i64 dx, .int .i64 dy]] w fun e w' => e = .returned (.bool (isct ax ay bx b_y cx cy dx dy)) ∧ Below w.heap.size w w' := by
  have c1 := fun w' => xsml_b ax ay bx b_y cx cy dx dy w'
  have c2 := fun w' => xsml_b cx cy dx dy ax ay bx b_y w'
  have c3 := fun w' => xsbo_b ax ay bx b_y cx cy dx dy w'
  unfold isct
  generalize (Bx.two ax ay bx b_y).ovl (Bx.two cx cy dx dy) = V at *
  generalize decide (orient ax ay bx b_y cx cy * orient ax ay bx b_y dx dy ≤ 0) = U at *
  generalize decide (orient cx cy dx dy ax ay * orient cx cy dx dy bx b_y ≤ 0) = Z at *
  cases U <;> cases Z <;> cases V
  all_goals
    go_enter Tryz.func216, Tryz.ntmps216
    go_wp2_with (first
      | (go_at_call 253; with_reducible_and_instances refine Calls.mono (gw_at (c1 _)) ?_; rintro e w1 ⟨rfl, q, rfl⟩)
      | (go_at_call 253; with_reducible_and_instances refine Calls.mono (gw_at (c2 _)) ?_; rintro e w1 ⟨rfl, q, rfl⟩)
      | (go_at_call 254; refine Calls.mono (gw_at (c3 _)) ?_; rintro e w1 ⟨rfl, q, rfl⟩))
    go_ret
    exact ⟨rfl, bBel⟩

theorem xsda_b (cx cy dx dy px py : Int) (h1 : -536870911 ≤ cx ∧ cx ≤ 536870911) (h2 : -536870911 ≤ cy ∧ cy ≤ 536870911) (h3 : -536870911 ≤ dx ∧ dx ≤ 536870911) (h4 : -536870911 ≤ dy ∧ dy ≤ 536870911) (h5 : -536870911 ≤ px ∧ px ≤ 536870911) (h6 : -536870911 ≤ py ∧ py ≤ 536870911) (w : World) : Calls Tryz.prog 255 #[.agg #[.int .i64 cx, .int .i64 cy], .agg #[.int .i64 dx, .int .i64 dy], .agg #[.int .i64 px, .int .i64 py]] w fun e w' => e = .returned (.int .i64 (absc cx cy dx dy px py)) ∧ Below w.heap.size w w' := by
  have d1 := diffmul (a := dx) (b := cx) (c := py) (d := cy); have d2 := diffmul (a := dy) (b := cy) (c := px) (d := cx)
  have e1 := sat_id h1.1 h1.2; have e2 := sat_id h2.1 h2.2; have e3 := sat_id h3.1 h3.2; have e4 := sat_id h4.1 h4.2; have e5 := sat_id h5.1 h5.2; have e6 := sat_id h6.1 h6.2
  have hd : det cx cy dx dy px py = (dx - cx) * (py - cy) - (dy - cy) * (px - cx) := by unfold det; rw [e1, e2, e3, e4, e5, e6]
  simp only [e1, e2, e3, e4, e5, e6] at d1 d2
  obtain ⟨g1, g1'⟩ := h1; obtain ⟨g2, g2'⟩ := h2; obtain ⟨g3, g3'⟩ := h3; obtain ⟨g4, g4'⟩ := h4; obtain ⟨g5, g5'⟩ := h5; obtain ⟨g6, g6'⟩ := h6
  have hm : absc cx cy dx dy px py = max ((dx - cx) * (py - cy) - (dy - cy) * (px - cx)) (-((dx - cx) * (py - cy) - (dy - cy) * (px - cx))) := by unfold absc; rw [hd]; omega
  rw [hm]
  clear hm hd e1 e2 e3 e4 e5 e6
  go_enter Tryz.func255, Tryz.ntmps255
  go_wp2_with fail
  go_ret
  exact ⟨rfl, bBel⟩

theorem xscr_b (ax ay bx b_y cx cy dx dy : Int) (h1 : -536870911 ≤ ax ∧ ax ≤ 536870911) (h2 : -536870911 ≤ ay ∧ ay ≤ 536870911) (h3 : -536870911 ≤ bx ∧ bx ≤ 536870911) (h4 : -536870911 ≤ b_y ∧ b_y ≤ 536870911) (h5 : -536870911 ≤ cx ∧ cx ≤ 536870911) (h6 : -536870911 ≤ cy ∧ cy ≤ 536870911) (h7 : -536870911 ≤ dx ∧ dx ≤ 536870911) (h8 : -536870911 ≤ dy ∧ dy ≤ 536870911) (w : World) : Calls Tryz.prog 217 #[.agg #[.int .i64 ax, .int .i64 ay], .agg #[.int .i64 bx, .int .i64 b_y], .agg #[.int .i64 cx, .int .i64 cy], .agg #[.int .i64 dx, .int .i64 dy]] w fun e w' => e = .returned (.agg #[.int .i64 (lerp ax bx (sgt ax ay bx b_y cx cy dx dy)), .int .i64 (lerp ay b_y (sgt ax ay bx b_y cx cy dx dy))]) ∧ Below w.heap.size w w' := by
  have c1 := fun w' => xsda_b cx cy dx dy ax ay h5 h6 h7 h8 h1 h2 w'
  have c2 := fun w' => xsda_b cx cy dx dy bx b_y h5 h6 h7 h8 h3 h4 w'
  obtain ⟨x0, x1⟩ := absc_in cx cy dx dy ax ay
  obtain ⟨y0, y1⟩ := absc_in cx cy dx dy bx b_y
  have ht : ratio (absc cx cy dx dy ax ay) (absc cx cy dx dy ax ay + absc cx cy dx dy bx b_y) = sgt ax ay bx b_y cx cy dx dy := rfl
  generalize sgt ax ay bx b_y cx cy dx dy = t at *
  generalize absc cx cy dx dy ax ay = x at *
  generalize absc cx cy dx dy bx b_y = y at *
  clear h1 h2 h3 h4 h5 h6 h7 h8
  go_enter Tryz.func217, Tryz.ntmps217
  go_wp2_with fail
  refine wp_region_gw (by kernel_rfl) (by kernel_rfl) ?_
  repeat (go_big_quiet_step (first
    | (go_at_call 255; with_reducible_and_instances exact gw_call (c1 _))
    | (go_at_call 255; with_reducible_and_instances exact gw_call (c2 _))))
  refine wpQuiet_nil ?_
  intro w1 hw1
  obtain ⟨q, rfl⟩ := hw1
  go_wp2_with fail
  refine wp_region_gw_tail 8 (by kernel_rfl) (by kernel_rfl) ?_
  simp only [List.take_succ_cons, List.take_zero, List.drop_succ_cons, List.drop_zero]
  repeat (go_big_quiet_step ((first | (go_at_call 256; exact gw_call (rt_b _ _ _)) | (go_at_call 238; exact gw_call (vlerp_b _ _ _ _ _ _)))))
  refine wpQuiet_nil ?_
  intro w1 hw1
  obtain ⟨q, rfl⟩ := hw1
  go_wp2_with fail
  exact bodyPost_ret (v := .agg #[.int .i64 (lerp ax bx t), .int .i64 (lerp ay b_y t)]) (by simp [results, Tryz.results217, go_sem]; try (first | with_reducible rfl | exact ⟨rfl, rfl⟩ | exact ⟨rfl, rfl, rfl⟩ | exact ⟨rfl, rfl, rfl, rfl⟩ | exact ⟨rfl, rfl, rfl, rfl, rfl⟩ | exact ⟨rfl, rfl, rfl, rfl, rfl, rfl⟩ | rfl)) rfl ⟨rfl, bBel⟩

theorem sdist_all (ax ay bx b_y cx cy dx dy : Int) : sdist ax ay bx b_y cx cy dx dy = sat (isq (dist2 (cps ax ay bx b_y cx cy dx dy).px (cps ax ay bx b_y cx cy dx dy).py (cps ax ay bx b_y cx cy dx dy).qx (cps ax ay bx b_y cx cy dx dy).qy)) := by
  cases h : isct ax ay bx b_y cx cy dx dy
  · exact sdist_cps h
  · rw [sdist_isct h]
    unfold cps
    rw [if_pos h]
    dsimp only
    rw [show ∀ p q : Int, dist2 p q p q = 0 from fun p q => by unfold dist2; simp]
    decide +kernel

end Go.Proofs.YtdmcdicphohlfaaGreat

set_option linter.unusedVariables false
namespace Go.Proofs.YtdmcdicphohlfaaGreat
open Go.RowKit Fx

@[go_sem] theorem couple3_0 (c0 c1 c2 c3 c4 c5 c6 c7 c8 c9 c10 c11 : Value) (w : World) : (Instr.index 212 (.agg #[c0, c1, c2, c3, c4, c5, c6, c7, c8, c9, c10, c11]) (.int .i64 0)).run Tryz.prog w = .ok (.agg #[c0, c1, c2, c3]) w := by kernel_rfl

@[go_sem] theorem couple3_1 (c0 c1 c2 c3 c4 c5 c6 c7 c8 c9 c10 c11 : Value) (w : World) : (Instr.index 212 (.agg #[c0, c1, c2, c3, c4, c5, c6, c7, c8, c9, c10, c11]) (.int .i64 1)).run Tryz.prog w = .ok (.agg #[c4, c5, c6, c7]) w := by kernel_rfl

@[go_sem] theorem couple3_2 (c0 c1 c2 c3 c4 c5 c6 c7 c8 c9 c10 c11 : Value) (w : World) : (Instr.index 212 (.agg #[c0, c1, c2, c3, c4, c5, c6, c7, c8, c9, c10, c11]) (.int .i64 2)).run Tryz.prog w = .ok (.agg #[c8, c9, c10, c11]) w := by kernel_rfl

set_option maxRecDepth 100000 in
set_option maxHeartbeats 8000000 in
theorem xscc_b (a1 a2 b1 b2 c1 c2 d1 d2 u1 u2 v1 v2 x1 x2 y1 y2 : Int) (O1 O2 O3 O4 : Pp) (hu1 : cpc (cpt c1 c2 d1 d2 a1 a2) c1 d1 = u1) (hu2 : cpc (cpt c1 c2 d1 d2 a1 a2) c2 d2 = u2) (hv1 : cpc (cpt c1 c2 d1 d2 b1 b2) c1 d1 = v1) (hv2 : cpc (cpt c1 c2 d1 d2 b1 b2) c2 d2 = v2) (hx1 : cpc (cpt a1 a2 b1 b2 c1 c2) a1 b1 = x1) (hx2 : cpc (cpt a1 a2 b1 b2 c1 c2) a2 b2 = x2) (hy1 : cpc (cpt a1 a2 b1 b2 d1 d2) a1 b1 = y1) (hy2 : cpc (cpt a1 a2 b1 b2 d1 d2) a2 b2 = y2)
    (hO1 : Pp.mk a1 a2 u1 u2 = O1) (hO2 : O1.pick ⟨b1, b2, v1, v2⟩ = O2) (hO3 : O2.pick ⟨x1, x2, c1, c2⟩ = O3) (hO4 : O3.pick ⟨y1, y2, d1, d2⟩ = O4) (w : World) : Calls Tryz.prog 218 #[.agg #[.int .i64 a1, .int .i64 a2], .agg #[.int .i64 b1, .int .i64 b2], .agg #[.int .i64 c1, .int .i64 c2], .agg #[.int .i64 d1, .int .i64 d2]] w fun e w' => e = .returned (.agg #[.int .i64 O4.px, .int .i64 O4.py, .int .i64 O4.qx, .int .i64 O4.qy]) ∧ Below w.heap.size w w' := by
  have cU := fun w' => xcp_b c1 c2 d1 d2 a1 a2 w'
  have cV := fun w' => xcp_b c1 c2 d1 d2 b1 b2 w'
  have cX := fun w' => xcp_b a1 a2 b1 b2 c1 c2 w'
  have cY := fun w' => xcp_b a1 a2 b1 b2 d1 d2 w'
  rw [hu1, hu2] at cU
  rw [hv1, hv2] at cV
  rw [hx1, hx2] at cX
  rw [hy1, hy2] at cY
  generalize cpt c1 c2 d1 d2 a1 a2 = tu at *
  generalize cpt c1 c2 d1 d2 b1 b2 = tv at *
  generalize cpt a1 a2 b1 b2 c1 c2 = tx at *
  generalize cpt a1 a2 b1 b2 d1 d2 = ty at *
  clear hu1 hu2 hv1 hv2 hx1 hx2 hy1 hy2
  replace hO1 : Hid (Pp.mk a1 a2 u1 u2 = O1) := hO1
  replace hO2 : Hid (O1.pick ⟨b1, b2, v1, v2⟩ = O2) := hO2
  replace hO3 : Hid (O2.pick ⟨x1, x2, c1, c2⟩ = O3) := hO3
  replace hO4 : Hid (O3.pick ⟨y1, y2, d1, d2⟩ = O4) := hO4
  go_enter Tryz.func218, Tryz.ntmps218
  go_upto_region 1 with fail
  refine wp_named ?_
  intro W hW
  have hbW : Below w.heap.size w W := by rw [hW]; exact bBel
  have kA : blk W w.heap.size #[.int .i64 a1, .int .i64 a2] 24 := by rw [hW]; exact bBkn
  have kB : blk W (w.heap.size + 1) #[.int .i64 b1, .int .i64 b2] 24 := by rw [hW]; exact bBkn
  have kC : blk W (w.heap.size + 1 + 1) #[.int .i64 c1, .int .i64 c2] 24 := by rw [hW]; exact bBkn
  have kD : blk W (w.heap.size + 1 + 1 + 1) #[.int .i64 d1, .int .i64 d2] 24 := by rw [hW]; exact bBkn
  have k8 : blk W (w.heap.size + 1 + 1 + 1 + 1) #[.int .i64 0, .int .i64 0, .int .i64 0, .int .i64 0] 190 := by rw [hW]; exact bBkn
  clear hW
  have hszW : w.heap.size + 1 + 1 + 1 + 1 < W.heap.size := blk_lt k8
  have hA : w.heap.size ≤ w.heap.size := Nat.le_refl _
  generalize hB0 : w.heap.size = B0 at hszW hA kA kB kC kD k8 ⊢
  have nA : B0 < B0 + 1 := by omega
  generalize hB1 : B0 + 1 = B1 at *
  have nB : B1 < B1 + 1 := by omega
  generalize hB2 : B1 + 1 = B2 at *
  have nC : B2 < B2 + 1 := by omega
  generalize hB3 : B2 + 1 = B3 at *
  have nD : B3 < B3 + 1 := by omega
  generalize hB8 : B3 + 1 = B8 at *
  clear hB1 hB2 hB3 hB8
  have hbW' := hbW
  have hzW := hbW.size
  have okA := blk_older kA
  have ckA_0 : _ = some _ := blk_cell kA 0
  have ckA_1 : _ = some _ := blk_cell kA 1
  have fkA_0 := blk_free kA 0
  have fkA_1 := blk_free kA 1
  have okB := blk_older kB
  have ckB_0 : _ = some _ := blk_cell kB 0
  have ckB_1 : _ = some _ := blk_cell kB 1
  have fkB_0 := blk_free kB 0
  have fkB_1 := blk_free kB 1
  have okC := blk_older kC
  have ckC_0 : _ = some _ := blk_cell kC 0
  have ckC_1 : _ = some _ := blk_cell kC 1
  have fkC_0 := blk_free kC 0
  have fkC_1 := blk_free kC 1
  have okD := blk_older kD
  have ckD_0 : _ = some _ := blk_cell kD 0
  have ckD_1 : _ = some _ := blk_cell kD 1
  have fkD_0 := blk_free kD 0
  have fkD_1 := blk_free kD 1
  have ok8 := blk_older k8
  have ck8_0 : _ = some _ := blk_cell k8 0
  have ck8_1 : _ = some _ := blk_cell k8 1
  have ck8_2 : _ = some _ := blk_cell k8 2
  have ck8_3 : _ = some _ := blk_cell k8 3
  have fk8_0 := blk_free k8 0
  have fk8_1 := blk_free k8 1
  have fk8_2 := blk_free k8 2
  have fk8_3 := blk_free k8 3
  go_upto_region 2 with (go_at_call 257; refine Calls.mono (gw_at (cU _)) ?_; rintro e w1 ⟨rfl, qa, rfl⟩)
  refine wp_named ?_
  intro X1 hX1
  have kA_1 : blk X1 B0 #[.int .i64 a1, .int .i64 a2] 24 := by rw [hX1]; exact (by apply blk_of; (repeat (first | with_reducible exact kA | with_reducible apply blk_drew | with_reducible apply blk_gw | with_reducible apply blk_alloc | with_reducible apply blk_set | ((with_reducible apply blk_other); focus omega))); (first | rfl | simp))
  have kB_1 : blk X1 B1 #[.int .i64 b1, .int .i64 b2] 24 := by rw [hX1]; exact (by apply blk_of; (repeat (first | with_reducible exact kB | with_reducible apply blk_drew | with_reducible apply blk_gw | with_reducible apply blk_alloc | with_reducible apply blk_set | ((with_reducible apply blk_other); focus omega))); (first | rfl | simp))
  have kC_1 : blk X1 B2 #[.int .i64 c1, .int .i64 c2] 24 := by rw [hX1]; exact (by apply blk_of; (repeat (first | with_reducible exact kC | with_reducible apply blk_drew | with_reducible apply blk_gw | with_reducible apply blk_alloc | with_reducible apply blk_set | ((with_reducible apply blk_other); focus omega))); (first | rfl | simp))
  have kD_1 : blk X1 B3 #[.int .i64 d1, .int .i64 d2] 24 := by rw [hX1]; exact (by apply blk_of; (repeat (first | with_reducible exact kD | with_reducible apply blk_drew | with_reducible apply blk_gw | with_reducible apply blk_alloc | with_reducible apply blk_set | ((with_reducible apply blk_other); focus omega))); (first | rfl | simp))
  have k8_1 : blk X1 B8 #[.int .i64 0, .int .i64 0, .int .i64 0, .int .i64 0] 190 := by rw [hX1]; exact (by apply blk_of; (repeat (first | with_reducible exact k8 | with_reducible apply blk_drew | with_reducible apply blk_gw | with_reducible apply blk_alloc | with_reducible apply blk_set | ((with_reducible apply blk_other); focus omega))); (first | rfl | simp))
  have jU : blk X1 (W.heap.size + qa.os.size) #[.int .i64 u1, .int .i64 u2] 24 := by rw [hX1]; exact bBkn
  have n_B0_BU : B0 < W.heap.size + qa.os.size := by have := blk_lt kA; omega
  have n_B1_BU : B1 < W.heap.size + qa.os.size := by have := blk_lt kB; omega
  have n_B2_BU : B2 < W.heap.size + qa.os.size := by have := blk_lt kC; omega
  have n_B3_BU : B3 < W.heap.size + qa.os.size := by have := blk_lt kD; omega
  have n_B8_BU : B8 < W.heap.size + qa.os.size := by have := blk_lt k8; omega
  have hbX1 : Below w.heap.size w X1 := by rw [hX1]; exact bBel
  have hzX1 := hbX1.size
  clear hX1
  clear okA ckA_0 ckA_1 fkA_0 fkA_1 okB ckB_0 ckB_1 fkB_0 fkB_1 okC ckC_0 ckC_1 fkC_0 fkC_1 okD ckD_0 ckD_1 fkD_0 fkD_1 ok8 ck8_0 ck8_1 ck8_2 ck8_3 fk8_0 fk8_1 fk8_2 fk8_3
  clear kA kB kC kD k8
  clear hzW
  generalize W.heap.size + qa.os.size = BU at *
  clear hbW
  have okA_1 := blk_older kA_1
  have ckA_1_0 : _ = some _ := blk_cell kA_1 0
  have ckA_1_1 : _ = some _ := blk_cell kA_1 1
  have fkA_1_0 := blk_free kA_1 0
  have fkA_1_1 := blk_free kA_1 1
  have okB_1 := blk_older kB_1
  have ckB_1_0 : _ = some _ := blk_cell kB_1 0
  have ckB_1_1 : _ = some _ := blk_cell kB_1 1
  have fkB_1_0 := blk_free kB_1 0
  have fkB_1_1 := blk_free kB_1 1
  have okC_1 := blk_older kC_1
  have ckC_1_0 : _ = some _ := blk_cell kC_1 0
  have ckC_1_1 : _ = some _ := blk_cell kC_1 1
  have fkC_1_0 := blk_free kC_1 0
  have fkC_1_1 := blk_free kC_1 1
  have okD_1 := blk_older kD_1
  have ckD_1_0 : _ = some _ := blk_cell kD_1 0
  have ckD_1_1 : _ = some _ := blk_cell kD_1 1
  have fkD_1_0 := blk_free kD_1 0
  have fkD_1_1 := blk_free kD_1 1
  have ok8_1 := blk_older k8_1
  have ck8_1_0 : _ = some _ := blk_cell k8_1 0
  have ck8_1_1 : _ = some _ := blk_cell k8_1 1
  have ck8_1_2 : _ = some _ := blk_cell k8_1 2
  have ck8_1_3 : _ = some _ := blk_cell k8_1 3
  have fk8_1_0 := blk_free k8_1 0
  have fk8_1_1 := blk_free k8_1 1
  have fk8_1_2 := blk_free k8_1 2
  have fk8_1_3 := blk_free k8_1 3
  have ojU := blk_older jU
  have cjU_0 : _ = some _ := blk_cell jU 0
  have cjU_1 : _ = some _ := blk_cell jU 1
  have fjU_0 := blk_free jU 0
  have fjU_1 := blk_free jU 1
  go_upto_region 3 with (go_at_call 257; refine Calls.mono (gw_at (cV _)) ?_; rintro e w1 ⟨rfl, qa, rfl⟩)
  refine wp_named ?_
  intro X2 hX2
  have kA_2 : blk X2 B0 #[.int .i64 a1, .int .i64 a2] 24 := by rw [hX2]; exact (by apply blk_of; (repeat (first | with_reducible exact kA_1 | with_reducible apply blk_drew | with_reducible apply blk_gw | with_reducible apply blk_alloc | with_reducible apply blk_set | ((with_reducible apply blk_other); focus omega))); (first | rfl | simp))
  have kB_2 : blk X2 B1 #[.int .i64 b1, .int .i64 b2] 24 := by rw [hX2]; exact (by apply blk_of; (repeat (first | with_reducible exact kB_1 | with_reducible apply blk_drew | with_reducible apply blk_gw | with_reducible apply blk_alloc | with_reducible apply blk_set | ((with_reducible apply blk_other); focus omega))); (first | rfl | simp))
  have kC_2 : blk X2 B2 #[.int .i64 c1, .int .i64 c2] 24 := by rw [hX2]; exact (by apply blk_of; (repeat (first | with_reducible exact kC_1 | with_reducible apply blk_drew | with_reducible apply blk_gw | with_reducible apply blk_alloc | with_reducible apply blk_set | ((with_reducible apply blk_other); focus omega))); (first | rfl | simp))
  have kD_2 : blk X2 B3 #[.int .i64 d1, .int .i64 d2] 24 := by rw [hX2]; exact (by apply blk_of; (repeat (first | with_reducible exact kD_1 | with_reducible apply blk_drew | with_reducible apply blk_gw | with_reducible apply blk_alloc | with_reducible apply blk_set | ((with_reducible apply blk_other); focus omega))); (first | rfl | simp))
  have k8_2 : blk X2 B8 #[.int .i64 0, .int .i64 0, .int .i64 0, .int .i64 0] 190 := by rw [hX2]; exact (by apply blk_of; (repeat (first | with_reducible exact k8_1 | with_reducible apply blk_drew | with_reducible apply blk_gw | with_reducible apply blk_alloc | with_reducible apply blk_set | ((with_reducible apply blk_other); focus omega))); (first | rfl | simp))
  have jU_1 : blk X2 BU #[.int .i64 u1, .int .i64 u2] 24 := by rw [hX2]; exact (by apply blk_of; (repeat (first | with_reducible exact jU | with_reducible apply blk_drew | with_reducible apply blk_gw | with_reducible apply blk_alloc | with_reducible apply blk_set | ((with_reducible apply blk_other); focus omega))); (first | rfl | simp))
  have jV : blk X2 (X1.heap.size + qa.os.size) #[.int .i64 v1, .int .i64 v2] 24 := by rw [hX2]; exact bBkn
  have n_B0_BV : B0 < X1.heap.size + qa.os.size := by have := blk_lt kA_1; omega
  have n_B1_BV : B1 < X1.heap.size + qa.os.size := by have := blk_lt kB_1; omega
  have n_B2_BV : B2 < X1.heap.size + qa.os.size := by have := blk_lt kC_1; omega
  have n_B3_BV : B3 < X1.heap.size + qa.os.size := by have := blk_lt kD_1; omega
  have n_B8_BV : B8 < X1.heap.size + qa.os.size := by have := blk_lt k8_1; omega
  have n_BU_BV : BU < X1.heap.size + qa.os.size := by have := blk_lt jU; omega
  have hbX2 : Below w.heap.size w X2 := by rw [hX2]; exact bBel
  have hzX2 := hbX2.size
  clear hX2
  clear okA_1 ckA_1_0 ckA_1_1 fkA_1_0 fkA_1_1 okB_1 ckB_1_0 ckB_1_1 fkB_1_0 fkB_1_1 okC_1 ckC_1_0 ckC_1_1 fkC_1_0 fkC_1_1 okD_1 ckD_1_0 ckD_1_1 fkD_1_0 fkD_1_1 ok8_1 ck8_1_0 ck8_1_1 ck8_1_2 ck8_1_3 fk8_1_0 fk8_1_1 fk8_1_2 fk8_1_3 ojU cjU_0 cjU_1 fjU_0 fjU_1
  clear kA_1 kB_1 kC_1 kD_1 k8_1 jU
  clear hzX1
  generalize X1.heap.size + qa.os.size = BV at *
  clear hbX1
  have okA_2 := blk_older kA_2
  have ckA_2_0 : _ = some _ := blk_cell kA_2 0
  have ckA_2_1 : _ = some _ := blk_cell kA_2 1
  have fkA_2_0 := blk_free kA_2 0
  have fkA_2_1 := blk_free kA_2 1
  have okB_2 := blk_older kB_2
  have ckB_2_0 : _ = some _ := blk_cell kB_2 0
  have ckB_2_1 : _ = some _ := blk_cell kB_2 1
  have fkB_2_0 := blk_free kB_2 0
  have fkB_2_1 := blk_free kB_2 1
  have okC_2 := blk_older kC_2
  have ckC_2_0 : _ = some _ := blk_cell kC_2 0
  have ckC_2_1 : _ = some _ := blk_cell kC_2 1
  have fkC_2_0 := blk_free kC_2 0
  have fkC_2_1 := blk_free kC_2 1
  have okD_2 := blk_older kD_2
  have ckD_2_0 : _ = some _ := blk_cell kD_2 0
  have ckD_2_1 : _ = some _ := blk_cell kD_2 1
  have fkD_2_0 := blk_free kD_2 0
  have fkD_2_1 := blk_free kD_2 1
  have ok8_2 := blk_older k8_2
  have ck8_2_0 : _ = some _ := blk_cell k8_2 0
  have ck8_2_1 : _ = some _ := blk_cell k8_2 1
  have ck8_2_2 : _ = some _ := blk_cell k8_2 2
  have ck8_2_3 : _ = some _ := blk_cell k8_2 3
  have fk8_2_0 := blk_free k8_2 0
  have fk8_2_1 := blk_free k8_2 1
  have fk8_2_2 := blk_free k8_2 2
  have fk8_2_3 := blk_free k8_2 3
  have ojU_1 := blk_older jU_1
  have cjU_1_0 : _ = some _ := blk_cell jU_1 0
  have cjU_1_1 : _ = some _ := blk_cell jU_1 1
  have fjU_1_0 := blk_free jU_1 0
  have fjU_1_1 := blk_free jU_1 1
  have ojV := blk_older jV
  have cjV_0 : _ = some _ := blk_cell jV 0
  have cjV_1 : _ = some _ := blk_cell jV 1
  have fjV_0 := blk_free jV 0
  have fjV_1 := blk_free jV 1
  go_upto_region 4 with (go_at_call 257; refine Calls.mono (gw_at (cX _)) ?_; rintro e w1 ⟨rfl, qa, rfl⟩)
  refine wp_named ?_
  intro X3 hX3
  have kA_3 : blk X3 B0 #[.int .i64 a1, .int .i64 a2] 24 := by rw [hX3]; exact (by apply blk_of; (repeat (first | with_reducible exact kA_2 | with_reducible apply blk_drew | with_reducible apply blk_gw | with_reducible apply blk_alloc | with_reducible apply blk_set | ((with_reducible apply blk_other); focus omega))); (first | rfl | simp))
  have kB_3 : blk X3 B1 #[.int .i64 b1, .int .i64 b2] 24 := by rw [hX3]; exact (by apply blk_of; (repeat (first | with_reducible exact kB_2 | with_reducible apply blk_drew | with_reducible apply blk_gw | with_reducible apply blk_alloc | with_reducible apply blk_set | ((with_reducible apply blk_other); focus omega))); (first | rfl | simp))
  have kC_3 : blk X3 B2 #[.int .i64 c1, .int .i64 c2] 24 := by rw [hX3]; exact (by apply blk_of; (repeat (first | with_reducible exact kC_2 | with_reducible apply blk_drew | with_reducible apply blk_gw | with_reducible apply blk_alloc | with_reducible apply blk_set | ((with_reducible apply blk_other); focus omega))); (first | rfl | simp))
  have kD_3 : blk X3 B3 #[.int .i64 d1, .int .i64 d2] 24 := by rw [hX3]; exact (by apply blk_of; (repeat (first | with_reducible exact kD_2 | with_reducible apply blk_drew | with_reducible apply blk_gw | with_reducible apply blk_alloc | with_reducible apply blk_set | ((with_reducible apply blk_other); focus omega))); (first | rfl | simp))
  have k8_3 : blk X3 B8 #[.int .i64 0, .int .i64 0, .int .i64 0, .int .i64 0] 190 := by rw [hX3]; exact (by apply blk_of; (repeat (first | with_reducible exact k8_2 | with_reducible apply blk_drew | with_reducible apply blk_gw | with_reducible apply blk_alloc | with_reducible apply blk_set | ((with_reducible apply blk_other); focus omega))); (first | rfl | simp))
  have jU_2 : blk X3 BU #[.int .i64 u1, .int .i64 u2] 24 := by rw [hX3]; exact (by apply blk_of; (repeat (first | with_reducible exact jU_1 | with_reducible apply blk_drew | with_reducible apply blk_gw | with_reducible apply blk_alloc | with_reducible apply blk_set | ((with_reducible apply blk_other); focus omega))); (first | rfl | simp))
  have jV_1 : blk X3 BV #[.int .i64 v1, .int .i64 v2] 24 := by rw [hX3]; exact (by apply blk_of; (repeat (first | with_reducible exact jV | with_reducible apply blk_drew | with_reducible apply blk_gw | with_reducible apply blk_alloc | with_reducible apply blk_set | ((with_reducible apply blk_other); focus omega))); (first | rfl | simp))
  have jX : blk X3 (X2.heap.size + qa.os.size) #[.int .i64 x1, .int .i64 x2] 24 := by rw [hX3]; exact bBkn
  have n_B0_BX : B0 < X2.heap.size + qa.os.size := by have := blk_lt kA_2; omega
  have n_B1_BX : B1 < X2.heap.size + qa.os.size := by have := blk_lt kB_2; omega
  have n_B2_BX : B2 < X2.heap.size + qa.os.size := by have := blk_lt kC_2; omega
  have n_B3_BX : B3 < X2.heap.size + qa.os.size := by have := blk_lt kD_2; omega
  have n_B8_BX : B8 < X2.heap.size + qa.os.size := by have := blk_lt k8_2; omega
  have n_BU_BX : BU < X2.heap.size + qa.os.size := by have := blk_lt jU_1; omega
  have n_BV_BX : BV < X2.heap.size + qa.os.size := by have := blk_lt jV; omega
  have hbX3 : Below w.heap.size w X3 := by rw [hX3]; exact bBel
  have hzX3 := hbX3.size
  clear hX3
  clear okA_2 ckA_2_0 ckA_2_1 fkA_2_0 fkA_2_1 okB_2 ckB_2_0 ckB_2_1 fkB_2_0 fkB_2_1 okC_2 ckC_2_0 ckC_2_1 fkC_2_0 fkC_2_1 okD_2 ckD_2_0 ckD_2_1 fkD_2_0 fkD_2_1 ok8_2 ck8_2_0 ck8_2_1 ck8_2_2 ck8_2_3 fk8_2_0 fk8_2_1 fk8_2_2 fk8_2_3 ojU_1 cjU_1_0 cjU_1_1 fjU_1_0 fjU_1_1 ojV cjV_0 cjV_1 fjV_0 fjV_1
  clear kA_2 kB_2 kC_2 kD_2 k8_2 jU_1 jV
  clear hzX2
  generalize X2.heap.size + qa.os.size = BX at *
  clear hbX2
  have okA_3 := blk_older kA_3
  have ckA_3_0 : _ = some _ := blk_cell kA_3 0
  have ckA_3_1 : _ = some _ := blk_cell kA_3 1
  have fkA_3_0 := blk_free kA_3 0
  have fkA_3_1 := blk_free kA_3 1
  have okB_3 := blk_older kB_3
  have ckB_3_0 : _ = some _ := blk_cell kB_3 0
  have ckB_3_1 : _ = some _ := blk_cell kB_3 1
  have fkB_3_0 := blk_free kB_3 0
  have fkB_3_1 := blk_free kB_3 1
  have okC_3 := blk_older kC_3
  have ckC_3_0 : _ = some _ := blk_cell kC_3 0
  have ckC_3_1 : _ = some _ := blk_cell kC_3 1
  have fkC_3_0 := blk_free kC_3 0
  have fkC_3_1 := blk_free kC_3 1
  have okD_3 := blk_older kD_3
  have ckD_3_0 : _ = some _ := blk_cell kD_3 0
  have ckD_3_1 : _ = some _ := blk_cell kD_3 1
  have fkD_3_0 := blk_free kD_3 0
  have fkD_3_1 := blk_free kD_3 1
  have ok8_3 := blk_older k8_3
  have ck8_3_0 : _ = some _ := blk_cell k8_3 0
  have ck8_3_1 : _ = some _ := blk_cell k8_3 1
  have ck8_3_2 : _ = some _ := blk_cell k8_3 2
  have ck8_3_3 : _ = some _ := blk_cell k8_3 3
  have fk8_3_0 := blk_free k8_3 0
  have fk8_3_1 := blk_free k8_3 1
  have fk8_3_2 := blk_free k8_3 2
  have fk8_3_3 := blk_free k8_3 3
  have ojU_2 := blk_older jU_2
  have cjU_2_0 : _ = some _ := blk_cell jU_2 0
  have cjU_2_1 : _ = some _ := blk_cell jU_2 1
  have fjU_2_0 := blk_free jU_2 0
  have fjU_2_1 := blk_free jU_2 1
  have ojV_1 := blk_older jV_1
  have cjV_1_0 : _ = some _ := blk_cell jV_1 0
  have cjV_1_1 : _ = some _ := blk_cell jV_1 1
  have fjV_1_0 := blk_free jV_1 0
  have fjV_1_1 := blk_free jV_1 1
  have ojX := blk_older jX
  have cjX_0 : _ = some _ := blk_cell jX 0
  have cjX_1 : _ = some _ := blk_cell jX 1
  have fjX_0 := blk_free jX 0
  have fjX_1 := blk_free jX 1
  go_upto_region 5 with (go_at_call 257; refine Calls.mono (gw_at (cY _)) ?_; rintro e w1 ⟨rfl, qa, rfl⟩)
  refine wp_named ?_
  intro X4 hX4
  have kA_4 : blk X4 B0 #[.int .i64 a1, .int .i64 a2] 24 := by rw [hX4]; exact (by apply blk_of; (repeat (first | with_reducible exact kA_3 | with_reducible apply blk_drew | with_reducible apply blk_gw | with_reducible apply blk_alloc | with_reducible apply blk_set | ((with_reducible apply blk_other); focus omega))); (first | rfl | simp))
  have kB_4 : blk X4 B1 #[.int .i64 b1, .int .i64 b2] 24 := by rw [hX4]; exact (by apply blk_of; (repeat (first | with_reducible exact kB_3 | with_reducible apply blk_drew | with_reducible apply blk_gw | with_reducible apply blk_alloc | with_reducible apply blk_set | ((with_reducible apply blk_other); focus omega))); (first | rfl | simp))
  have kC_4 : blk X4 B2 #[.int .i64 c1, .int .i64 c2] 24 := by rw [hX4]; exact (by apply blk_of; (repeat (first | with_reducible exact kC_3 | with_reducible apply blk_drew | with_reducible apply blk_gw | with_reducible apply blk_alloc | with_reducible apply blk_set | ((with_reducible apply blk_other); focus omega))); (first | rfl | simp))
  have kD_4 : blk X4 B3 #[.int .i64 d1, .int .i64 d2] 24 := by rw [hX4]; exact (by apply blk_of; (repeat (first | with_reducible exact kD_3 | with_reducible apply blk_drew | with_reducible apply blk_gw | with_reducible apply blk_alloc | with_reducible apply blk_set | ((with_reducible apply blk_other); focus omega))); (first | rfl | simp))
  have k8_4 : blk X4 B8 #[.int .i64 0, .int .i64 0, .int .i64 0, .int .i64 0] 190 := by rw [hX4]; exact (by apply blk_of; (repeat (first | with_reducible exact k8_3 | with_reducible apply blk_drew | with_reducible apply blk_gw | with_reducible apply blk_alloc | with_reducible apply blk_set | ((with_reducible apply blk_other); focus omega))); (first | rfl | simp))
  have jU_3 : blk X4 BU #[.int .i64 u1, .int .i64 u2] 24 := by rw [hX4]; exact (by apply blk_of; (repeat (first | with_reducible exact jU_2 | with_reducible apply blk_drew | with_reducible apply blk_gw | with_reducible apply blk_alloc | with_reducible apply blk_set | ((with_reducible apply blk_other); focus omega))); (first | rfl | simp))
  have jV_2 : blk X4 BV #[.int .i64 v1, .int .i64 v2] 24 := by rw [hX4]; exact (by apply blk_of; (repeat (first | with_reducible exact jV_1 | with_reducible apply blk_drew | with_reducible apply blk_gw | with_reducible apply blk_alloc | with_reducible apply blk_set | ((with_reducible apply blk_other); focus omega))); (first | rfl | simp))
  have jX_1 : blk X4 BX #[.int .i64 x1, .int .i64 x2] 24 := by rw [hX4]; exact (by apply blk_of; (repeat (first | with_reducible exact jX | with_reducible apply blk_drew | with_reducible apply blk_gw | with_reducible apply blk_alloc | with_reducible apply blk_set | ((with_reducible apply blk_other); focus omega))); (first | rfl | simp))
  have jY : blk X4 (X3.heap.size + qa.os.size) #[.int .i64 y1, .int .i64 y2] 24 := by rw [hX4]; exact bBkn
  have n_B0_BY : B0 < X3.heap.size + qa.os.size := by have := blk_lt kA_3; omega
  have n_B1_BY : B1 < X3.heap.size + qa.os.size := by have := blk_lt kB_3; omega
  have n_B2_BY : B2 < X3.heap.size + qa.os.size := by have := blk_lt kC_3; omega
  have n_B3_BY : B3 < X3.heap.size + qa.os.size := by have := blk_lt kD_3; omega
  have n_B8_BY : B8 < X3.heap.size + qa.os.size := by have := blk_lt k8_3; omega
  have n_BU_BY : BU < X3.heap.size + qa.os.size := by have := blk_lt jU_2; omega
  have n_BV_BY : BV < X3.heap.size + qa.os.size := by have := blk_lt jV_1; omega
  have n_BX_BY : BX < X3.heap.size + qa.os.size := by have := blk_lt jX; omega
  have hbX4 : Below w.heap.size w X4 := by rw [hX4]; exact bBel
  have hzX4 := hbX4.size
  clear hX4
  clear okA_3 ckA_3_0 ckA_3_1 fkA_3_0 fkA_3_1 okB_3 ckB_3_0 ckB_3_1 fkB_3_0 fkB_3_1 okC_3 ckC_3_0 ckC_3_1 fkC_3_0 fkC_3_1 okD_3 ckD_3_0 ckD_3_1 fkD_3_0 fkD_3_1 ok8_3 ck8_3_0 ck8_3_1 ck8_3_2 ck8_3_3 fk8_3_0 fk8_3_1 fk8_3_2 fk8_3_3 ojU_2 cjU_2_0 cjU_2_1 fjU_2_0 fjU_2_1 ojV_1 cjV_1_0 cjV_1_1 fjV_1_0 fjV_1_1 ojX cjX_0 cjX_1 fjX_0 fjX_1
  clear kA_3 kB_3 kC_3 kD_3 k8_3 jU_2 jV_1 jX
  clear hzX3
  generalize X3.heap.size + qa.os.size = BY at *
  clear hbX3
  have okA_4 := blk_older kA_4
  have ckA_4_0 : _ = some _ := blk_cell kA_4 0
  have ckA_4_1 : _ = some _ := blk_cell kA_4 1
  have fkA_4_0 := blk_free kA_4 0
  have fkA_4_1 := blk_free kA_4 1
  have okB_4 := blk_older kB_4
  have ckB_4_0 : _ = some _ := blk_cell kB_4 0
  have ckB_4_1 : _ = some _ := blk_cell kB_4 1
  have fkB_4_0 := blk_free kB_4 0
  have fkB_4_1 := blk_free kB_4 1
  have okC_4 := blk_older kC_4
  have ckC_4_0 : _ = some _ := blk_cell kC_4 0
  have ckC_4_1 : _ = some _ := blk_cell kC_4 1
  have fkC_4_0 := blk_free kC_4 0
  have fkC_4_1 := blk_free kC_4 1
  have okD_4 := blk_older kD_4
  have ckD_4_0 : _ = some _ := blk_cell kD_4 0
  have ckD_4_1 : _ = some _ := blk_cell kD_4 1
  have fkD_4_0 := blk_free kD_4 0
  have fkD_4_1 := blk_free kD_4 1
  have ok8_4 := blk_older k8_4
  have ck8_4_0 : _ = some _ := blk_cell k8_4 0
  have ck8_4_1 : _ = some _ := blk_cell k8_4 1
  have ck8_4_2 : _ = some _ := blk_cell k8_4 2
  have ck8_4_3 : _ = some _ := blk_cell k8_4 3
  have fk8_4_0 := blk_free k8_4 0
  have fk8_4_1 := blk_free k8_4 1
  have fk8_4_2 := blk_free k8_4 2
  have fk8_4_3 := blk_free k8_4 3
  have ojU_3 := blk_older jU_3
  have cjU_3_0 : _ = some _ := blk_cell jU_3 0
  have cjU_3_1 : _ = some _ := blk_cell jU_3 1
  have fjU_3_0 := blk_free jU_3 0
  have fjU_3_1 := blk_free jU_3 1
  have ojV_2 := blk_older jV_2
  have cjV_2_0 : _ = some _ := blk_cell jV_2 0
  have cjV_2_1 : _ = some _ := blk_cell jV_2 1
  have fjV_2_0 := blk_free jV_2 0
  have fjV_2_1 := blk_free jV_2 1
  have ojX_1 := blk_older jX_1
  have cjX_1_0 : _ = some _ := blk_cell jX_1 0
  have cjX_1_1 : _ = some _ := blk_cell jX_1 1
  have fjX_1_0 := blk_free jX_1 0
  have fjX_1_1 := blk_free jX_1 1
  have ojY := blk_older jY
  have cjY_0 : _ = some _ := blk_cell jY 0
  have cjY_1 : _ = some _ := blk_cell jY 1
  have fjY_0 := blk_free jY 0
  have fjY_1 := blk_free jY 1
  go_upto_region 6 with fail
  refine wp_named ?_
  intro X5 hX5
  have kA_5 : blk X5 B0 #[.int .i64 a1, .int .i64 a2] 24 := by rw [hX5]; exact (by apply blk_of; (repeat (first | with_reducible exact kA_4 | with_reducible apply blk_drew | with_reducible apply blk_gw | with_reducible apply blk_alloc | with_reducible apply blk_set | ((with_reducible apply blk_other); focus omega))); (first | rfl | simp))
  have kB_5 : blk X5 B1 #[.int .i64 b1, .int .i64 b2] 24 := by rw [hX5]; exact (by apply blk_of; (repeat (first | with_reducible exact kB_4 | with_reducible apply blk_drew | with_reducible apply blk_gw | with_reducible apply blk_alloc | with_reducible apply blk_set | ((with_reducible apply blk_other); focus omega))); (first | rfl | simp))
  have kC_5 : blk X5 B2 #[.int .i64 c1, .int .i64 c2] 24 := by rw [hX5]; exact (by apply blk_of; (repeat (first | with_reducible exact kC_4 | with_reducible apply blk_drew | with_reducible apply blk_gw | with_reducible apply blk_alloc | with_reducible apply blk_set | ((with_reducible apply blk_other); focus omega))); (first | rfl | simp))
  have kD_5 : blk X5 B3 #[.int .i64 d1, .int .i64 d2] 24 := by rw [hX5]; exact (by apply blk_of; (repeat (first | with_reducible exact kD_4 | with_reducible apply blk_drew | with_reducible apply blk_gw | with_reducible apply blk_alloc | with_reducible apply blk_set | ((with_reducible apply blk_other); focus omega))); (first | rfl | simp))
  have k8_5 : blk X5 B8 #[.int .i64 0, .int .i64 0, .int .i64 0, .int .i64 0] 190 := by rw [hX5]; exact (by apply blk_of; (repeat (first | with_reducible exact k8_4 | with_reducible apply blk_drew | with_reducible apply blk_gw | with_reducible apply blk_alloc | with_reducible apply blk_set | ((with_reducible apply blk_other); focus omega))); (first | rfl | simp))
  have jU_4 : blk X5 BU #[.int .i64 u1, .int .i64 u2] 24 := by rw [hX5]; exact (by apply blk_of; (repeat (first | with_reducible exact jU_3 | with_reducible apply blk_drew | with_reducible apply blk_gw | with_reducible apply blk_alloc | with_reducible apply blk_set | ((with_reducible apply blk_other); focus omega))); (first | rfl | simp))
  have jV_3 : blk X5 BV #[.int .i64 v1, .int .i64 v2] 24 := by rw [hX5]; exact (by apply blk_of; (repeat (first | with_reducible exact jV_2 | with_reducible apply blk_drew | with_reducible apply blk_gw | with_reducible apply blk_alloc | with_reducible apply blk_set | ((with_reducible apply blk_other); focus omega))); (first | rfl | simp))
  have jX_2 : blk X5 BX #[.int .i64 x1, .int .i64 x2] 24 := by rw [hX5]; exact (by apply blk_of; (repeat (first | with_reducible exact jX_1 | with_reducible apply blk_drew | with_reducible apply blk_gw | with_reducible apply blk_alloc | with_reducible apply blk_set | ((with_reducible apply blk_other); focus omega))); (first | rfl | simp))
  have jY_1 : blk X5 BY #[.int .i64 y1, .int .i64 y2] 24 := by rw [hX5]; exact (by apply blk_of; (repeat (first | with_reducible exact jY | with_reducible apply blk_drew | with_reducible apply blk_gw | with_reducible apply blk_alloc | with_reducible apply blk_set | ((with_reducible apply blk_other); focus omega))); (first | rfl | simp))
  have jO : blk X5 (X4.heap.size) #[.int .i64 a1, .int .i64 a2, .int .i64 u1, .int .i64 u2] 190 := by rw [hX5]; exact bBkn
  have n_B0_BO : B0 < X4.heap.size := by have := blk_lt kA_4; omega
  have n_B1_BO : B1 < X4.heap.size := by have := blk_lt kB_4; omega
  have n_B2_BO : B2 < X4.heap.size := by have := blk_lt kC_4; omega
  have n_B3_BO : B3 < X4.heap.size := by have := blk_lt kD_4; omega
  have n_B8_BO : B8 < X4.heap.size := by have := blk_lt k8_4; omega
  have n_BU_BO : BU < X4.heap.size := by have := blk_lt jU_3; omega
  have n_BV_BO : BV < X4.heap.size := by have := blk_lt jV_2; omega
  have n_BX_BO : BX < X4.heap.size := by have := blk_lt jX_1; omega
  have n_BY_BO : BY < X4.heap.size := by have := blk_lt jY; omega
  have hbX5 : Below w.heap.size w X5 := by rw [hX5]; exact bBel
  have hzX5 := hbX5.size
  clear hX5
  clear okA_4 ckA_4_0 ckA_4_1 fkA_4_0 fkA_4_1 okB_4 ckB_4_0 ckB_4_1 fkB_4_0 fkB_4_1 okC_4 ckC_4_0 ckC_4_1 fkC_4_0 fkC_4_1 okD_4 ckD_4_0 ckD_4_1 fkD_4_0 fkD_4_1 ok8_4 ck8_4_0 ck8_4_1 ck8_4_2 ck8_4_3 fk8_4_0 fk8_4_1 fk8_4_2 fk8_4_3 ojU_3 cjU_3_0 cjU_3_1 fjU_3_0 fjU_3_1 ojV_2 cjV_2_0 cjV_2_1 fjV_2_0 fjV_2_1 ojX_1 cjX_1_0 cjX_1_1 fjX_1_0 fjX_1_1 ojY cjY_0 cjY_1 fjY_0 fjY_1
  clear kA_4 kB_4 kC_4 kD_4 k8_4 jU_3 jV_2 jX_1 jY
  clear hzX4
  generalize X4.heap.size = BO at *
  clear hbX4
  have okA_5 := blk_older kA_5
  have ckA_5_0 : _ = some _ := blk_cell kA_5 0
  have ckA_5_1 : _ = some _ := blk_cell kA_5 1
  have fkA_5_0 := blk_free kA_5 0
  have fkA_5_1 := blk_free kA_5 1
  have okB_5 := blk_older kB_5
  have ckB_5_0 : _ = some _ := blk_cell kB_5 0
  have ckB_5_1 : _ = some _ := blk_cell kB_5 1
  have fkB_5_0 := blk_free kB_5 0
  have fkB_5_1 := blk_free kB_5 1
  have okC_5 := blk_older kC_5
  have ckC_5_0 : _ = some _ := blk_cell kC_5 0
  have ckC_5_1 : _ = some _ := blk_cell kC_5 1
  have fkC_5_0 := blk_free kC_5 0
  have fkC_5_1 := blk_free kC_5 1
  have okD_5 := blk_older kD_5
  have ckD_5_0 : _ = some _ := blk_cell kD_5 0
  have ckD_5_1 : _ = some _ := blk_cell kD_5 1
  have fkD_5_0 := blk_free kD_5 0
  have fkD_5_1 := blk_free kD_5 1
  have ok8_5 := blk_older k8_5
  have ck8_5_0 : _ = some _ := blk_cell k8_5 0
  have ck8_5_1 : _ = some _ := blk_cell k8_5 1
  have ck8_5_2 : _ = some _ := blk_cell k8_5 2
  have ck8_5_3 : _ = some _ := blk_cell k8_5 3
  have fk8_5_0 := blk_free k8_5 0
  have fk8_5_1 := blk_free k8_5 1
  have fk8_5_2 := blk_free k8_5 2
  have fk8_5_3 := blk_free k8_5 3
  have ojU_4 := blk_older jU_4
  have cjU_4_0 : _ = some _ := blk_cell jU_4 0
  have cjU_4_1 : _ = some _ := blk_cell jU_4 1
  have fjU_4_0 := blk_free jU_4 0
  have fjU_4_1 := blk_free jU_4 1
  have ojV_3 := blk_older jV_3
  have cjV_3_0 : _ = some _ := blk_cell jV_3 0
  have cjV_3_1 : _ = some _ := blk_cell jV_3 1
  have fjV_3_0 := blk_free jV_3 0
  have fjV_3_1 := blk_free jV_3 1
  have ojX_2 := blk_older jX_2
  have cjX_2_0 : _ = some _ := blk_cell jX_2 0
  have cjX_2_1 : _ = some _ := blk_cell jX_2 1
  have fjX_2_0 := blk_free jX_2 0
  have fjX_2_1 := blk_free jX_2 1
  have ojY_1 := blk_older jY_1
  have cjY_1_0 : _ = some _ := blk_cell jY_1 0
  have cjY_1_1 : _ = some _ := blk_cell jY_1 1
  have fjY_1_0 := blk_free jY_1 0
  have fjY_1_1 := blk_free jY_1 1
  have ojO := blk_older jO
  have cjO_0 : _ = some _ := blk_cell jO 0
  have cjO_1 : _ = some _ := blk_cell jO 1
  have cjO_2 : _ = some _ := blk_cell jO 2
  have cjO_3 : _ = some _ := blk_cell jO 3
  have fjO_0 := blk_free jO 0
  have fjO_1 := blk_free jO 1
  have fjO_2 := blk_free jO 2
  have fjO_3 := blk_free jO 3
  go_wp2_with fail
  have jOz : blk X5 BO #[.int .i64 O1.px, .int .i64 O1.py, .int .i64 O1.qx, .int .i64 O1.qy] 190 := by rw [← hO1.out]; exact jO
  have k8z : blk X5 B8 #[.int .i64 0, .int .i64 0, .int .i64 0, .int .i64 0] 190 := k8_5
  have hbz := hbX5
  clear cU cV cX cY
  go_loopw [61] (fun i wr => ∃ k : Nat, k ≤ 3 ∧ i = .int .i64 k ∧ ∃ O : Pp, (k = 0 → O1 = O) ∧ (k = 1 → O2 = O) ∧ (k = 2 → O3 = O) ∧ (k = 3 → O4 = O) ∧ blk wr BO #[.int .i64 O.px, .int .i64 O.py, .int .i64 O.qx, .int .i64 O.qy] 190 ∧ blk wr B8 #[.int .i64 0, .int .i64 0, .int .i64 0, .int .i64 0] 190 ∧ Below w.heap.size w wr)
    (fun i _ => (3 - intOf i).toNat)
  case atStart => exact ⟨0, by omega, rfl, O1, fun _ => rfl, by omega, by omega, by omega, jOz, k8z, hbz⟩
  case round =>
    obtain ⟨k, hk, rfl, O, q0, q1, q2, q3, jo, j8, hbw⟩ := hrel
    have ojo := blk_older jo
    have cjo_0 : _ = some _ := blk_cell jo 0
    have cjo_1 : _ = some _ := blk_cell jo 1
    have cjo_2 : _ = some _ := blk_cell jo 2
    have cjo_3 : _ = some _ := blk_cell jo 3
    have fjo_0 := blk_free jo 0
    have fjo_1 := blk_free jo 1
    have fjo_2 := blk_free jo 2
    have fjo_3 := blk_free jo 3
    have oj8 := blk_older j8
    have cj8_0 : _ = some _ := blk_cell j8 0
    have cj8_1 : _ = some _ := blk_cell j8 1
    have cj8_2 : _ = some _ := blk_cell j8 2
    have cj8_3 : _ = some _ := blk_cell j8 3
    have fj8_0 := blk_free j8 0
    have fj8_1 := blk_free j8 1
    have fj8_2 := blk_free j8 2
    have fj8_3 := blk_free j8 3
    have hsz := hbw.size
    rcases (by omega : k = 0 ∨ k = 1 ∨ k = 2 ∨ k = 3) with rfl | rfl | rfl | rfl
    focus
      by_cases h : dist2 b1 b2 v1 v2 < dist2 O.px O.py O.qx O.qy
      focus
        have hb' := decide_eq_true h
        have hN : O2 = ⟨b1, b2, v1, v2⟩ := by rw [← hO2.out, q0 rfl]; exact if_pos h
        clear h
        go_upto_region 9 with fail
        refine wp_region_gw (by kernel_rfl) (by kernel_rfl) ?_
        repeat (go_big_quiet_step ((first | (go_at_call 257; exact gw_call (xcp_b _ _ _ _ _ _ _)) | (go_at_call 165; exact gw_call (dist2_b _ _ _ _ _)))))
        refine wpQuiet_nil ?_
        intro w1 hw1
        obtain ⟨q, rfl⟩ := hw1
        go_wp2_with fail
        refine ⟨⟨1, by omega, by go_num, O2, by omega, fun _ => rfl, by omega, by omega, ?_, (by apply blk_of; (repeat (first | with_reducible exact j8 | with_reducible apply blk_drew | with_reducible apply blk_gw | with_reducible apply blk_alloc | with_reducible apply blk_set | ((with_reducible apply blk_other); focus omega))); (first | rfl | simp)), bBel⟩, by (try go_num); simp [intOf]; (try omega)⟩
        rw [hN]; exact (by apply blk_of; (repeat (first | with_reducible exact jo | with_reducible apply blk_drew | with_reducible apply blk_gw | with_reducible apply blk_alloc | with_reducible apply blk_set | ((with_reducible apply blk_other); focus omega))); (first | rfl | simp))
      focus
        have hb' := decide_eq_false h
        have hN : O2 = O := by rw [← hO2.out, q0 rfl]; exact if_neg h
        clear h
        go_upto_region 9 with fail
        refine wp_region_gw (by kernel_rfl) (by kernel_rfl) ?_
        repeat (go_big_quiet_step ((first | (go_at_call 257; exact gw_call (xcp_b _ _ _ _ _ _ _)) | (go_at_call 165; exact gw_call (dist2_b _ _ _ _ _)))))
        refine wpQuiet_nil ?_
        intro w1 hw1
        obtain ⟨q, rfl⟩ := hw1
        go_wp2_with fail
        refine ⟨⟨1, by omega, by go_num, O2, by omega, fun _ => rfl, by omega, by omega, ?_, (by apply blk_of; (repeat (first | with_reducible exact j8 | with_reducible apply blk_drew | with_reducible apply blk_gw | with_reducible apply blk_alloc | with_reducible apply blk_set | ((with_reducible apply blk_other); focus omega))); (first | rfl | simp)), bBel⟩, by (try go_num); simp [intOf]; (try omega)⟩
        rw [hN]; exact (by apply blk_of; (repeat (first | with_reducible exact jo | with_reducible apply blk_drew | with_reducible apply blk_gw | with_reducible apply blk_alloc | with_reducible apply blk_set | ((with_reducible apply blk_other); focus omega))); (first | rfl | simp))
    focus
      by_cases h : dist2 x1 x2 c1 c2 < dist2 O.px O.py O.qx O.qy
      focus
        have hb' := decide_eq_true h
        have hN : O3 = ⟨x1, x2, c1, c2⟩ := by rw [← hO3.out, q1 rfl]; exact if_pos h
        clear h
        go_upto_region 9 with fail
        refine wp_region_gw (by kernel_rfl) (by kernel_rfl) ?_
        repeat (go_big_quiet_step ((first | (go_at_call 257; exact gw_call (xcp_b _ _ _ _ _ _ _)) | (go_at_call 165; exact gw_call (dist2_b _ _ _ _ _)))))
        refine wpQuiet_nil ?_
        intro w1 hw1
        obtain ⟨q, rfl⟩ := hw1
        go_wp2_with fail
        refine ⟨⟨2, by omega, by go_num, O3, by omega, by omega, fun _ => rfl, by omega, ?_, (by apply blk_of; (repeat (first | with_reducible exact j8 | with_reducible apply blk_drew | with_reducible apply blk_gw | with_reducible apply blk_alloc | with_reducible apply blk_set | ((with_reducible apply blk_other); focus omega))); (first | rfl | simp)), bBel⟩, by (try go_num); simp [intOf]; (try omega)⟩
        rw [hN]; exact (by apply blk_of; (repeat (first | with_reducible exact jo | with_reducible apply blk_drew | with_reducible apply blk_gw | with_reducible apply blk_alloc | with_reducible apply blk_set | ((with_reducible apply blk_other); focus omega))); (first | rfl | simp))
      focus
        have hb' := decide_eq_false h
        have hN : O3 = O := by rw [← hO3.out, q1 rfl]; exact if_neg h
        clear h
        go_upto_region 9 with fail
        refine wp_region_gw (by kernel_rfl) (by kernel_rfl) ?_
        repeat (go_big_quiet_step ((first | (go_at_call 257; exact gw_call (xcp_b _ _ _ _ _ _ _)) | (go_at_call 165; exact gw_call (dist2_b _ _ _ _ _)))))
        refine wpQuiet_nil ?_
        intro w1 hw1
        obtain ⟨q, rfl⟩ := hw1
        go_wp2_with fail
        refine ⟨⟨2, by omega, by go_num, O3, by omega, by omega, fun _ => rfl, by omega, ?_, (by apply blk_of; (repeat (first | with_reducible exact j8 | with_reducible apply blk_drew | with_reducible apply blk_gw | with_reducible apply blk_alloc | with_reducible apply blk_set | ((with_reducible apply blk_other); focus omega))); (first | rfl | simp)), bBel⟩, by (try go_num); simp [intOf]; (try omega)⟩
        rw [hN]; exact (by apply blk_of; (repeat (first | with_reducible exact jo | with_reducible apply blk_drew | with_reducible apply blk_gw | with_reducible apply blk_alloc | with_reducible apply blk_set | ((with_reducible apply blk_other); focus omega))); (first | rfl | simp))
    focus
      by_cases h : dist2 y1 y2 d1 d2 < dist2 O.px O.py O.qx O.qy
      focus
        have hb' := decide_eq_true h
        have hN : O4 = ⟨y1, y2, d1, d2⟩ := by rw [← hO4.out, q2 rfl]; exact if_pos h
        clear h
        go_upto_region 9 with fail
        refine wp_region_gw (by kernel_rfl) (by kernel_rfl) ?_
        repeat (go_big_quiet_step ((first | (go_at_call 257; exact gw_call (xcp_b _ _ _ _ _ _ _)) | (go_at_call 165; exact gw_call (dist2_b _ _ _ _ _)))))
        refine wpQuiet_nil ?_
        intro w1 hw1
        obtain ⟨q, rfl⟩ := hw1
        go_wp2_with fail
        refine ⟨⟨3, by omega, by go_num, O4, by omega, by omega, by omega, fun _ => rfl, ?_, (by apply blk_of; (repeat (first | with_reducible exact j8 | with_reducible apply blk_drew | with_reducible apply blk_gw | with_reducible apply blk_alloc | with_reducible apply blk_set | ((with_reducible apply blk_other); focus omega))); (first | rfl | simp)), bBel⟩, by (try go_num); simp [intOf]; (try omega)⟩
        rw [hN]; exact (by apply blk_of; (repeat (first | with_reducible exact jo | with_reducible apply blk_drew | with_reducible apply blk_gw | with_reducible apply blk_alloc | with_reducible apply blk_set | ((with_reducible apply blk_other); focus omega))); (first | rfl | simp))
      focus
        have hb' := decide_eq_false h
        have hN : O4 = O := by rw [← hO4.out, q2 rfl]; exact if_neg h
        clear h
        go_upto_region 9 with fail
        refine wp_region_gw (by kernel_rfl) (by kernel_rfl) ?_
        repeat (go_big_quiet_step ((first | (go_at_call 257; exact gw_call (xcp_b _ _ _ _ _ _ _)) | (go_at_call 165; exact gw_call (dist2_b _ _ _ _ _)))))
        refine wpQuiet_nil ?_
        intro w1 hw1
        obtain ⟨q, rfl⟩ := hw1
        go_wp2_with fail
        refine ⟨⟨3, by omega, by go_num, O4, by omega, by omega, by omega, fun _ => rfl, ?_, (by apply blk_of; (repeat (first | with_reducible exact j8 | with_reducible apply blk_drew | with_reducible apply blk_gw | with_reducible apply blk_alloc | with_reducible apply blk_set | ((with_reducible apply blk_other); focus omega))); (first | rfl | simp)), bBel⟩, by (try go_num); simp [intOf]; (try omega)⟩
        rw [hN]; exact (by apply blk_of; (repeat (first | with_reducible exact jo | with_reducible apply blk_drew | with_reducible apply blk_gw | with_reducible apply blk_alloc | with_reducible apply blk_set | ((with_reducible apply blk_other); focus omega))); (first | rfl | simp))
    focus
      obtain rfl := q3 rfl
      go_wp2_with fail
      refine post_named ?_
      intro Z hZ
      have z8 : blk Z B8 #[.int .i64 O4.px, .int .i64 O4.py, .int .i64 O4.qx, .int .i64 O4.qy] 190 := by rw [hZ]; exact (by apply blk_of; (repeat (first | with_reducible exact j8 | with_reducible apply blk_drew | with_reducible apply blk_gw | with_reducible apply blk_alloc | with_reducible apply blk_set | ((with_reducible apply blk_other); focus omega))); (first | rfl | simp))
      have hbZ : Below w.heap.size w Z := by rw [hZ]; exact bBel
      clear hZ
      have oz8 := blk_older z8
      have cz8_0 : _ = some _ := blk_cell z8 0
      have cz8_1 : _ = some _ := blk_cell z8 1
      have cz8_2 : _ = some _ := blk_cell z8 2
      have cz8_3 : _ = some _ := blk_cell z8 3
      have fz8_0 := blk_free z8 0
      have fz8_1 := blk_free z8 1
      have fz8_2 := blk_free z8 2
      have fz8_3 := blk_free z8 3
      exact bodyPost_ret (v := .agg #[.int .i64 O4.px, .int .i64 O4.py, .int .i64 O4.qx, .int .i64 O4.qy]) (by simp [results, Tryz.results218, go_sem, cz8_0, cz8_1, cz8_2, cz8_3]) rfl ⟨rfl, hB0 ▸ hbZ⟩

end Go.Proofs.YtdmcdicphohlfaaGreat

set_option linter.unusedVariables false
namespace Go.Proofs.YtdmcdicphohlfaaGreat
open Go.RowKit Fx

set_option maxHeartbeats 8000000 in
theorem xcps1_b (a1 a2 b1 b2 c1 c2 d1 d2 : Int) (ax ay bx b_y cx cy dx dy : Int) (ha1 : sat ax = a1) (ha2 : sat ay = a2) (hb1 : sat bx = b1) (hb2 : sat b_y = b2) (hc1 : sat cx = c1) (hc2 : sat cy = c2) (hd1 : sat dx = d1) (hd2 : sat dy = d2) (hI : isct a1 a2 b1 b2 c1 c2 d1 d2 = true) (w : World) : Calls Tryz.prog 166 #[.agg #[.int .i64 ax, .int .i64 ay], .agg #[.int .i64 bx, .int .i64 b_y], .agg #[.int .i64 cx, .int .i64 cy], .agg #[.int .i64 dx, .int .i64 dy]] w fun e w' => e = .returned (.tuple #[.agg #[.int .i64 (cps a1 a2 b1 b2 c1 c2 d1 d2).px, .int .i64 (cps a1 a2 b1 b2 c1 c2 d1 d2).py], .agg #[.int .i64 (cps a1 a2 b1 b2 c1 c2 d1 d2).qx, .int .i64 (cps a1 a2 b1 b2 c1 c2 d1 d2).qy]]) ∧ Below w.heap.size w w' := by
  have ga1 : -536870911 ≤ a1 ∧ a1 ≤ 536870911 := ha1 ▸ ⟨sat_ge _, sat_le _⟩
  have ga2 : -536870911 ≤ a2 ∧ a2 ≤ 536870911 := ha2 ▸ ⟨sat_ge _, sat_le _⟩
  have gb1 : -536870911 ≤ b1 ∧ b1 ≤ 536870911 := hb1 ▸ ⟨sat_ge _, sat_le _⟩
  have gb2 : -536870911 ≤ b2 ∧ b2 ≤ 536870911 := hb2 ▸ ⟨sat_ge _, sat_le _⟩
  have gc1 : -536870911 ≤ c1 ∧ c1 ≤ 536870911 := hc1 ▸ ⟨sat_ge _, sat_le _⟩
  have gc2 : -536870911 ≤ c2 ∧ c2 ≤ 536870911 := hc2 ▸ ⟨sat_ge _, sat_le _⟩
  have gd1 : -536870911 ≤ d1 ∧ d1 ≤ 536870911 := hd1 ▸ ⟨sat_ge _, sat_le _⟩
  have gd2 : -536870911 ≤ d2 ∧ d2 ≤ 536870911 := hd2 ▸ ⟨sat_ge _, sat_le _⟩
  have hC : cps a1 a2 b1 b2 c1 c2 d1 d2 = ⟨lerp a1 b1 (sgt a1 a2 b1 b2 c1 c2 d1 d2), lerp a2 b2 (sgt a1 a2 b1 b2 c1 c2 d1 d2), lerp a1 b1 (sgt a1 a2 b1 b2 c1 c2 d1 d2), lerp a2 b2 (sgt a1 a2 b1 b2 c1 c2 d1 d2)⟩ := if_pos hI
  rw [hC]
  dsimp only
  have cI := fun w' => xisct_b a1 a2 b1 b2 c1 c2 d1 d2 w'
  rw [hI] at cI
  have cR := fun w' => xscr_b a1 a2 b1 b2 c1 c2 d1 d2 ga1 ga2 gb1 gb2 gc1 gc2 gd1 gd2 w'
  generalize sgt a1 a2 b1 b2 c1 c2 d1 d2 = t at *
  clear hC hI ga1 ga2 gb1 gb2 gc1 gc2 gd1 gd2
  generalize hP1 : lerp a1 b1 t = p1 at *
  generalize hP2 : lerp a2 b2 t = p2 at *
  clear hP1 hP2
  go_enter Tryz.func166, Tryz.ntmps166
  go_upto_region 1 with fail
  refine wp_region_gw_tail 8 (by kernel_rfl) (by kernel_rfl) ?_
  simp only [List.take_succ_cons, List.take_zero, List.drop_succ_cons, List.drop_zero]
  repeat (go_big_quiet_step ((first | (go_at_call 215; exact gw_call (xsgsat_b _ _ _)) | (go_at_call 216; (first | (exact gw_call (boolIs (xisct_b _ _ _ _ _ _ _ _ _) (b := true) (by assumption))) | (exact gw_call (boolIs (xisct_b _ _ _ _ _ _ _ _ _) (b := false) (by assumption))) | (exact gw_call (xisct_b _ _ _ _ _ _ _ _ _)))) | (go_at_call 217; exact gw_call (xscr_b _ _ _ _ _ _ _ _ (by with_reducible assumption) (by with_reducible assumption) (by with_reducible assumption) (by with_reducible assumption) (by with_reducible assumption) (by with_reducible assumption) (by with_reducible assumption) (by with_reducible assumption) _)))))
  refine wpQuiet_nil ?_
  intro w1 hw1
  obtain ⟨q, rfl⟩ := hw1
  go_upto_region 4 with (first
    | (go_at_call 216; refine Calls.mono (gw_at (cI _)) ?_; rintro e w1 ⟨rfl, qi, rfl⟩)
    | (go_at_call 217; refine Calls.mono (gw_at (cR _)) ?_; rintro e w1 ⟨rfl, qc, rfl⟩))
  refine wp_named ?_
  intro W hW
  have hbW : Below w.heap.size w W := by rw [hW]; exact bBel
  have kP : blk W (w.heap.size + 1 + 1 + 1 + 1 + 1 + 1 + q.os.size + qi.os.size + qc.os.size) #[.int .i64 p1, .int .i64 p2] 24 := by rw [hW]; exact bBkn
  have k8 : blk W (w.heap.size + 1 + 1 + 1 + 1) #[.int .i64 0, .int .i64 0] 24 := by rw [hW]; exact bBkn
  have k9 : blk W (w.heap.size + 1 + 1 + 1 + 1 + 1) #[.int .i64 0, .int .i64 0] 24 := by rw [hW]; exact bBkn
  clear hW
  have hszW := hbW.size
  have h08 : w.heap.size ≤ w.heap.size + 1 + 1 + 1 + 1 := by omega
  have h89 : w.heap.size + 1 + 1 + 1 + 1 < w.heap.size + 1 + 1 + 1 + 1 + 1 := by omega
  have h09 : w.heap.size ≤ w.heap.size + 1 + 1 + 1 + 1 + 1 := by omega
  have h9P : w.heap.size + 1 + 1 + 1 + 1 + 1 < w.heap.size + 1 + 1 + 1 + 1 + 1 + 1 + q.os.size + qi.os.size + qc.os.size := by omega
  generalize w.heap.size + 1 + 1 + 1 + 1 + 1 + 1 + q.os.size + qi.os.size + qc.os.size = bP at *
  generalize w.heap.size + 1 + 1 + 1 + 1 + 1 = B9 at *
  generalize w.heap.size + 1 + 1 + 1 + 1 = B8 at *
  have okP := blk_older kP
  have ckP_0 : _ = some _ := blk_cell kP 0
  have ckP_1 : _ = some _ := blk_cell kP 1
  have fkP_0 := blk_free kP 0
  have fkP_1 := blk_free kP 1
  have ok8 := blk_older k8
  have ck8_0 : _ = some _ := blk_cell k8 0
  have ck8_1 : _ = some _ := blk_cell k8 1
  have fk8_0 := blk_free k8 0
  have fk8_1 := blk_free k8 1
  have ok9 := blk_older k9
  have ck9_0 : _ = some _ := blk_cell k9 0
  have ck9_1 : _ = some _ := blk_cell k9 1
  have fk9_0 := blk_free k9 0
  have fk9_1 := blk_free k9 1
  have m8 : blk ((W.setCell ⟨B8, 0, none⟩ (.int .i64 p1)).setCell ⟨B8, 1, none⟩ (.int .i64 p2)) B8 #[.int .i64 p1, .int .i64 p2] 24 := (by apply blk_of; (repeat (first | with_reducible exact k8 | with_reducible apply blk_drew | with_reducible apply blk_gw | with_reducible apply blk_alloc | with_reducible apply blk_set | ((with_reducible apply blk_other); focus omega))); (first | rfl | simp))
  have mP : blk ((W.setCell ⟨B8, 0, none⟩ (.int .i64 p1)).setCell ⟨B8, 1, none⟩ (.int .i64 p2)) bP #[.int .i64 p1, .int .i64 p2] 24 := (by apply blk_of; (repeat (first | with_reducible exact kP | with_reducible apply blk_drew | with_reducible apply blk_gw | with_reducible apply blk_alloc | with_reducible apply blk_set | ((with_reducible apply blk_other); focus omega))); (first | rfl | simp))
  have m9 : blk ((W.setCell ⟨B8, 0, none⟩ (.int .i64 p1)).setCell ⟨B8, 1, none⟩ (.int .i64 p2)) B9 #[.int .i64 0, .int .i64 0] 24 := (by apply blk_of; (repeat (first | with_reducible exact k9 | with_reducible apply blk_drew | with_reducible apply blk_gw | with_reducible apply blk_alloc | with_reducible apply blk_set | ((with_reducible apply blk_other); focus omega))); (first | rfl | simp))
  have omP := blk_older mP
  have cmP_0 : _ = some _ := blk_cell mP 0
  have cmP_1 : _ = some _ := blk_cell mP 1
  have fmP_0 := blk_free mP 0
  have fmP_1 := blk_free mP 1
  have om9 := blk_older m9
  have cm9_0 : _ = some _ := blk_cell m9 0
  have cm9_1 : _ = some _ := blk_cell m9 1
  have fm9_0 := blk_free m9 0
  have fm9_1 := blk_free m9 1
  go_region
  go_wp2_with fail
  refine post_named ?_
  intro Z hZ
  have z8 : blk Z B8 #[.int .i64 p1, .int .i64 p2] 24 := by rw [hZ]; exact (by apply blk_of; (repeat (first | with_reducible exact m8 | with_reducible apply blk_drew | with_reducible apply blk_gw | with_reducible apply blk_alloc | with_reducible apply blk_set | ((with_reducible apply blk_other); focus omega))); (first | rfl | simp))
  have z9 : blk Z B9 #[.int .i64 p1, .int .i64 p2] 24 := by rw [hZ]; exact (by apply blk_of; (repeat (first | with_reducible exact m9 | with_reducible apply blk_drew | with_reducible apply blk_gw | with_reducible apply blk_alloc | with_reducible apply blk_set | ((with_reducible apply blk_other); focus omega))); (first | rfl | simp))
  have hbZ : Below w.heap.size w Z := by rw [hZ]; exact bBel
  clear hZ
  have oz8 := blk_older z8
  have cz8_0 : _ = some _ := blk_cell z8 0
  have cz8_1 : _ = some _ := blk_cell z8 1
  have fz8_0 := blk_free z8 0
  have fz8_1 := blk_free z8 1
  have oz9 := blk_older z9
  have cz9_0 : _ = some _ := blk_cell z9 0
  have cz9_1 : _ = some _ := blk_cell z9 1
  have fz9_0 := blk_free z9 0
  have fz9_1 := blk_free z9 1
  exact bodyPost_ret (v := .tuple #[.agg #[.int .i64 p1, .int .i64 p2], .agg #[.int .i64 p1, .int .i64 p2]]) (by simp [results, Tryz.results166, go_sem, cz8_0, cz8_1, cz9_0, cz9_1]) rfl ⟨rfl, hbZ⟩

set_option maxRecDepth 100000 in
set_option maxHeartbeats 8000000 in
theorem xcps0_b (a1 a2 b1 b2 c1 c2 d1 d2 : Int) (ax ay bx b_y cx cy dx dy : Int) (ha1 : sat ax = a1) (ha2 : sat ay = a2) (hb1 : sat bx = b1) (hb2 : sat b_y = b2) (hc1 : sat cx = c1) (hc2 : sat cy = c2) (hd1 : sat dx = d1) (hd2 : sat dy = d2) (hI : isct a1 a2 b1 b2 c1 c2 d1 d2 = false) (w : World) : Calls Tryz.prog 166 #[.agg #[.int .i64 ax, .int .i64 ay], .agg #[.int .i64 bx, .int .i64 b_y], .agg #[.int .i64 cx, .int .i64 cy], .agg #[.int .i64 dx, .int .i64 dy]] w fun e w' => e = .returned (.tuple #[.agg #[.int .i64 (cps a1 a2 b1 b2 c1 c2 d1 d2).px, .int .i64 (cps a1 a2 b1 b2 c1 c2 d1 d2).py], .agg #[.int .i64 (cps a1 a2 b1 b2 c1 c2 d1 d2).qx, .int .i64 (cps a1 a2 b1 b2 c1 c2 d1 d2).qy]]) ∧ Below w.heap.size w w' := by
  have sa1 : sat a1 = a1 := by rw [← ha1, sat_sat]
  have sa2 : sat a2 = a2 := by rw [← ha2, sat_sat]
  have sb1 : sat b1 = b1 := by rw [← hb1, sat_sat]
  have sb2 : sat b2 = b2 := by rw [← hb2, sat_sat]
  have sc1 : sat c1 = c1 := by rw [← hc1, sat_sat]
  have sc2 : sat c2 = c2 := by rw [← hc2, sat_sat]
  have sd1 : sat d1 = d1 := by rw [← hd1, sat_sat]
  have sd2 : sat d2 = d2 := by rw [← hd2, sat_sat]
  obtain ⟨u1, hu1⟩ : ∃ v, cpc (cpt c1 c2 d1 d2 a1 a2) c1 d1 = v := ⟨_, rfl⟩
  obtain ⟨u2, hu2⟩ : ∃ v, cpc (cpt c1 c2 d1 d2 a1 a2) c2 d2 = v := ⟨_, rfl⟩
  obtain ⟨v1, hv1⟩ : ∃ v, cpc (cpt c1 c2 d1 d2 b1 b2) c1 d1 = v := ⟨_, rfl⟩
  obtain ⟨v2, hv2⟩ : ∃ v, cpc (cpt c1 c2 d1 d2 b1 b2) c2 d2 = v := ⟨_, rfl⟩
  obtain ⟨x1, hx1⟩ : ∃ v, cpc (cpt a1 a2 b1 b2 c1 c2) a1 b1 = v := ⟨_, rfl⟩
  obtain ⟨x2, hx2⟩ : ∃ v, cpc (cpt a1 a2 b1 b2 c1 c2) a2 b2 = v := ⟨_, rfl⟩
  obtain ⟨y1, hy1⟩ : ∃ v, cpc (cpt a1 a2 b1 b2 d1 d2) a1 b1 = v := ⟨_, rfl⟩
  obtain ⟨y2, hy2⟩ : ∃ v, cpc (cpt a1 a2 b1 b2 d1 d2) a2 b2 = v := ⟨_, rfl⟩
  have hC : cps a1 a2 b1 b2 c1 c2 d1 d2 = (((Pp.mk a1 a2 u1 u2).pick ⟨b1, b2, v1, v2⟩).pick ⟨x1, x2, c1, c2⟩).pick ⟨y1, y2, d1, d2⟩ := by
    unfold cps
    rw [hI, if_neg (by simp)]
    unfold best cand1 cand2 cand3 cand4
    rw [sa1, sa2, sb1, sb2, sc1, sc2, sd1, sd2, hu1, hu2, hv1, hv2, hx1, hx2, hy1, hy2]
  rw [hC]
  generalize hO1 : Pp.mk a1 a2 u1 u2 = O1
  generalize hO2 : O1.pick ⟨b1, b2, v1, v2⟩ = O2
  generalize hO3 : O2.pick ⟨x1, x2, c1, c2⟩ = O3
  generalize hO4 : O3.pick ⟨y1, y2, d1, d2⟩ = O4
  clear hC sa1 sa2 sb1 sb2 sc1 sc2 sd1 sd2
  have cI := fun w' => xisct_b a1 a2 b1 b2 c1 c2 d1 d2 w'
  rw [hI] at cI
  have cC := fun w' => xscc_b a1 a2 b1 b2 c1 c2 d1 d2 u1 u2 v1 v2 x1 x2 y1 y2 O1 O2 O3 O4 hu1 hu2 hv1 hv2 hx1 hx2 hy1 hy2 hO1 hO2 hO3 hO4 w'
  clear hI hu1 hu2 hv1 hv2 hx1 hx2 hy1 hy2 hO1 hO2 hO3 hO4
  obtain ⟨p1, p2, q1, q2⟩ := O4
  dsimp only at cC ⊢
  go_enter Tryz.func166, Tryz.ntmps166
  go_upto_region 1 with fail
  refine wp_region_gw_tail 8 (by kernel_rfl) (by kernel_rfl) ?_
  simp only [List.take_succ_cons, List.take_zero, List.drop_succ_cons, List.drop_zero]
  repeat (go_big_quiet_step ((first | (go_at_call 215; exact gw_call (xsgsat_b _ _ _)) | (go_at_call 216; (first | (exact gw_call (boolIs (xisct_b _ _ _ _ _ _ _ _ _) (b := true) (by assumption))) | (exact gw_call (boolIs (xisct_b _ _ _ _ _ _ _ _ _) (b := false) (by assumption))) | (exact gw_call (xisct_b _ _ _ _ _ _ _ _ _)))) | (go_at_call 217; exact gw_call (xscr_b _ _ _ _ _ _ _ _ (by with_reducible assumption) (by with_reducible assumption) (by with_reducible assumption) (by with_reducible assumption) (by with_reducible assumption) (by with_reducible assumption) (by with_reducible assumption) (by with_reducible assumption) _)))))
  refine wpQuiet_nil ?_
  intro w1 hw1
  obtain ⟨q, rfl⟩ := hw1
  go_upto_region 6 with (first
    | (go_at_call 216; refine Calls.mono (gw_at (cI _)) ?_; rintro e w1 ⟨rfl, qi, rfl⟩)
    | (go_at_call 218; refine Calls.mono (gw_at (cC _)) ?_; rintro e w1 ⟨rfl, qc, rfl⟩))
  refine wp_named ?_
  intro W hW
  have hbW : Below w.heap.size w W := by rw [hW]; exact bBel
  have kP : blk W (w.heap.size + 1 + 1 + 1 + 1 + 1 + 1 + q.os.size + qi.os.size + qc.os.size) #[.int .i64 p1, .int .i64 p2, .int .i64 q1, .int .i64 q2] 190 := by rw [hW]; exact bBkn
  have k8 : blk W (w.heap.size + 1 + 1 + 1 + 1) #[.int .i64 0, .int .i64 0] 24 := by rw [hW]; exact bBkn
  have k9 : blk W (w.heap.size + 1 + 1 + 1 + 1 + 1) #[.int .i64 0, .int .i64 0] 24 := by rw [hW]; exact bBkn
  clear hW
  have hszW := hbW.size
  have h08 : w.heap.size ≤ w.heap.size + 1 + 1 + 1 + 1 := by omega
  have h89 : w.heap.size + 1 + 1 + 1 + 1 < w.heap.size + 1 + 1 + 1 + 1 + 1 := by omega
  have h09 : w.heap.size ≤ w.heap.size + 1 + 1 + 1 + 1 + 1 := by omega
  have h9P : w.heap.size + 1 + 1 + 1 + 1 + 1 < w.heap.size + 1 + 1 + 1 + 1 + 1 + 1 + q.os.size + qi.os.size + qc.os.size := by omega
  generalize w.heap.size + 1 + 1 + 1 + 1 + 1 + 1 + q.os.size + qi.os.size + qc.os.size = bP at *
  generalize w.heap.size + 1 + 1 + 1 + 1 + 1 = B9 at *
  generalize w.heap.size + 1 + 1 + 1 + 1 = B8 at *
  have okP := blk_older kP
  have ckP_0 : _ = some _ := blk_cell kP 0
  have ckP_1 : _ = some _ := blk_cell kP 1
  have ckP_2 : _ = some _ := blk_cell kP 2
  have ckP_3 : _ = some _ := blk_cell kP 3
  have fkP_0 := blk_free kP 0
  have fkP_1 := blk_free kP 1
  have fkP_2 := blk_free kP 2
  have fkP_3 := blk_free kP 3
  have ok8 := blk_older k8
  have ck8_0 : _ = some _ := blk_cell k8 0
  have ck8_1 : _ = some _ := blk_cell k8 1
  have fk8_0 := blk_free k8 0
  have fk8_1 := blk_free k8 1
  have ok9 := blk_older k9
  have ck9_0 : _ = some _ := blk_cell k9 0
  have ck9_1 : _ = some _ := blk_cell k9 1
  have fk9_0 := blk_free k9 0
  have fk9_1 := blk_free k9 1
  have m8 : blk ((W.setCell ⟨B8, 0, none⟩ (.int .i64 p1)).setCell ⟨B8, 1, none⟩ (.int .i64 p2)) B8 #[.int .i64 p1, .int .i64 p2] 24 := (by apply blk_of; (repeat (first | with_reducible exact k8 | with_reducible apply blk_drew | with_reducible apply blk_gw | with_reducible apply blk_alloc | with_reducible apply blk_set | ((with_reducible apply blk_other); focus omega))); (first | rfl | simp))
  have mP : blk ((W.setCell ⟨B8, 0, none⟩ (.int .i64 p1)).setCell ⟨B8, 1, none⟩ (.int .i64 p2)) bP #[.int .i64 p1, .int .i64 p2, .int .i64 q1, .int .i64 q2] 190 := (by apply blk_of; (repeat (first | with_reducible exact kP | with_reducible apply blk_drew | with_reducible apply blk_gw | with_reducible apply blk_alloc | with_reducible apply blk_set | ((with_reducible apply blk_other); focus omega))); (first | rfl | simp))
  have m9 : blk ((W.setCell ⟨B8, 0, none⟩ (.int .i64 p1)).setCell ⟨B8, 1, none⟩ (.int .i64 p2)) B9 #[.int .i64 0, .int .i64 0] 24 := (by apply blk_of; (repeat (first | with_reducible exact k9 | with_reducible apply blk_drew | with_reducible apply blk_gw | with_reducible apply blk_alloc | with_reducible apply blk_set | ((with_reducible apply blk_other); focus omega))); (first | rfl | simp))
  have omP := blk_older mP
  have cmP_0 : _ = some _ := blk_cell mP 0
  have cmP_1 : _ = some _ := blk_cell mP 1
  have cmP_2 : _ = some _ := blk_cell mP 2
  have cmP_3 : _ = some _ := blk_cell mP 3
  have fmP_0 := blk_free mP 0
  have fmP_1 := blk_free mP 1
  have fmP_2 := blk_free mP 2
  have fmP_3 := blk_free mP 3
  have om9 := blk_older m9
  have cm9_0 : _ = some _ := blk_cell m9 0
  have cm9_1 : _ = some _ := blk_cell m9 1
  have fm9_0 := blk_free m9 0
  have fm9_1 := blk_free m9 1
  go_region
  go_wp2_with fail
  refine post_named ?_
  intro Z hZ
  have z8 : blk Z B8 #[.int .i64 p1, .int .i64 p2] 24 := by rw [hZ]; exact (by apply blk_of; (repeat (first | with_reducible exact m8 | with_reducible apply blk_drew | with_reducible apply blk_gw | with_reducible apply blk_alloc | with_reducible apply blk_set | ((with_reducible apply blk_other); focus omega))); (first | rfl | simp))
  have z9 : blk Z B9 #[.int .i64 q1, .int .i64 q2] 24 := by rw [hZ]; exact (by apply blk_of; (repeat (first | with_reducible exact m9 | with_reducible apply blk_drew | with_reducible apply blk_gw | with_reducible apply blk_alloc | with_reducible apply blk_set | ((with_reducible apply blk_other); focus omega))); (first | rfl | simp))
  have hbZ : Below w.heap.size w Z := by rw [hZ]; exact bBel
  clear hZ
  have oz8 := blk_older z8
  have cz8_0 : _ = some _ := blk_cell z8 0
  have cz8_1 : _ = some _ := blk_cell z8 1
  have fz8_0 := blk_free z8 0
  have fz8_1 := blk_free z8 1
  have oz9 := blk_older z9
  have cz9_0 : _ = some _ := blk_cell z9 0
  have cz9_1 : _ = some _ := blk_cell z9 1
  have fz9_0 := blk_free z9 0
  have fz9_1 := blk_free z9 1
  exact bodyPost_ret (v := .tuple #[.agg #[.int .i64 p1, .int .i64 p2], .agg #[.int .i64 q1, .int .i64 q2]]) (by simp [results, Tryz.results166, go_sem, cz8_0, cz8_1, cz9_0, cz9_1]) rfl ⟨rfl, hbZ⟩

theorem xcps_b (ax ay bx b_y cx cy dx dy : Int) (w : World) : Calls Tryz.prog 166 #[.agg #[.int .i64 ax, .int .i64 ay], .agg #[.int .i64 bx, .int .i64 b_y], .agg #[.int .i64 cx, .int .i64 cy], .agg #[.int .i64 dx, .int .i64 dy]] w fun e w' => e = .returned (.tuple #[.agg #[.int .i64 (cps ax ay bx b_y cx cy dx dy).px, .int .i64 (cps ax ay bx b_y cx cy dx dy).py], .agg #[.int .i64 (cps ax ay bx b_y cx cy dx dy).qx, .int .i64 (cps ax ay bx b_y cx cy dx dy).qy]]) ∧ Below w.heap.size w w' := by
  have e := cps_ss ax ay bx b_y cx cy dx dy
  have i := isct_ss ax ay bx b_y cx cy dx dy
  cases h : isct ax ay bx b_y cx cy dx dy
  · have := xcps0_b (sat ax) (sat ay) (sat bx) (sat b_y) (sat cx) (sat cy) (sat dx) (sat dy) ax ay bx b_y cx cy dx dy rfl rfl rfl rfl rfl rfl rfl rfl (i.trans h) w
    rw [e] at this; exact this
  · have := xcps1_b (sat ax) (sat ay) (sat bx) (sat b_y) (sat cx) (sat cy) (sat dx) (sat dy) ax ay bx b_y cx cy dx dy rfl rfl rfl rfl rfl rfl rfl rfl (i.trans h) w
    rw [e] at this; exact this

theorem xsdist_b (ax ay bx b_y cx cy dx dy : Int) (w : World) : Calls Tryz.prog 98 #[.agg #[.int .i64 ax, .int .i64 ay], .agg #[.int .i64 bx, .int .i64 b_y], .agg #[.int .i64 cx, .int .i64 cy], .agg #[.int .i64 dx, .int .i64 dy]] w fun e w' => e = .returned (.int .i64 (sdist ax ay bx b_y cx cy dx dy)) ∧ Below w.heap.size w w' := by
  have cC := fun w' => xcps_b ax ay bx b_y cx cy dx dy w'
  rw [sdist_all]
  generalize cps ax ay bx b_y cx cy dx dy = C at *
  have hd := dist2_in C.px C.py C.qx C.qy
  go_enter Tryz.func98, Tryz.ntmps98
  go_wp2_with (first
    | (go_at_call 166; refine Calls.mono (gw_at (cC _)) ?_; rintro e w1 ⟨rfl, q, rfl⟩)
    | (go_at_call 165; refine Calls.mono (gw_at (dist2_b _ _ _ _ _)) ?_; rintro e w1 ⟨rfl, q, rfl⟩)
    | (go_at_call 162; refine Calls.mono (gw_at (isq_b _ _)) ?_; rintro e w1 ⟨rfl, q, rfl⟩)
    | (go_at_call 164; refine Calls.mono (gw_at (sat_b _ _)) ?_; rintro e w1 ⟨rfl, q, rfl⟩))
  go_ret
  exact ⟨rfl, bBel⟩

end Go.Proofs.YtdmcdicphohlfaaGreat
