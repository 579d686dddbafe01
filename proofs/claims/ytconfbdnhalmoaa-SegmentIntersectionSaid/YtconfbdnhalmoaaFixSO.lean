/- Contracts of package segment: each function returns what the Lean functions of the same meaning give (the same as for the reference), and nothing that existed has changed. No conditions. -/
import Derived.Test.YtconfbdnhalmoaaFixST
import Derived.Test.YtconfbdnhalmoaaFixXQ
import Derived.RegionTactic
import Derived.BigRegion
import Derived.Deep.DeepCutAuto
set_option linter.unusedVariables false
namespace Go.Proofs.Ytconfbdnhalmoaa
open Go.RowKit Fx

theorem xsgsat_b (x y : Int) (w : World) : Calls Try.prog 24 #[.agg #[.int .i64 x, .int .i64 y]] w fun e w' => e = .returned (.agg #[.int .i64 (sat x), .int .i64 (sat y)]) ∧ Below w.heap.size w w' := by
  go_enter Try.func24, Try.ntmps24
  go_wp2_with (first | (go_at_call 22; refine Calls.mono (gw_at (sat_b _ _)) ?_; rintro e w1 ⟨rfl, q, rfl⟩))
  repeat
    refine wp_region_gw_tail 7 (by kernel_rfl) (by kernel_rfl) ?_
    simp only [List.take_succ_cons, List.take_zero, List.drop_succ_cons, List.drop_zero]
    repeat (go_big_quiet_step ((first | (go_at_call 22; exact gw_call (sat_b _ _)))))
    refine wpQuiet_nil ?_
    intro w1 hw1
    obtain ⟨q, rfl⟩ := hw1
    go_wp2_with (first | (go_at_call 22; refine Calls.mono (gw_at (sat_b _ _)) ?_; rintro e w1 ⟨rfl, q, rfl⟩))
  exact bodyPost_ret (v := .agg #[.int .i64 (sat x), .int .i64 (sat y)]) (by simp [results, Try.results24, go_sem]; try (first | with_reducible rfl | exact ⟨rfl, rfl⟩ | exact ⟨rfl, rfl, rfl⟩ | exact ⟨rfl, rfl, rfl, rfl⟩ | exact ⟨rfl, rfl, rfl, rfl, rfl⟩ | exact ⟨rfl, rfl, rfl, rfl, rfl, rfl⟩ | rfl)) rfl ⟨rfl, (by repeat (first | with_reducible exact Below.refl _ _ | with_reducible assumption | refine bgw ?_ (by first | (simp; done) | (simp; omega) | omega) _ | refine Below.setCell ?_ (by first | exact Nat.le_of_not_lt (by assumption) | (simp; done) | (simp; omega) | omega) _ | refine Below.alloc ?_ (by first | (simp; done) | (simp; omega) | omega) _ | refine Below.drew ?_))⟩

set_option maxHeartbeats 1000000 in
theorem xcp_b (ax ay bx b_y px py : Int) (w : World) : Calls Try.prog 14 #[.agg #[.int .i64 ax, .int .i64 ay], .agg #[.int .i64 bx, .int .i64 b_y], .agg #[.int .i64 px, .int .i64 py]] w fun e w' => e = .returned (.tuple #[.agg #[.int .i64 (cpc (cpt ax ay bx b_y px py) ax bx), .int .i64 (cpc (cpt ax ay bx b_y px py) ay b_y)], .int .i64 (cpt ax ay bx b_y px py)]) ∧ Below w.heap.size w w' := by
  have a1 := sat_le ax; have a2 := sat_ge ax; have a3 := sat_le ay; have a4 := sat_ge ay
  have b1 := sat_le bx; have b2 := sat_ge bx; have b3 := sat_le b_y; have b4 := sat_ge b_y
  have c1 := sat_le px; have c2 := sat_ge px; have c3 := sat_le py; have c4 := sat_ge py
  have d1 := diffmul (a := px) (b := ax) (c := bx) (d := ax); have d2 := diffmul (a := py) (b := ay) (c := b_y) (d := ay)
  have e1 := dist2_ss ax ay bx b_y
  have e2 : ratio ((sat px - sat ax) * (sat bx - sat ax) + (sat py - sat ay) * (sat b_y - sat ay)) (dist2 ax ay bx b_y) = cpt ax ay bx b_y px py := rfl
  have e3 := fun t => lerp_ss ax bx t
  have e4 := fun t => lerp_ss ay b_y t
  generalize cpt ax ay bx b_y px py = t at *
  by_cases t0 : t = 0
  focus
    subst t0
    rw [cpc_zero, cpc_zero]
    go_enter Try.func14, Try.ntmps14
    go_wp2_with (first | (go_at_call 24; refine Calls.mono (gw_at (xsgsat_b _ _ _)) ?_; rintro e w1 ⟨rfl, q, rfl⟩) | (go_at_call 33; refine Calls.mono (gw_at (dist2_b _ _ _ _ _)) ?_; rintro e w1 ⟨rfl, q, rfl⟩) | (go_at_call 36; refine Calls.mono (gw_at (rt_b _ _ _)) ?_; rintro e w1 ⟨rfl, q, rfl⟩) | (go_at_call 37; refine Calls.mono (gw_at (vlerp_b _ _ _ _ _ _)) ?_; rintro e w1 ⟨rfl, q, rfl⟩))
    repeat
      refine wp_region_gw_tail 6 (by kernel_rfl) (by kernel_rfl) ?_
      simp only [List.take_succ_cons, List.take_zero, List.drop_succ_cons, List.drop_zero]
      repeat (go_big_quiet_step ((first | (go_at_call 24; exact gw_call (xsgsat_b _ _ _)) | (go_at_call 33; exact gw_call (dist2_b _ _ _ _ _)) | (go_at_call 36; exact gw_call (rt_b _ _ _)) | (go_at_call 37; exact gw_call (vlerp_b _ _ _ _ _ _)))))
      refine wpQuiet_nil ?_
      intro w1 hw1
      obtain ⟨q, rfl⟩ := hw1
      go_wp2_with (first | (go_at_call 24; refine Calls.mono (gw_at (xsgsat_b _ _ _)) ?_; rintro e w1 ⟨rfl, q, rfl⟩) | (go_at_call 33; refine Calls.mono (gw_at (dist2_b _ _ _ _ _)) ?_; rintro e w1 ⟨rfl, q, rfl⟩) | (go_at_call 36; refine Calls.mono (gw_at (rt_b _ _ _)) ?_; rintro e w1 ⟨rfl, q, rfl⟩) | (go_at_call 37; refine Calls.mono (gw_at (vlerp_b _ _ _ _ _ _)) ?_; rintro e w1 ⟨rfl, q, rfl⟩))
    exact bodyPost_ret (v := .tuple #[.agg #[.int .i64 (sat ax), .int .i64 (sat ay)], .int .i64 0]) (by simp [results, Try.results14, go_sem]) rfl ⟨rfl, (by repeat (first | with_reducible exact Below.refl _ _ | with_reducible assumption | refine bgw ?_ (by first | (simp; done) | (simp; omega) | omega) _ | refine Below.setCell ?_ (by first | exact Nat.le_of_not_lt (by assumption) | (simp; done) | (simp; omega) | omega) _ | refine Below.alloc ?_ (by first | (simp; done) | (simp; omega) | omega) _ | refine Below.drew ?_))⟩
  by_cases t1 : t = 65536
  focus
    subst t1
    rw [cpc_one, cpc_one]
    go_enter Try.func14, Try.ntmps14
    go_wp2_with (first | (go_at_call 24; refine Calls.mono (gw_at (xsgsat_b _ _ _)) ?_; rintro e w1 ⟨rfl, q, rfl⟩) | (go_at_call 33; refine Calls.mono (gw_at (dist2_b _ _ _ _ _)) ?_; rintro e w1 ⟨rfl, q, rfl⟩) | (go_at_call 36; refine Calls.mono (gw_at (rt_b _ _ _)) ?_; rintro e w1 ⟨rfl, q, rfl⟩) | (go_at_call 37; refine Calls.mono (gw_at (vlerp_b _ _ _ _ _ _)) ?_; rintro e w1 ⟨rfl, q, rfl⟩))
    repeat
      refine wp_region_gw_tail 6 (by kernel_rfl) (by kernel_rfl) ?_
      simp only [List.take_succ_cons, List.take_zero, List.drop_succ_cons, List.drop_zero]
      repeat (go_big_quiet_step ((first | (go_at_call 24; exact gw_call (xsgsat_b _ _ _)) | (go_at_call 33; exact gw_call (dist2_b _ _ _ _ _)) | (go_at_call 36; exact gw_call (rt_b _ _ _)) | (go_at_call 37; exact gw_call (vlerp_b _ _ _ _ _ _)))))
      refine wpQuiet_nil ?_
      intro w1 hw1
      obtain ⟨q, rfl⟩ := hw1
      go_wp2_with (first | (go_at_call 24; refine Calls.mono (gw_at (xsgsat_b _ _ _)) ?_; rintro e w1 ⟨rfl, q, rfl⟩) | (go_at_call 33; refine Calls.mono (gw_at (dist2_b _ _ _ _ _)) ?_; rintro e w1 ⟨rfl, q, rfl⟩) | (go_at_call 36; refine Calls.mono (gw_at (rt_b _ _ _)) ?_; rintro e w1 ⟨rfl, q, rfl⟩) | (go_at_call 37; refine Calls.mono (gw_at (vlerp_b _ _ _ _ _ _)) ?_; rintro e w1 ⟨rfl, q, rfl⟩))
    exact bodyPost_ret (v := .tuple #[.agg #[.int .i64 (sat bx), .int .i64 (sat b_y)], .int .i64 65536]) (by simp [results, Try.results14, go_sem]) rfl ⟨rfl, (by repeat (first | with_reducible exact Below.refl _ _ | with_reducible assumption | refine bgw ?_ (by first | (simp; done) | (simp; omega) | omega) _ | refine Below.setCell ?_ (by first | exact Nat.le_of_not_lt (by assumption) | (simp; done) | (simp; omega) | omega) _ | refine Below.alloc ?_ (by first | (simp; done) | (simp; omega) | omega) _ | refine Below.drew ?_))⟩
  rw [cpc_mid t0 t1, cpc_mid t0 t1]
  have t0b : (t == 0) = false := by rw [beq_eq_false_iff_ne]; exact t0
  have t1b : (t == 65536) = false := by rw [beq_eq_false_iff_ne]; exact t1
  clear t0 t1
  go_enter Try.func14, Try.ntmps14
  go_wp2_with (first | (go_at_call 24; refine Calls.mono (gw_at (xsgsat_b _ _ _)) ?_; rintro e w1 ⟨rfl, q, rfl⟩) | (go_at_call 33; refine Calls.mono (gw_at (dist2_b _ _ _ _ _)) ?_; rintro e w1 ⟨rfl, q, rfl⟩) | (go_at_call 36; refine Calls.mono (gw_at (rt_b _ _ _)) ?_; rintro e w1 ⟨rfl, q, rfl⟩) | (go_at_call 37; refine Calls.mono (gw_at (vlerp_b _ _ _ _ _ _)) ?_; rintro e w1 ⟨rfl, q, rfl⟩))
  repeat
    refine wp_region_gw_tail 6 (by kernel_rfl) (by kernel_rfl) ?_
    simp only [List.take_succ_cons, List.take_zero, List.drop_succ_cons, List.drop_zero]
    repeat (go_big_quiet_step ((first | (go_at_call 24; exact gw_call (xsgsat_b _ _ _)) | (go_at_call 33; exact gw_call (dist2_b _ _ _ _ _)) | (go_at_call 36; exact gw_call (rt_b _ _ _)) | (go_at_call 37; exact gw_call (vlerp_b _ _ _ _ _ _)))))
    refine wpQuiet_nil ?_
    intro w1 hw1
    obtain ⟨q, rfl⟩ := hw1
    go_wp2_with (first | (go_at_call 24; refine Calls.mono (gw_at (xsgsat_b _ _ _)) ?_; rintro e w1 ⟨rfl, q, rfl⟩) | (go_at_call 33; refine Calls.mono (gw_at (dist2_b _ _ _ _ _)) ?_; rintro e w1 ⟨rfl, q, rfl⟩) | (go_at_call 36; refine Calls.mono (gw_at (rt_b _ _ _)) ?_; rintro e w1 ⟨rfl, q, rfl⟩) | (go_at_call 37; refine Calls.mono (gw_at (vlerp_b _ _ _ _ _ _)) ?_; rintro e w1 ⟨rfl, q, rfl⟩))
  exact bodyPost_ret (v := .tuple #[.agg #[.int .i64 (lerp ax bx t), .int .i64 (lerp ay b_y t)], .int .i64 t]) (by simp [results, Try.results14, go_sem]) rfl ⟨rfl, (by repeat (first | with_reducible exact Below.refl _ _ | with_reducible assumption | refine bgw ?_ (by first | (simp; done) | (simp; omega) | omega) _ | refine Below.setCell ?_ (by first | exact Nat.le_of_not_lt (by assumption) | (simp; done) | (simp; omega) | omega) _ | refine Below.alloc ?_ (by first | (simp; done) | (simp; omega) | omega) _ | refine Below.drew ?_))⟩

theorem xsml_b (ax ay bx b_y cx cy dx dy : Int) (w : World) : Calls Try.prog 38 #[.agg #[.int .i64 ax, .int .i64 ay], .agg #[.int .i64 bx, .int .i64 b_y], .agg #[.int .i64 cx, .int .i64 cy], .agg #[.int .i64 dx, .int .i64 dy]] w fun e w' => e = .returned (.bool (decide (orient ax ay bx b_y cx cy * orient ax ay bx b_y dx dy ≤ 0))) ∧ Below w.heap.size w w' := by
  obtain ⟨p1, p2⟩ := or_mul ax ay bx b_y cx cy ax ay bx b_y dx dy
  go_enter Try.func38, Try.ntmps38
  go_wp2_with (first | (go_at_call 57; refine Calls.mono (gw_at (orient_b _ _ _ _ _ _ _)) ?_; rintro e w1 ⟨rfl, q, rfl⟩))
  repeat
    refine wp_region_gw (by kernel_rfl) (by kernel_rfl) ?_
    repeat (go_big_quiet_step ((first | (go_at_call 57; exact gw_call (orient_b _ _ _ _ _ _ _)))))
    refine wpQuiet_nil ?_
    intro w1 hw1
    obtain ⟨q, rfl⟩ := hw1
    go_wp2_with (first | (go_at_call 57; refine Calls.mono (gw_at (orient_b _ _ _ _ _ _ _)) ?_; rintro e w1 ⟨rfl, q, rfl⟩))
  go_ret
  exact ⟨rfl, (by repeat (first | with_reducible exact Below.refl _ _ | with_reducible assumption | refine bgw ?_ (by first | (simp; done) | (simp; omega) | omega) _ | refine Below.setCell ?_ (by first | exact Nat.le_of_not_lt (by assumption) | (simp; done) | (simp; omega) | omega) _ | refine Below.alloc ?_ (by first | (simp; done) | (simp; omega) | omega) _ | refine Below.drew ?_))⟩

theorem xsbo_b (ax ay bx b_y cx cy dx dy : Int) (w : World) : Calls Try.prog 39 #[.agg #[.int .i64 ax, .int .i64 ay], .agg #[.int .i64 bx, .int .i64 b_y], .agg #[.int .i64 cx, .int .i64 cy], .agg #[.int .i64 dx, .int .i64 dy]] w fun e w' => e = .returned (.bool ((Bx.two ax ay bx b_y).ovl (Bx.two cx cy dx dy))) ∧ Below w.heap.size w w' := by
  have hV : ovl8 (min (sat ax) (sat bx)) (min (sat ay) (sat b_y)) (max (sat ax) (sat bx)) (max (sat ay) (sat b_y)) (min (sat cx) (sat dx)) (min (sat cy) (sat dy)) (max (sat cx) (sat dx)) (max (sat cy) (sat dy)) = (Bx.two ax ay bx b_y).ovl (Bx.two cx cy dx dy) := rfl
  rw [← hV]
  clear hV
  go_enter Try.func39, Try.ntmps39
  go_wp2_with (first | (go_at_call 21; (with_reducible show Calls _ _ (#[Value.slice _ 2 _]) _ _); refine Calls.mono (gw_at (xfp2_b _ _ _ _ _ _ _ _ (by first | ((with_reducible refine blk_at ?_); simp; done) | ((with_reducible refine blk_gw (blk_at ?_)); simp; done) | ((with_reducible refine blk_alloc (blk_at ?_)); simp; done) | ((with_reducible refine blk_gw (blk_alloc (blk_at ?_))); simp; done) | with_reducible assumption) (by decide))) ?_; rintro e w1 ⟨rfl, q, rfl⟩) | (go_at_call 21; (with_reducible show Calls _ _ (#[Value.slice _ (List.length _) _]) _ _); refine Calls.mono (gw_at (xfp_b _ _ _ _ (Pts.to (by with_reducible assumption) (by repeat (first | with_reducible exact Below.refl _ _ | with_reducible assumption | refine bgw ?_ (by first | (simp; done) | (simp; omega) | omega) _ | refine Below.setCell ?_ (by first | exact Nat.le_of_not_lt (by assumption) | (simp; done) | (simp; omega) | omega) _ | refine Below.alloc ?_ (by first | (simp; done) | (simp; omega) | omega) _ | refine Below.drew ?_))) (by with_reducible assumption) (by with_reducible assumption))) ?_; rintro e w1 ⟨rfl, q, rfl⟩) | (go_at_call 58; (first | (refine Calls.mono (gw_at (boolIs (xovl_b _ _ _ _ _ _ _ _ _) (b := true) (by assumption))) ?_; rintro e w1 ⟨rfl, q, rfl⟩) | (refine Calls.mono (gw_at (boolIs (xovl_b _ _ _ _ _ _ _ _ _) (b := false) (by assumption))) ?_; rintro e w1 ⟨rfl, q, rfl⟩) | (refine Calls.mono (gw_at (xovl_b _ _ _ _ _ _ _ _ _)) ?_; rintro e w1 ⟨rfl, q, rfl⟩))))
  go_ret
  exact ⟨rfl, (by repeat (first | with_reducible exact Below.refl _ _ | with_reducible assumption | refine bgw ?_ (by first | (simp; done) | (simp; omega) | omega) _ | refine Below.setCell ?_ (by first | exact Nat.le_of_not_lt (by assumption) | (simp; done) | (simp; omega) | omega) _ | refine Below.alloc ?_ (by first | (simp; done) | (simp; omega) | omega) _ | refine Below.drew ?_))⟩

theorem xisct_b (ax ay bx b_y cx cy dx dy : Int) (w : World) : Calls Try.prog 16 #[.agg #[.int .i64 ax, .int .i64 ay], .agg #[.int .i64 bx, .int .i64 b_y], .agg #[.int .i64 cx, .int .i64 cy], .agg #[.int .i64 dx, .int .i64 dy]] w fun e w' => e = .returned (.bool (isct ax ay bx b_y cx cy dx dy)) ∧ Below w.heap.size w w' := by
  have c1 := fun w' => xsml_b ax ay bx b_y cx cy dx dy w'
  have c2 := fun w' => xsml_b cx cy dx dy ax ay bx b_y w'
  have c3 := fun w' => xsbo_b ax ay bx b_y cx cy dx dy w'
  unfold isct
  generalize (Bx.two ax ay bx b_y).ovl (Bx.two cx cy dx dy) = V at *
  generalize decide (orient ax ay bx b_y cx cy * orient ax ay bx b_y dx dy ≤ 0) = U at *
  generalize decide (orient cx cy dx dy ax ay * orient cx cy dx dy bx b_y ≤ 0) = Z at *
  cases U <;> cases Z <;> cases V
  all_goals
    go_enter Try.func16, Try.ntmps16
    go_wp2_with (first
      | (go_at_call 38; with_reducible_and_instances refine Calls.mono (gw_at (c1 _)) ?_; rintro e w1 ⟨rfl, q, rfl⟩)
      | (go_at_call 38; with_reducible_and_instances refine Calls.mono (gw_at (c2 _)) ?_; rintro e w1 ⟨rfl, q, rfl⟩)
      | (go_at_call 39; refine Calls.mono (gw_at (c3 _)) ?_; rintro e w1 ⟨rfl, q, rfl⟩))
    go_ret
    exact ⟨rfl, (by repeat (first | with_reducible exact Below.refl _ _ | with_reducible assumption | refine bgw ?_ (by first | (simp; done) | (simp; omega) | omega) _ | refine Below.setCell ?_ (by first | exact Nat.le_of_not_lt (by assumption) | (simp; done) | (simp; omega) | omega) _ | refine Below.alloc ?_ (by first | (simp; done) | (simp; omega) | omega) _ | refine Below.drew ?_))⟩

theorem xsda_b (cx cy dx dy px py : Int) (h1 : -536870911 ≤ cx ∧ cx ≤ 536870911) (h2 : -536870911 ≤ cy ∧ cy ≤ 536870911) (h3 : -536870911 ≤ dx ∧ dx ≤ 536870911) (h4 : -536870911 ≤ dy ∧ dy ≤ 536870911) (h5 : -536870911 ≤ px ∧ px ≤ 536870911) (h6 : -536870911 ≤ py ∧ py ≤ 536870911) (w : World) : Calls Try.prog 48 #[.agg #[.int .i64 cx, .int .i64 cy], .agg #[.int .i64 dx, .int .i64 dy], .agg #[.int .i64 px, .int .i64 py]] w fun e w' => e = .returned (.int .i64 (absc cx cy dx dy px py)) ∧ Below w.heap.size w w' := by
  have d1 := diffmul (a := dx) (b := cx) (c := py) (d := cy); have d2 := diffmul (a := dy) (b := cy) (c := px) (d := cx)
  have e1 := sat_id h1.1 h1.2; have e2 := sat_id h2.1 h2.2; have e3 := sat_id h3.1 h3.2; have e4 := sat_id h4.1 h4.2; have e5 := sat_id h5.1 h5.2; have e6 := sat_id h6.1 h6.2
  have hd : det cx cy dx dy px py = (dx - cx) * (py - cy) - (dy - cy) * (px - cx) := by unfold det; rw [e1, e2, e3, e4, e5, e6]
  simp only [e1, e2, e3, e4, e5, e6] at d1 d2
  obtain ⟨g1, g1'⟩ := h1; obtain ⟨g2, g2'⟩ := h2; obtain ⟨g3, g3'⟩ := h3; obtain ⟨g4, g4'⟩ := h4; obtain ⟨g5, g5'⟩ := h5; obtain ⟨g6, g6'⟩ := h6
  have hm : absc cx cy dx dy px py = max ((dx - cx) * (py - cy) - (dy - cy) * (px - cx)) (-((dx - cx) * (py - cy) - (dy - cy) * (px - cx))) := by unfold absc; rw [hd]; omega
  rw [hm]
  clear hm hd e1 e2 e3 e4 e5 e6
  go_enter Try.func48, Try.ntmps48
  go_wp2_with fail
  go_ret
  exact ⟨rfl, (by repeat (first | with_reducible exact Below.refl _ _ | with_reducible assumption | refine bgw ?_ (by first | (simp; done) | (simp; omega) | omega) _ | refine Below.setCell ?_ (by first | exact Nat.le_of_not_lt (by assumption) | (simp; done) | (simp; omega) | omega) _ | refine Below.alloc ?_ (by first | (simp; done) | (simp; omega) | omega) _ | refine Below.drew ?_))⟩

theorem xscr_b (ax ay bx b_y cx cy dx dy : Int) (h1 : -536870911 ≤ ax ∧ ax ≤ 536870911) (h2 : -536870911 ≤ ay ∧ ay ≤ 536870911) (h3 : -536870911 ≤ bx ∧ bx ≤ 536870911) (h4 : -536870911 ≤ b_y ∧ b_y ≤ 536870911) (h5 : -536870911 ≤ cx ∧ cx ≤ 536870911) (h6 : -536870911 ≤ cy ∧ cy ≤ 536870911) (h7 : -536870911 ≤ dx ∧ dx ≤ 536870911) (h8 : -536870911 ≤ dy ∧ dy ≤ 536870911) (w : World) : Calls Try.prog 25 #[.agg #[.int .i64 ax, .int .i64 ay], .agg #[.int .i64 bx, .int .i64 b_y], .agg #[.int .i64 cx, .int .i64 cy], .agg #[.int .i64 dx, .int .i64 dy]] w fun e w' => e = .returned (.agg #[.int .i64 (lerp ax bx (sgt ax ay bx b_y cx cy dx dy)), .int .i64 (lerp ay b_y (sgt ax ay bx b_y cx cy dx dy))]) ∧ Below w.heap.size w w' := by
  have c1 := fun w' => xsda_b cx cy dx dy ax ay h5 h6 h7 h8 h1 h2 w'
  have c2 := fun w' => xsda_b cx cy dx dy bx b_y h5 h6 h7 h8 h3 h4 w'
  obtain ⟨x0, x1⟩ := absc_in cx cy dx dy ax ay
  obtain ⟨y0, y1⟩ := absc_in cx cy dx dy bx b_y
  have ht : ratio (absc cx cy dx dy ax ay) (absc cx cy dx dy ax ay + absc cx cy dx dy bx b_y) = sgt ax ay bx b_y cx cy dx dy := rfl
  generalize sgt ax ay bx b_y cx cy dx dy = t at *
  generalize absc cx cy dx dy ax ay = x at *
  generalize absc cx cy dx dy bx b_y = y at *
  clear h1 h2 h3 h4 h5 h6 h7 h8
  go_enter Try.func25, Try.ntmps25
  go_wp2_with fail
  refine wp_region_gw (by kernel_rfl) (by kernel_rfl) ?_
  repeat (go_big_quiet_step (first
    | (go_at_call 48; with_reducible_and_instances exact gw_call (c1 _))
    | (go_at_call 48; with_reducible_and_instances exact gw_call (c2 _))))
  refine wpQuiet_nil ?_
  intro w1 hw1
  obtain ⟨q, rfl⟩ := hw1
  go_wp2_with fail
  refine wp_region_gw_tail 8 (by kernel_rfl) (by kernel_rfl) ?_
  simp only [List.take_succ_cons, List.take_zero, List.drop_succ_cons, List.drop_zero]
  repeat (go_big_quiet_step ((first | (go_at_call 36; exact gw_call (rt_b _ _ _)) | (go_at_call 37; exact gw_call (vlerp_b _ _ _ _ _ _)))))
  refine wpQuiet_nil ?_
  intro w1 hw1
  obtain ⟨q, rfl⟩ := hw1
  go_wp2_with fail
  exact bodyPost_ret (v := .agg #[.int .i64 (lerp ax bx t), .int .i64 (lerp ay b_y t)]) (by simp [results, Try.results25, go_sem]; try (first | with_reducible rfl | exact ⟨rfl, rfl⟩ | exact ⟨rfl, rfl, rfl⟩ | exact ⟨rfl, rfl, rfl, rfl⟩ | exact ⟨rfl, rfl, rfl, rfl, rfl⟩ | exact ⟨rfl, rfl, rfl, rfl, rfl, rfl⟩ | rfl)) rfl ⟨rfl, (by repeat (first | with_reducible exact Below.refl _ _ | with_reducible assumption | refine bgw ?_ (by first | (simp; done) | (simp; omega) | omega) _ | refine Below.setCell ?_ (by first | exact Nat.le_of_not_lt (by assumption) | (simp; done) | (simp; omega) | omega) _ | refine Below.alloc ?_ (by first | (simp; done) | (simp; omega) | omega) _ | refine Below.drew ?_))⟩

theorem sdist_all (ax ay bx b_y cx cy dx dy : Int) : sdist ax ay bx b_y cx cy dx dy = sat (isq (dist2 (cps ax ay bx b_y cx cy dx dy).px (cps ax ay bx b_y cx cy dx dy).py (cps ax ay bx b_y cx cy dx dy).qx (cps ax ay bx b_y cx cy dx dy).qy)) := by
  cases h : isct ax ay bx b_y cx cy dx dy
  · exact sdist_cps h
  · rw [sdist_isct h]
    unfold cps
    rw [if_pos h]
    dsimp only
    rw [show ∀ p q : Int, dist2 p q p q = 0 from fun p q => by unfold dist2; simp]
    decide +kernel

end Go.Proofs.Ytconfbdnhalmoaa
