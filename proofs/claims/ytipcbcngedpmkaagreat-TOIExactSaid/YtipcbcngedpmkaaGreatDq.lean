/- Contracts of chapter 17's program: isInPolygon, Separation, Overlap, ToPoint. -/
import Derived.Test.YtipcbcngedpmkaaGreatDp
set_option linter.unusedVariables false
namespace Go.Proofs.YtipcbcngedpmkaaGreat
open Go.RowKit Fx

theorem conS_pol {K R : Int} {ps : List Pt} {px py a x y : Int} (hv : valS K R ps = 0) : (decide (K = 3) && conS K R ps px py a x y) = inpol K (ps.map (tr px py a)) (x, y) := by
  unfold inpol conS
  rw [decide_eq_true hv, Bool.true_and]
  by_cases h : K = 3
  · rw [decide_eq_true h, Bool.true_and, Bool.true_and]; unfold conC; rw [if_neg (by omega), if_neg (by omega)]
  · rw [decide_eq_false h]; rfl
theorem core_hp {K R : Int} {ps : List Pt} {px py a : Int} (hv : valS K R ps = 0) : core K R ps px py a = ps.map (tr px py a) ∧ 1 ≤ (core K R ps px py a).length ∧ (core K R ps px py a).length ≤ 8 := by
  rw [core_ok _ _ _ hv, List.length_map]
  exact ⟨rfl, (val_len hv).1, (val_len hv).2.1⟩
/-- How a contract of a slice's result is used in a walk. -/
theorem hull_ex {P : Program} {f : FuncId} {args : Array Value} {w : World} {R : List Pt} (h : Calls P f args w (HullR w R)) : Calls P f args w fun e w' => (∃ A' cap', e = .returned (.slice A' R.length cap') ∧ Pts w' A' R) ∧ ∃ q, w' = gw w q :=
  h.mono fun e w' ⟨⟨A', cap', h1, _, _, h4⟩, h2⟩ => ⟨⟨A', cap', h1, h4⟩, gw_of_below h2⟩
theorem sgr_ex {P : Program} {f : FuncId} {args : Array Value} {w : World} {L : List Sg} {n : Nat} (hn : L.length = n) (h : Calls P f args w (SgR w L)) : Calls P f args w fun e w' => (∃ A' cap', e = .returned (.slice A' n cap') ∧ Sgs w' A' L) ∧ ∃ q, w' = gw w q := by
  subst hn
  exact h.mono fun e w' ⟨⟨A', cap', h1, h4⟩, h2⟩ => ⟨⟨A', cap', h1, h4⟩, gw_of_below h2⟩

set_option maxHeartbeats 4000000 in
theorem yinp_b (K R : Int) (A : Option Addr) (cap : Nat) (ps : List (Int × Int)) (px py a x y : Int) (hl : ps.length ≤ 1000000) (w : World) (hp : Pts w A ps) (hk : ps.length ≤ cap := by first | omega | decide) : Calls Tryz.prog 33 #[.agg #[.int .i64 K, .int .i64 R, .slice A ps.length cap], .agg #[.int .i64 px, .int .i64 py, .int .i64 a], .agg #[.int .i64 x, .int .i64 y]] w fun e w' => e = .returned (.bool (decide (K = 3) && conS K R ps px py a x y)) ∧ Below w.heap.size w w' := by
  have cC := fun w' h => ycon_b K R A cap ps px py a x y hl w' h hk
  by_cases h3 : K = 3
  · rw [decide_eq_true h3, Bool.true_and]
    have b1 : (K == 3) = true := by rw [beq_iff_eq]; exact h3
    clear h3
    generalize conS K R ps px py a x y = C at *
    go_enter Tryz.func33, Tryz.ntmps33
    go_wp2_with (go_at_call 65; refine Calls.mono (gw_at (cC _ (Pts.to hp bBel))) ?_; rintro e w1 ⟨rfl, q, rfl⟩)
    go_ret
    exact ⟨rfl, bBel⟩
  · rw [decide_eq_false h3, Bool.false_and]
    have b1 : (K == 3) = false := by rw [beq_eq_false_iff_ne]; exact h3
    clear h3
    go_enter Tryz.func33, Tryz.ntmps33
    go_wp2_with fail
    go_ret
    exact ⟨rfl, bBel⟩

set_option maxRecDepth 100000 in
set_option maxHeartbeats 16000000 in
theorem ysep17_b (K R K2 R2 : Int) (A B_ : Option Addr) (ca cb : Nat) (ps qs : List (Int × Int)) (px py pa qx qy qa : Int) (hl : ps.length ≤ 1000000) (hm : qs.length ≤ 1000000) (hka : ps.length ≤ ca) (hkb : qs.length ≤ cb) (w : World) (hp : Pts w A ps) (hq : Pts w B_ qs) : Calls Tryz.prog 11 #[.agg #[.int .i64 K, .int .i64 R, .slice A ps.length ca], .agg #[.int .i64 px, .int .i64 py, .int .i64 pa], .agg #[.int .i64 K2, .int .i64 R2, .slice B_ qs.length cb], .agg #[.int .i64 qx, .int .i64 qy, .int .i64 qa]] w fun e w' => e = .returned (.int .i64 (sepS K R ps px py pa K2 R2 qs qx qy qa)) ∧ Below w.heap.size w w' := by
  have cX := fun w' h => hull_ex (yvert_b K R A ca ps px py pa hl w' h hka)
  have cY := fun w' h => hull_ex (yvert_b K2 R2 B_ cb qs qx qy qa hm w' h hkb)
  by_cases hv1 : valS K R ps = 0
  rotate_left
  · rw [sepS_val _ _ _ _ _ _ fun h => hv1 h.1]
    rw [core_no _ _ _ hv1] at cX
    generalize core K2 R2 qs qx qy qa = M at *
    clear hv1
    go_enter Tryz.func11, Tryz.ntmps11
    go_upto_region 1 with fail
    first
      | (refine wp_mix 8 [0, 0, 3, 0, 0, 31, 63, 127] [] [0, 1, 2, 3, 4, 5, 6, 7] (by kernel_rfl) (by decide +kernel) ?_
         repeat (first | (refine mix_skip (by rfl) (by rfl) (by rfl) (by rfl) ?_) | (refine mix_early (by rfl) (by rfl) (by rfl) ?_; go_big_quiet_step (fail); with_reducible refine wpQuiet_nil ?_) | (refine mix_late (by rfl) (by rfl) (by rfl) ?_; go_big_quiet_step (fail); with_reducible refine wpQuiet_nil ?_) | (refine mix_call (by rfl) (by rfl) (by rfl) ?_; intro pM Qs hQs; go_wp2_with (first | (go_at_call 32; (with_reducible show Calls _ _ #[.agg #[.int .i64 K, .int .i64 R, .slice A _ _], _] _ _); refine Calls.mono (cX _ (Pts.to hp bBel)) ?_; rintro e w1 ⟨⟨A1, c1, rfl, hP1⟩, q1, rfl⟩) | (go_at_call 32; (with_reducible show Calls _ _ #[.agg #[.int .i64 K2, .int .i64 R2, .slice B_ _ _], _] _ _); refine Calls.mono (cY _ (Pts.to hq bBel)) ?_; rintro e w1 ⟨⟨A2, c2, rfl, hP2⟩, q2, rfl⟩)); refine hQs _ _ bBel ?_))
         refine mix_end ?_
         intro pE
         simp only [List.drop_succ_cons, List.drop_zero])
      | (refine wp_mix 14 [0, 0, 0, 4, 12, 31, 63, 127, 127, 127, 639, 1663, 4095, 8191] [7, 8, 11] [0, 1, 2, 3, 4, 5, 6, 7, 8, 9, 10, 11, 12, 13] (by kernel_rfl) (by decide +kernel) ?_
         repeat (first | (refine mix_skip (by rfl) (by rfl) (by rfl) (by rfl) ?_) | (refine mix_early (by rfl) (by rfl) (by rfl) ?_; go_big_quiet_step (fail); with_reducible refine wpQuiet_nil ?_) | (refine mix_late (by rfl) (by rfl) (by rfl) ?_; go_big_quiet_step (fail); with_reducible refine wpQuiet_nil ?_) | (refine mix_call (by rfl) (by rfl) (by rfl) ?_; intro pM Qs hQs; go_wp2_with (first | (go_at_call 32; (with_reducible show Calls _ _ #[.agg #[.int .i64 K, .int .i64 R, .slice A _ _], _] _ _); refine Calls.mono (cX _ (Pts.to hp bBel)) ?_; rintro e w1 ⟨⟨A1, c1, rfl, hP1⟩, q1, rfl⟩) | (go_at_call 32; (with_reducible show Calls _ _ #[.agg #[.int .i64 K2, .int .i64 R2, .slice B_ _ _], _] _ _); refine Calls.mono (cY _ (Pts.to hq bBel)) ?_; rintro e w1 ⟨⟨A2, c2, rfl, hP2⟩, q2, rfl⟩)); refine hQs _ _ bBel ?_))
         refine mix_end ?_
         intro pE
         simp only [List.drop_succ_cons, List.drop_zero])
      | (refine wp_mix 9 [0, 0, 2, 7, 0, 16, 63, 127, 255] [] [0, 1, 2, 3, 4, 5, 6, 7, 8] (by kernel_rfl) (by decide +kernel) ?_
         repeat (first | (refine mix_skip (by rfl) (by rfl) (by rfl) (by rfl) ?_) | (refine mix_early (by rfl) (by rfl) (by rfl) ?_; go_big_quiet_step (fail); with_reducible refine wpQuiet_nil ?_) | (refine mix_late (by rfl) (by rfl) (by rfl) ?_; go_big_quiet_step (fail); with_reducible refine wpQuiet_nil ?_) | (refine mix_call (by rfl) (by rfl) (by rfl) ?_; intro pM Qs hQs; go_wp2_with (first | (go_at_call 32; (with_reducible show Calls _ _ #[.agg #[.int .i64 K, .int .i64 R, .slice A _ _], _] _ _); refine Calls.mono (cX _ (Pts.to hp bBel)) ?_; rintro e w1 ⟨⟨A1, c1, rfl, hP1⟩, q1, rfl⟩) | (go_at_call 32; (with_reducible show Calls _ _ #[.agg #[.int .i64 K2, .int .i64 R2, .slice B_ _ _], _] _ _); refine Calls.mono (cY _ (Pts.to hq bBel)) ?_; rintro e w1 ⟨⟨A2, c2, rfl, hP2⟩, q2, rfl⟩)); refine hQs _ _ bBel ?_))
         refine mix_end ?_
         intro pE
         simp only [List.drop_succ_cons, List.drop_zero])
    go_wp2_with fail
    go_ret
    exact ⟨rfl, bBel⟩
  by_cases hv2 : valS K2 R2 qs = 0
  rotate_left
  · rw [sepS_val _ _ _ _ _ _ fun h => hv2 h.2]
    obtain ⟨-, h1, -⟩ := core_hp (px := px) (py := py) (a := pa) hv1
    rw [core_no _ _ _ hv2] at cY
    generalize core K R ps px py pa = L at *
    clear hv1 hv2
    have b0 : ((L.length : Int) == 0) = false := by rw [beq_eq_false_iff_ne]; omega
    go_enter Tryz.func11, Tryz.ntmps11
    go_upto_region 1 with fail
    first
      | (refine wp_mix 8 [0, 0, 3, 0, 0, 31, 63, 127] [] [0, 1, 2, 3, 4, 5, 6, 7] (by kernel_rfl) (by decide +kernel) ?_
         repeat (first | (refine mix_skip (by rfl) (by rfl) (by rfl) (by rfl) ?_) | (refine mix_early (by rfl) (by rfl) (by rfl) ?_; go_big_quiet_step (fail); with_reducible refine wpQuiet_nil ?_) | (refine mix_late (by rfl) (by rfl) (by rfl) ?_; go_big_quiet_step (fail); with_reducible refine wpQuiet_nil ?_) | (refine mix_call (by rfl) (by rfl) (by rfl) ?_; intro pM Qs hQs; go_wp2_with (first | (go_at_call 32; (with_reducible show Calls _ _ #[.agg #[.int .i64 K, .int .i64 R, .slice A _ _], _] _ _); refine Calls.mono (cX _ (Pts.to hp bBel)) ?_; rintro e w1 ⟨⟨A1, c1, rfl, hP1⟩, q1, rfl⟩) | (go_at_call 32; (with_reducible show Calls _ _ #[.agg #[.int .i64 K2, .int .i64 R2, .slice B_ _ _], _] _ _); refine Calls.mono (cY _ (Pts.to hq bBel)) ?_; rintro e w1 ⟨⟨A2, c2, rfl, hP2⟩, q2, rfl⟩)); refine hQs _ _ bBel ?_))
         refine mix_end ?_
         intro pE
         simp only [List.drop_succ_cons, List.drop_zero])
      | (refine wp_mix 14 [0, 0, 0, 4, 12, 31, 63, 127, 127, 127, 639, 1663, 4095, 8191] [7, 8, 11] [0, 1, 2, 3, 4, 5, 6, 7, 8, 9, 10, 11, 12, 13] (by kernel_rfl) (by decide +kernel) ?_
         repeat (first | (refine mix_skip (by rfl) (by rfl) (by rfl) (by rfl) ?_) | (refine mix_early (by rfl) (by rfl) (by rfl) ?_; go_big_quiet_step (fail); with_reducible refine wpQuiet_nil ?_) | (refine mix_late (by rfl) (by rfl) (by rfl) ?_; go_big_quiet_step (fail); with_reducible refine wpQuiet_nil ?_) | (refine mix_call (by rfl) (by rfl) (by rfl) ?_; intro pM Qs hQs; go_wp2_with (first | (go_at_call 32; (with_reducible show Calls _ _ #[.agg #[.int .i64 K, .int .i64 R, .slice A _ _], _] _ _); refine Calls.mono (cX _ (Pts.to hp bBel)) ?_; rintro e w1 ⟨⟨A1, c1, rfl, hP1⟩, q1, rfl⟩) | (go_at_call 32; (with_reducible show Calls _ _ #[.agg #[.int .i64 K2, .int .i64 R2, .slice B_ _ _], _] _ _); refine Calls.mono (cY _ (Pts.to hq bBel)) ?_; rintro e w1 ⟨⟨A2, c2, rfl, hP2⟩, q2, rfl⟩)); refine hQs _ _ bBel ?_))
         refine mix_end ?_
         intro pE
         simp only [List.drop_succ_cons, List.drop_zero])
      | (refine wp_mix 9 [0, 0, 2, 7, 0, 16, 63, 127, 255] [] [0, 1, 2, 3, 4, 5, 6, 7, 8] (by kernel_rfl) (by decide +kernel) ?_
         repeat (first | (refine mix_skip (by rfl) (by rfl) (by rfl) (by rfl) ?_) | (refine mix_early (by rfl) (by rfl) (by rfl) ?_; go_big_quiet_step (fail); with_reducible refine wpQuiet_nil ?_) | (refine mix_late (by rfl) (by rfl) (by rfl) ?_; go_big_quiet_step (fail); with_reducible refine wpQuiet_nil ?_) | (refine mix_call (by rfl) (by rfl) (by rfl) ?_; intro pM Qs hQs; go_wp2_with (first | (go_at_call 32; (with_reducible show Calls _ _ #[.agg #[.int .i64 K, .int .i64 R, .slice A _ _], _] _ _); refine Calls.mono (cX _ (Pts.to hp bBel)) ?_; rintro e w1 ⟨⟨A1, c1, rfl, hP1⟩, q1, rfl⟩) | (go_at_call 32; (with_reducible show Calls _ _ #[.agg #[.int .i64 K2, .int .i64 R2, .slice B_ _ _], _] _ _); refine Calls.mono (cY _ (Pts.to hq bBel)) ?_; rintro e w1 ⟨⟨A2, c2, rfl, hP2⟩, q2, rfl⟩)); refine hQs _ _ bBel ?_))
         refine mix_end ?_
         intro pE
         simp only [List.drop_succ_cons, List.drop_zero])
    go_wp2_with fail
    go_ret
    exact ⟨rfl, bBel⟩
  obtain ⟨e1, h1, h8⟩ := core_hp (px := px) (py := py) (a := pa) hv1
  obtain ⟨e2, g1, g8⟩ := core_hp (px := qx) (py := qy) (a := qa) hv2
  have cI := fun x y w' h => yinp_b K R A ca ps px py pa x y hl w' h hka
  have cJ := fun x y w' h => yinp_b K2 R2 B_ cb qs qx qy qa x y hm w' h hkb
  simp only [conS_pol hv1] at cI
  simp only [conS_pol hv2] at cJ
  have hS : Hid (sepS K R ps px py pa K2 R2 qs qx qy qa = sepC K R (core K R ps px py pa) K2 R2 (core K2 R2 qs qx qy qa)) := by
    show _ = _; unfold sepS; rw [if_pos ⟨hv1, hv2⟩, e1, e2]
  rw [← e1] at cI
  rw [← e2] at cJ
  clear e1 e2 hv1 hv2
  generalize sepS K R ps px py pa K2 R2 qs qx qy qa = S at *
  generalize core K R ps px py pa = L at *
  generalize core K2 R2 qs qx qy qa = M at *
  have cA := fun A1 c1 w' h => sgr_ex (sgL_len L) (yside_b A1 c1 L h1 (by omega) w' h)
  have cB := fun A1 c1 w' h => sgr_ex (sgL_len M) (yside_b A1 c1 M g1 (by omega) w' h)
  have cD := fun A1 A2 c1 c2 w' h h' => ysmall_b A1 A2 c1 c2 L M (by omega) (by omega) w' h h'
  have cI1 := cI (hp' M 0).1 (hp' M 0).2
  have cJ1 := cJ (hp' L 0).1 (hp' L 0).2
  clear cI cJ
  rw [hp_get (show 0 < L.length by omega)] at cJ1
  rw [hp_get (show 0 < M.length by omega)] at cI1
  have hS2 : Hid (S = if (inpol K L M[0] || inpol K2 M L[0]) = true then 0 else max 0 (sub (sub (gap L M) R) R2)) := by
    show _ = _; rw [hS.out]; unfold sepC; rw [hp_get (show 0 < L.length by omega), hp_get (show 0 < M.length by omega)]
  have hd1 : inpol K L (M[0].1, M[0].2) = inpol K L M[0] := rfl
  have hd2 : inpol K2 M (L[0].1, L[0].2) = inpol K2 M L[0] := rfl
  rw [hd1] at cI1
  rw [hd2] at cJ1
  clear hd1 hd2 hS
  generalize inpol K L M[0] = D1 at *
  generalize inpol K2 M L[0] = D2 at *
  generalize gap L M = G at *
  have b0 : ((L.length : Int) == 0) = false := by rw [beq_eq_false_iff_ne]; omega
  have b1 : ((M.length : Int) == 0) = false := by rw [beq_eq_false_iff_ne]; omega
  have j0 : (0 : Int) < (L.length : Int) := by omega
  have j1 : (0 : Int) < (M.length : Int) := by omega
  go_enter Tryz.func11, Tryz.ntmps11
  go_upto_region 1 with fail
  first
    | (refine wp_mix 8 [0, 0, 3, 0, 0, 31, 63, 127] [] [0, 1, 2, 3, 4, 5, 6, 7] (by kernel_rfl) (by decide +kernel) ?_
       repeat (first | (refine mix_skip (by rfl) (by rfl) (by rfl) (by rfl) ?_) | (refine mix_early (by rfl) (by rfl) (by rfl) ?_; go_big_quiet_step (fail); with_reducible refine wpQuiet_nil ?_) | (refine mix_late (by rfl) (by rfl) (by rfl) ?_; go_big_quiet_step (fail); with_reducible refine wpQuiet_nil ?_) | (refine mix_call (by rfl) (by rfl) (by rfl) ?_; intro pM Qs hQs; go_wp2_with (first | (go_at_call 32; (with_reducible show Calls _ _ #[.agg #[.int .i64 K, .int .i64 R, .slice A _ _], _] _ _); refine Calls.mono (cX _ (Pts.to hp bBel)) ?_; rintro e w1 ⟨⟨A1, c1, rfl, hP1⟩, q1, rfl⟩) | (go_at_call 32; (with_reducible show Calls _ _ #[.agg #[.int .i64 K2, .int .i64 R2, .slice B_ _ _], _] _ _); refine Calls.mono (cY _ (Pts.to hq bBel)) ?_; rintro e w1 ⟨⟨A2, c2, rfl, hP2⟩, q2, rfl⟩)); refine hQs _ _ bBel ?_))
       refine mix_end ?_
       intro pE
       simp only [List.drop_succ_cons, List.drop_zero])
    | (refine wp_mix 14 [0, 0, 0, 4, 12, 31, 63, 127, 127, 127, 639, 1663, 4095, 8191] [7, 8, 11] [0, 1, 2, 3, 4, 5, 6, 7, 8, 9, 10, 11, 12, 13] (by kernel_rfl) (by decide +kernel) ?_
       repeat (first | (refine mix_skip (by rfl) (by rfl) (by rfl) (by rfl) ?_) | (refine mix_early (by rfl) (by rfl) (by rfl) ?_; go_big_quiet_step (fail); with_reducible refine wpQuiet_nil ?_) | (refine mix_late (by rfl) (by rfl) (by rfl) ?_; go_big_quiet_step (fail); with_reducible refine wpQuiet_nil ?_) | (refine mix_call (by rfl) (by rfl) (by rfl) ?_; intro pM Qs hQs; go_wp2_with (first | (go_at_call 32; (with_reducible show Calls _ _ #[.agg #[.int .i64 K, .int .i64 R, .slice A _ _], _] _ _); refine Calls.mono (cX _ (Pts.to hp bBel)) ?_; rintro e w1 ⟨⟨A1, c1, rfl, hP1⟩, q1, rfl⟩) | (go_at_call 32; (with_reducible show Calls _ _ #[.agg #[.int .i64 K2, .int .i64 R2, .slice B_ _ _], _] _ _); refine Calls.mono (cY _ (Pts.to hq bBel)) ?_; rintro e w1 ⟨⟨A2, c2, rfl, hP2⟩, q2, rfl⟩)); refine hQs _ _ bBel ?_))
       refine mix_end ?_
       intro pE
       simp only [List.drop_succ_cons, List.drop_zero])
    | (refine wp_mix 9 [0, 0, 2, 7, 0, 16, 63, 127, 255] [] [0, 1, 2, 3, 4, 5, 6, 7, 8] (by kernel_rfl) (by decide +kernel) ?_
       repeat (first | (refine mix_skip (by rfl) (by rfl) (by rfl) (by rfl) ?_) | (refine mix_early (by rfl) (by rfl) (by rfl) ?_; go_big_quiet_step (fail); with_reducible refine wpQuiet_nil ?_) | (refine mix_late (by rfl) (by rfl) (by rfl) ?_; go_big_quiet_step (fail); with_reducible refine wpQuiet_nil ?_) | (refine mix_call (by rfl) (by rfl) (by rfl) ?_; intro pM Qs hQs; go_wp2_with (first | (go_at_call 32; (with_reducible show Calls _ _ #[.agg #[.int .i64 K, .int .i64 R, .slice A _ _], _] _ _); refine Calls.mono (cX _ (Pts.to hp bBel)) ?_; rintro e w1 ⟨⟨A1, c1, rfl, hP1⟩, q1, rfl⟩) | (go_at_call 32; (with_reducible show Calls _ _ #[.agg #[.int .i64 K2, .int .i64 R2, .slice B_ _ _], _] _ _); refine Calls.mono (cY _ (Pts.to hq bBel)) ?_; rintro e w1 ⟨⟨A2, c2, rfl, hP2⟩, q2, rfl⟩)); refine hQs _ _ bBel ?_))
       refine mix_end ?_
       intro pE
       simp only [List.drop_succ_cons, List.drop_zero])
  go_upto_region 2 with fail
  refine wp_named ?_
  intro W hW
  have kA : blk W w.heap.size #[.int .i64 K, .int .i64 R, .slice A ps.length ca] 25 := by rw [hW]; exact bBkn
  have kT : blk W (w.heap.size + 1) #[.int .i64 px, .int .i64 py, .int .i64 pa] 29 := by rw [hW]; exact bBkn
  have kB : blk W (w.heap.size + 2) #[.int .i64 K2, .int .i64 R2, .slice B_ qs.length cb] 25 := by rw [hW]; exact bBkn
  have kU : blk W (w.heap.size + 3) #[.int .i64 qx, .int .i64 qy, .int .i64 qa] 29 := by rw [hW]; exact bBkn
  have hbW : Below w.heap.size w W := by rw [hW]; exact bBel
  have hPL : Pts W A1 L := by rw [hW]; exact Pts.to hP1 bBel
  have hPM : Pts W A2 M := by rw [hW]; exact Pts.to hP2 bBel
  clear hW hP1 hP2 cX cY
  have hszW := hbW.size
  have hpW := Pts.to hp hbW
  have hqW := Pts.to hq hbW
  have okA := blk_older kA
  have ckA_0 : _ = some _ := blk_cell kA 0
  have ckA_1 : _ = some _ := blk_cell kA 1
  have ckA_2 : _ = some _ := blk_cell kA 2
  have fkA_0 := blk_free kA 0
  have fkA_1 := blk_free kA 1
  have fkA_2 := blk_free kA 2
  have okT := blk_older kT
  have ckT_0 : _ = some _ := blk_cell kT 0
  have ckT_1 : _ = some _ := blk_cell kT 1
  have ckT_2 : _ = some _ := blk_cell kT 2
  have fkT_0 := blk_free kT 0
  have fkT_1 := blk_free kT 1
  have fkT_2 := blk_free kT 2
  have okB := blk_older kB
  have ckB_0 : _ = some _ := blk_cell kB 0
  have ckB_1 : _ = some _ := blk_cell kB 1
  have ckB_2 : _ = some _ := blk_cell kB 2
  have fkB_0 := blk_free kB 0
  have fkB_1 := blk_free kB 1
  have fkB_2 := blk_free kB 2
  have okU := blk_older kU
  have ckU_0 : _ = some _ := blk_cell kU 0
  have ckU_1 : _ = some _ := blk_cell kU 1
  have ckU_2 : _ = some _ := blk_cell kU 2
  have fkU_0 := blk_free kU 0
  have fkU_1 := blk_free kU 1
  have fkU_2 := blk_free kU 2
  obtain ⟨b1, off1, hA1, hc1⟩ := pts_open0 hPL (by omega)
  subst hA1
  obtain ⟨b2, off2, hA2, hc2⟩ := pts_open0 hPM (by omega)
  subst hA2
  obtain ⟨d0, d1⟩ := hc1 0 (by omega)
  obtain ⟨f0, f1⟩ := hc2 0 (by omega)
  rw [Nat.zero_mul, Nat.add_zero] at d0 d1 f0 f1
  have od := older_of_cell d0
  have of := older_of_cell f0
  clear hc1 hc2
  generalize L[0].1 = x0 at *
  generalize L[0].2 = y0 at *
  generalize M[0].1 = u0 at *
  generalize M[0].2 = v0 at *
  cases D1
  · cases D2
    · have hS3 : Hid (S = max 0 (sub (sub G R) R2)) := hS2.out
      clear hS2
      go_upto_region 4 with fail
      refine wp_region_gw (by kernel_rfl) (by decide +kernel) ?_
      repeat (go_big_quiet_step (first | (go_at_call 33; (with_reducible show Calls _ _ #[.agg #[.int .i64 K, .int .i64 R, .slice A _ _], _, _] _ _); exact gw_call (cI1 _ (Pts.to hpW bBel))) | (go_at_call 33; (with_reducible show Calls _ _ #[.agg #[.int .i64 K2, .int .i64 R2, .slice B_ _ _], _, _] _ _); exact gw_call (cJ1 _ (Pts.to hqW bBel)))))
      refine wpQuiet_nil ?_
      intro w1 hw1
      obtain ⟨q, rfl⟩ := hw1
      go_upto_region 7 with (first | (go_at_call 35; (with_reducible show Calls _ _ #[.slice (some ⟨b1, _, _⟩) _ _] _ _); refine Calls.mono (cA _ _ _ (Pts.to hPL bBel)) ?_; rintro e w1 ⟨⟨A3, c3, rfl, hP3⟩, q3, rfl⟩) | (go_at_call 35; (with_reducible show Calls _ _ #[.slice (some ⟨b2, _, _⟩) _ _] _ _); refine Calls.mono (cB _ _ _ (Pts.to hPM bBel)) ?_; rintro e w1 ⟨⟨A4, c4, rfl, hP4⟩, q4, rfl⟩) | (go_at_call 34; refine Calls.mono (gw_at (cD _ _ _ _ _ (Sgs.to hP3 bBel) (Sgs.to hP4 bBel))) ?_; rintro e w1 ⟨rfl, q5, rfl⟩))
      refine wp_region_gw (by kernel_rfl) (by kernel_rfl) ?_
      repeat (go_big_quiet_step ((first | (go_at_call 36; exact gw_call (sub_b _ _ _)))))
      refine wpQuiet_nil ?_
      intro w1 hw1
      obtain ⟨q, rfl⟩ := hw1
      go_wp2_with fail
      go_ret
      exact ⟨by rw [hS3.out]; rfl, bBel⟩
    · have hS3 : Hid (S = 0) := hS2.out
      clear hS2
      go_upto_region 4 with fail
      refine wp_region_gw (by kernel_rfl) (by decide +kernel) ?_
      repeat (go_big_quiet_step (first | (go_at_call 33; (with_reducible show Calls _ _ #[.agg #[.int .i64 K, .int .i64 R, .slice A _ _], _, _] _ _); exact gw_call (cI1 _ (Pts.to hpW bBel))) | (go_at_call 33; (with_reducible show Calls _ _ #[.agg #[.int .i64 K2, .int .i64 R2, .slice B_ _ _], _, _] _ _); exact gw_call (cJ1 _ (Pts.to hqW bBel)))))
      refine wpQuiet_nil ?_
      intro w1 hw1
      obtain ⟨q, rfl⟩ := hw1
      go_wp2_with fail
      go_ret
      exact ⟨by rw [hS3.out]; rfl, bBel⟩
  · have hS3 : Hid (S = 0) := hS2.out
    clear hS2
    go_upto_region 4 with fail
    refine wp_region_gw (by kernel_rfl) (by decide +kernel) ?_
    repeat (go_big_quiet_step (first | (go_at_call 33; (with_reducible show Calls _ _ #[.agg #[.int .i64 K, .int .i64 R, .slice A _ _], _, _] _ _); exact gw_call (cI1 _ (Pts.to hpW bBel)))))
    refine wpQuiet_nil ?_
    intro w1 hw1
    obtain ⟨q, rfl⟩ := hw1
    go_wp2_with fail
    go_ret
    exact ⟨by rw [hS3.out]; rfl, bBel⟩

theorem sepS_zero {K R : Int} {ps : List Pt} {px py pa K2 R2 : Int} {qs : List Pt} {qx qy qa : Int} (h : sepS K R ps px py pa K2 R2 qs qx qy qa = 0) : valS K R ps = 0 ∧ valS K2 R2 qs = 0 := by
  false_or_by_contra
  rename_i g
  rw [sepS_val _ _ _ _ _ _ g] at h
  exact absurd h (by decide)

end Go.Proofs.YtipcbcngedpmkaaGreat
