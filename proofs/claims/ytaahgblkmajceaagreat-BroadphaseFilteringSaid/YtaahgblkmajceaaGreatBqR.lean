/- Chapter 22: BroadphaseFiltering. -/
import Derived.Test.YtaahgblkmajceaaGreatBqP
set_option linter.unusedVariables false
set_option linter.unusedSimpArgs false
namespace Go.Proofs.YtaahgblkmajceaaGreat
open Go.RowKit Fx Go.Maps

theorem shc_sym (g1 c1 m1 g2 c2 m2 : Int) : shc g2 c2 m2 g1 c1 m1 = shc g1 c1 m1 g2 c2 m2 := by
  unfold shc
  by_cases h : g1 = g2 ∧ g1 ≠ 0
  · rw [if_pos h, if_pos ⟨h.1.symm, by rw [← h.1]; exact h.2⟩, h.1]
  · rw [if_neg h, if_neg fun h2 => h ⟨h2.1.symm, by rw [← h2.1]; exact h2.2⟩, Bool.and_comm]
theorem cnj_sym (js : List Jnt) (a b : Int) : cnj js b a = cnj js a b := by
  unfold cnj; congr 1; funext j
  rw [Bool.or_comm]

set_option maxRecDepth 100000 in
set_option maxHeartbeats 16000000 in
theorem walk_BroadphaseFiltering (fa fb : Fxr) (A : Option Addr) (cap : Nat) (js : List Jnt) (i k : Int) (w : World) (h1 : FxIn w fa) (h2 : FxIn w fb) (hj : Jnts w A js) : Calls Tryz.prog 6 #[.agg (fxc fa).toArray, .agg (fxc fb).toArray, .slice A js.length cap, .int .i64 i, .int .i64 k] w fun e w' => e = .returned (.bool true) ∧ Below w.heap.size w w' := by
  have cE := fun w' => example22_b w'
  clear h1 h2
  by_cases h100 : 100 < js.length
  · have hI : (100 : Int) < (js.length : Int) := by omega
    obtain ⟨K, R, A1, cap1, ps, fD, fF, fE, sen, c1, m1, g1⟩ := fa
    obtain ⟨K2, R2, A2, cap2, qs, fD2, fF2, fE2, sen2, c2, m2, g2⟩ := fb
    show Calls _ _ #[.agg #[.int .i64 K, .int .i64 R, .slice A1 ps.length cap1, .int .i64 fD, .int .i64 fF, .int .i64 fE, .bool sen, .int .i64 c1, .int .i64 m1, .int .i64 g1], .agg #[.int .i64 K2, .int .i64 R2, .slice A2 qs.length cap2, .int .i64 fD2, .int .i64 fF2, .int .i64 fE2, .bool sen2, .int .i64 c2, .int .i64 m2, .int .i64 g2], _, _, _] _ _
    go_enter Tryz.func6, Tryz.ntmps6
    go_wp2_with (first | (go_at_call 10; with_reducible_and_instances refine Calls.mono (gw_at (cE _)) ?_; rintro e w1 ⟨rfl, q, rfl⟩))
    go_ret
    exact ⟨rfl, bBel⟩
  have hI : decide ((100 : Int) < (js.length : Int)) = false := by simp; omega
  have hI2 : decide (100 < js.length) = false := by simp; omega
  have cS := fun w' => shc_b fa fb w'
  have cS2 := fun w' => shc_b fb fa w'
  have cR := fun w' => rshc_b fa fb w'
  have cC := fun w' hw' => cnj_b A cap js i k (by omega) w' hw'
  have cC2 := fun w' hw' => cnj_b A cap js k i (by omega) w' hw'
  have cD := fun w' hw' => rcnj_b A cap js i k (by omega) w' hw'
  rw [shc_sym fa.grp fa.cat fa.msk fb.grp fb.cat fb.msk] at cS2
  rw [cnj_sym js i k] at cC2
  obtain ⟨K, R, A1, cap1, ps, fD, fF, fE, sen, c1, m1, g1⟩ := fa
  obtain ⟨K2, R2, A2, cap2, qs, fD2, fF2, fE2, sen2, c2, m2, g2⟩ := fb
  dsimp only at cS cS2 cR
  generalize shc g1 c1 m1 g2 c2 m2 = s at *
  generalize cnj js i k = t at *
  have dS : ∀ w', Calls Tryz.prog 17 #[.agg #[.int .i64 K, .int .i64 R, .slice A1 ps.length cap1, .int .i64 fD, .int .i64 fF, .int .i64 fE, .bool sen, .int .i64 c1, .int .i64 m1, .int .i64 g1], .agg #[.int .i64 K2, .int .i64 R2, .slice A2 qs.length cap2, .int .i64 fD2, .int .i64 fF2, .int .i64 fE2, .bool sen2, .int .i64 c2, .int .i64 m2, .int .i64 g2]] w' fun e w'' => e = .returned (.bool s) ∧ Below w'.heap.size w' w'' := cS
  have dS2 : ∀ w', Calls Tryz.prog 17 #[.agg #[.int .i64 K2, .int .i64 R2, .slice A2 qs.length cap2, .int .i64 fD2, .int .i64 fF2, .int .i64 fE2, .bool sen2, .int .i64 c2, .int .i64 m2, .int .i64 g2], .agg #[.int .i64 K, .int .i64 R, .slice A1 ps.length cap1, .int .i64 fD, .int .i64 fF, .int .i64 fE, .bool sen, .int .i64 c1, .int .i64 m1, .int .i64 g1]] w' fun e w'' => e = .returned (.bool s) ∧ Below w'.heap.size w' w'' := cS2
  have dR : ∀ w', Calls Tryz.prog 20 #[.agg #[.int .i64 K, .int .i64 R, .slice A1 ps.length cap1, .int .i64 fD, .int .i64 fF, .int .i64 fE, .bool sen, .int .i64 c1, .int .i64 m1, .int .i64 g1], .agg #[.int .i64 K2, .int .i64 R2, .slice A2 qs.length cap2, .int .i64 fD2, .int .i64 fF2, .int .i64 fE2, .bool sen2, .int .i64 c2, .int .i64 m2, .int .i64 g2]] w' fun e w'' => e = .returned (.bool s) ∧ Below w'.heap.size w' w'' := cR
  clear cS cS2 cR h100
  show Calls _ _ #[.agg #[.int .i64 K, .int .i64 R, .slice A1 ps.length cap1, .int .i64 fD, .int .i64 fF, .int .i64 fE, .bool sen, .int .i64 c1, .int .i64 m1, .int .i64 g1], .agg #[.int .i64 K2, .int .i64 R2, .slice A2 qs.length cap2, .int .i64 fD2, .int .i64 fF2, .int .i64 fE2, .bool sen2, .int .i64 c2, .int .i64 m2, .int .i64 g2], _, _, _] _ _
  cases s
  all_goals
    cases t
  all_goals
    go_enter Tryz.func6, Tryz.ntmps6
    go_upto_region 1 with fail
    refine wp_named ?_
    intro V hV
    have kA : blk V w.heap.size #[.int .i64 K, .int .i64 R, .slice A1 ps.length cap1, .int .i64 fD, .int .i64 fF, .int .i64 fE, .bool sen, .int .i64 c1, .int .i64 m1, .int .i64 g1] 57 := by rw [hV]; exact bBkn
    have kB : blk V (w.heap.size + 1) #[.int .i64 K2, .int .i64 R2, .slice A2 qs.length cap2, .int .i64 fD2, .int .i64 fF2, .int .i64 fE2, .bool sen2, .int .i64 c2, .int .i64 m2, .int .i64 g2] 57 := by rw [hV]; exact bBkn
    have hbV : Below w.heap.size w V := by rw [hV]; exact bBel
    clear hV
    have hszV := hbV.size
    have okA := blk_older kA
    have ckA_0 : _ = some _ := blk_cell kA 0
    have ckA_1 : _ = some _ := blk_cell kA 1
    have ckA_2 : _ = some _ := blk_cell kA 2
    have ckA_3 : _ = some _ := blk_cell kA 3
    have ckA_4 : _ = some _ := blk_cell kA 4
    have ckA_5 : _ = some _ := blk_cell kA 5
    have ckA_6 : _ = some _ := blk_cell kA 6
    have ckA_7 : _ = some _ := blk_cell kA 7
    have ckA_8 : _ = some _ := blk_cell kA 8
    have ckA_9 : _ = some _ := blk_cell kA 9
    have fkA_0 := blk_free kA 0
    have fkA_1 := blk_free kA 1
    have fkA_2 := blk_free kA 2
    have fkA_3 := blk_free kA 3
    have fkA_4 := blk_free kA 4
    have fkA_5 := blk_free kA 5
    have fkA_6 := blk_free kA 6
    have fkA_7 := blk_free kA 7
    have fkA_8 := blk_free kA 8
    have fkA_9 := blk_free kA 9
    have okB := blk_older kB
    have ckB_0 : _ = some _ := blk_cell kB 0
    have ckB_1 : _ = some _ := blk_cell kB 1
    have ckB_2 : _ = some _ := blk_cell kB 2
    have ckB_3 : _ = some _ := blk_cell kB 3
    have ckB_4 : _ = some _ := blk_cell kB 4
    have ckB_5 : _ = some _ := blk_cell kB 5
    have ckB_6 : _ = some _ := blk_cell kB 6
    have ckB_7 : _ = some _ := blk_cell kB 7
    have ckB_8 : _ = some _ := blk_cell kB 8
    have ckB_9 : _ = some _ := blk_cell kB 9
    have fkB_0 := blk_free kB 0
    have fkB_1 := blk_free kB 1
    have fkB_2 := blk_free kB 2
    have fkB_3 := blk_free kB 3
    have fkB_4 := blk_free kB 4
    have fkB_5 := blk_free kB 5
    have fkB_6 := blk_free kB 6
    have fkB_7 := blk_free kB 7
    have fkB_8 := blk_free kB 8
    have fkB_9 := blk_free kB 9
    go_wp2_with (first | (go_at_call 17; with_reducible_and_instances refine Calls.mono (gw_at (dS _)) ?_; rintro e w1 ⟨rfl, q1, rfl⟩) | (go_at_call 17; with_reducible_and_instances refine Calls.mono (gw_at (dS2 _)) ?_; rintro e w1 ⟨rfl, q2, rfl⟩) | (go_at_call 20; with_reducible_and_instances refine Calls.mono (gw_at (dR _)) ?_; rintro e w1 ⟨rfl, q3, rfl⟩) | (go_at_call 16; with_reducible_and_instances refine Calls.mono (gw_at (cC _ (Jnts.to hj bBel))) ?_; rintro e w1 ⟨rfl, q4, rfl⟩) | (go_at_call 16; with_reducible_and_instances refine Calls.mono (gw_at (cC2 _ (Jnts.to hj bBel))) ?_; rintro e w1 ⟨rfl, q5, rfl⟩) | (go_at_call 21; with_reducible_and_instances refine Calls.mono (gw_at (cD _ (Jnts.to hj bBel))) ?_; rintro e w1 ⟨rfl, q6, rfl⟩) | (go_at_call 10; with_reducible_and_instances refine Calls.mono (gw_at (cE _)) ?_; rintro e w1 ⟨rfl, q7, rfl⟩))
    go_ret
    exact ⟨rfl, bBel⟩

end Go.Proofs.YtaahgblkmajceaaGreat
