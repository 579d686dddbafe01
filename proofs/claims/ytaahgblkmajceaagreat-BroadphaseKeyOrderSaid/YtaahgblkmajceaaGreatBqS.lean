/- Chapter 22: BroadphaseKeyOrder. -/
import Derived.Test.YtaahgblkmajceaaGreatBqP
set_option linter.unusedVariables false
set_option linter.unusedSimpArgs false
namespace Go.Proofs.YtaahgblkmajceaaGreat
open Go.RowKit Fx Go.Maps

set_option maxRecDepth 100000 in
set_option maxHeartbeats 16000000 in
theorem walk_BroadphaseKeyOrder (A : Option Addr) (cap : Nat) (l : List Ky) (a p b q a2 p2 b2 q2 : Int) (w : World) (h : Kys w A l) : Calls Tryz.prog 7 #[.slice A l.length cap, .agg #[.int .i64 a, .int .i64 p, .int .i64 b, .int .i64 q], .agg #[.int .i64 a2, .int .i64 p2, .int .i64 b2, .int .i64 q2]] w fun e w' => e = .returned (.bool true) ∧ Below w.heap.size w w' := by
  have cE := fun w' => example22_b w'
  by_cases h200 : 200 < l.length
  · have hI : (200 : Int) < (l.length : Int) := by omega
    go_enter Tryz.func7, Tryz.ntmps7
    go_wp2_with (first | (go_at_call 10; with_reducible_and_instances refine Calls.mono (gw_at (cE _)) ?_; rintro e w1 ⟨rfl, q, rfl⟩))
    go_ret
    exact ⟨rfl, bBel⟩
  have hI : decide ((200 : Int) < (l.length : Int)) = false := by simp; omega
  have hI2 : decide (200 < l.length) = false := by simp; omega
  obtain ⟨D, hD⟩ : ∃ D : Bool, D = true ↔ vkP l := by
    by_cases hv : vkP l
    · exact ⟨true, by simp [hv]⟩
    · exact ⟨false, by simp [hv]⟩
  have cV := fun w' hw' => vk_b A cap l (by omega) w' hw' D hD
  have cW := fun w' hw' => rvk_b A cap l (by omega) w' hw' D hD
  clear hD h200
  by_cases hxy : a = a2 ∧ p = p2 ∧ b = b2 ∧ q = q2
  · obtain ⟨rfl, rfl, rfl, rfl⟩ := hxy
    have he := eql_kyS a p b q
    have cL := fun w' => boolIs (less_b a p b q a p b q w') (les8_irr a p b q)
    have cM := fun w' => boolIs (rles22_b a p b q a p b q w') (les8_irr a p b q)
    cases D
    all_goals
      go_enter Tryz.func7, Tryz.ntmps7
      go_upto_region 1 with fail
      refine wp_named ?_
      intro V hV
      have kA : blk V w.heap.size #[.int .i64 a, .int .i64 p, .int .i64 b, .int .i64 q] 60 := by rw [hV]; exact bBkn
      have kB : blk V (w.heap.size + 1) #[.int .i64 a, .int .i64 p, .int .i64 b, .int .i64 q] 60 := by rw [hV]; exact bBkn
      have hbV : Below w.heap.size w V := by rw [hV]; exact bBel
      clear hV
      have hszV := hbV.size
      have okA := blk_older kA
      have ckA_0 : _ = some _ := blk_cell kA 0
      have ckA_1 : _ = some _ := blk_cell kA 1
      have ckA_2 : _ = some _ := blk_cell kA 2
      have ckA_3 : _ = some _ := blk_cell kA 3
      have fkA_0 := blk_free kA 0
      have fkA_1 := blk_free kA 1
      have fkA_2 := blk_free kA 2
      have fkA_3 := blk_free kA 3
      have okB := blk_older kB
      have ckB_0 : _ = some _ := blk_cell kB 0
      have ckB_1 : _ = some _ := blk_cell kB 1
      have ckB_2 : _ = some _ := blk_cell kB 2
      have ckB_3 : _ = some _ := blk_cell kB 3
      have fkB_0 := blk_free kB 0
      have fkB_1 := blk_free kB 1
      have fkB_2 := blk_free kB 2
      have fkB_3 := blk_free kB 3
      go_wp2_with (first | (go_at_call 22; with_reducible_and_instances refine Calls.mono (gw_at (cL _)) ?_; rintro e w1 ⟨rfl, q11, rfl⟩) | (go_at_call 23; with_reducible_and_instances refine Calls.mono (gw_at (cM _)) ?_; rintro e w1 ⟨rfl, q12, rfl⟩) | (go_at_call 24; with_reducible_and_instances refine Calls.mono (gw_at (cV _ (Kys.to h bBel))) ?_; rintro e w1 ⟨rfl, q13, rfl⟩) | (go_at_call 25; with_reducible_and_instances refine Calls.mono (gw_at (cW _ (Kys.to h bBel))) ?_; rintro e w1 ⟨rfl, q14, rfl⟩) | (go_at_call 10; with_reducible_and_instances refine Calls.mono (gw_at (cE _)) ?_; rintro e w1 ⟨rfl, q15, rfl⟩))
      go_ret
      exact ⟨rfl, bBel⟩
  have he := eql_kyD a p b q a2 p2 b2 q2 hxy
  have cI := fun w' => boolIs (less_b a p b q a p b q w') (les8_irr a p b q)
  cases hv : les8 a p b q a2 p2 b2 q2 with
  | true =>
    have cL := fun w' => boolIs (less_b a p b q a2 p2 b2 q2 w') hv
    have cN := fun w' => boolIs (less_b a2 p2 b2 q2 a p b q w') (les8_asy hv)
    have cM := fun w' => boolIs (rles22_b a p b q a2 p2 b2 q2 w') hv
    clear hv hxy
    cases D
    all_goals
      go_enter Tryz.func7, Tryz.ntmps7
      go_upto_region 1 with fail
      refine wp_named ?_
      intro V hV
      have kA : blk V w.heap.size #[.int .i64 a, .int .i64 p, .int .i64 b, .int .i64 q] 60 := by rw [hV]; exact bBkn
      have kB : blk V (w.heap.size + 1) #[.int .i64 a2, .int .i64 p2, .int .i64 b2, .int .i64 q2] 60 := by rw [hV]; exact bBkn
      have hbV : Below w.heap.size w V := by rw [hV]; exact bBel
      clear hV
      have hszV := hbV.size
      have okA := blk_older kA
      have ckA_0 : _ = some _ := blk_cell kA 0
      have ckA_1 : _ = some _ := blk_cell kA 1
      have ckA_2 : _ = some _ := blk_cell kA 2
      have ckA_3 : _ = some _ := blk_cell kA 3
      have fkA_0 := blk_free kA 0
      have fkA_1 := blk_free kA 1
      have fkA_2 := blk_free kA 2
      have fkA_3 := blk_free kA 3
      have okB := blk_older kB
      have ckB_0 : _ = some _ := blk_cell kB 0
      have ckB_1 : _ = some _ := blk_cell kB 1
      have ckB_2 : _ = some _ := blk_cell kB 2
      have ckB_3 : _ = some _ := blk_cell kB 3
      have fkB_0 := blk_free kB 0
      have fkB_1 := blk_free kB 1
      have fkB_2 := blk_free kB 2
      have fkB_3 := blk_free kB 3
      go_wp2_with (first | (go_at_call 22; with_reducible_and_instances refine Calls.mono (gw_at (cL _)) ?_; rintro e w1 ⟨rfl, q11, rfl⟩) | (go_at_call 22; with_reducible_and_instances refine Calls.mono (gw_at (cN _)) ?_; rintro e w1 ⟨rfl, q12, rfl⟩) | (go_at_call 22; with_reducible_and_instances refine Calls.mono (gw_at (cI _)) ?_; rintro e w1 ⟨rfl, q13, rfl⟩) | (go_at_call 23; with_reducible_and_instances refine Calls.mono (gw_at (cM _)) ?_; rintro e w1 ⟨rfl, q14, rfl⟩) | (go_at_call 24; with_reducible_and_instances refine Calls.mono (gw_at (cV _ (Kys.to h bBel))) ?_; rintro e w1 ⟨rfl, q15, rfl⟩) | (go_at_call 25; with_reducible_and_instances refine Calls.mono (gw_at (cW _ (Kys.to h bBel))) ?_; rintro e w1 ⟨rfl, q16, rfl⟩) | (go_at_call 10; with_reducible_and_instances refine Calls.mono (gw_at (cE _)) ?_; rintro e w1 ⟨rfl, q17, rfl⟩))
      go_ret
      exact ⟨rfl, bBel⟩
  | false =>
    have cL := fun w' => boolIs (less_b a p b q a2 p2 b2 q2 w') hv
    have cN := fun w' => boolIs (less_b a2 p2 b2 q2 a p b q w') (les8_tot hv hxy)
    have cM := fun w' => boolIs (rles22_b a p b q a2 p2 b2 q2 w') hv
    clear hv hxy
    cases D
    all_goals
      go_enter Tryz.func7, Tryz.ntmps7
      go_upto_region 1 with fail
      refine wp_named ?_
      intro V hV
      have kA : blk V w.heap.size #[.int .i64 a, .int .i64 p, .int .i64 b, .int .i64 q] 60 := by rw [hV]; exact bBkn
      have kB : blk V (w.heap.size + 1) #[.int .i64 a2, .int .i64 p2, .int .i64 b2, .int .i64 q2] 60 := by rw [hV]; exact bBkn
      have hbV : Below w.heap.size w V := by rw [hV]; exact bBel
      clear hV
      have hszV := hbV.size
      have okA := blk_older kA
      have ckA_0 : _ = some _ := blk_cell kA 0
      have ckA_1 : _ = some _ := blk_cell kA 1
      have ckA_2 : _ = some _ := blk_cell kA 2
      have ckA_3 : _ = some _ := blk_cell kA 3
      have fkA_0 := blk_free kA 0
      have fkA_1 := blk_free kA 1
      have fkA_2 := blk_free kA 2
      have fkA_3 := blk_free kA 3
      have okB := blk_older kB
      have ckB_0 : _ = some _ := blk_cell kB 0
      have ckB_1 : _ = some _ := blk_cell kB 1
      have ckB_2 : _ = some _ := blk_cell kB 2
      have ckB_3 : _ = some _ := blk_cell kB 3
      have fkB_0 := blk_free kB 0
      have fkB_1 := blk_free kB 1
      have fkB_2 := blk_free kB 2
      have fkB_3 := blk_free kB 3
      go_wp2_with (first | (go_at_call 22; with_reducible_and_instances refine Calls.mono (gw_at (cL _)) ?_; rintro e w1 ⟨rfl, q11, rfl⟩) | (go_at_call 22; with_reducible_and_instances refine Calls.mono (gw_at (cN _)) ?_; rintro e w1 ⟨rfl, q12, rfl⟩) | (go_at_call 22; with_reducible_and_instances refine Calls.mono (gw_at (cI _)) ?_; rintro e w1 ⟨rfl, q13, rfl⟩) | (go_at_call 23; with_reducible_and_instances refine Calls.mono (gw_at (cM _)) ?_; rintro e w1 ⟨rfl, q14, rfl⟩) | (go_at_call 24; with_reducible_and_instances refine Calls.mono (gw_at (cV _ (Kys.to h bBel))) ?_; rintro e w1 ⟨rfl, q15, rfl⟩) | (go_at_call 25; with_reducible_and_instances refine Calls.mono (gw_at (cW _ (Kys.to h bBel))) ?_; rintro e w1 ⟨rfl, q16, rfl⟩) | (go_at_call 10; with_reducible_and_instances refine Calls.mono (gw_at (cE _)) ?_; rintro e w1 ⟨rfl, q17, rfl⟩))
      go_ret
      exact ⟨rfl, bBel⟩

end Go.Proofs.YtaahgblkmajceaaGreat
