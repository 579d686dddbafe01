/- Laws of chapter 18: the example, RaycastCircleExact, RaycastPolygonExact. -/
import Derived.Test.YtpdhfhcfjdnlpaaGreatRk
import Derived.Test.YtpdhfhcfjdnlpaaGreatRe
import Derived.Test.YtpdhfhcfjdnlpaaGreatRq
set_option linter.unusedVariables false
namespace Go.Proofs.YtpdhfhcfjdnlpaaGreat
open Go.RowKit Fx

set_option maxHeartbeats 8000000 in
theorem example18_b (w : World) : Calls Tryz.prog 4 #[] w fun e w' => e = .returned (.bool true) ∧ Below w.heap.size w w' := by
  have cA : ∀ A1 w', Pts w' A1 [(0, 0)] → Calls Tryz.prog 5 #[.agg #[.int .i64 1, .int .i64 65536, .slice A1 1 1], .agg #[.int .i64 262144, .int .i64 0, .int .i64 0], .agg #[.int .i64 0, .int .i64 0], .agg #[.int .i64 393216, .int .i64 0]] w' fun e w'' => e = .returned (.tuple #[.int .i64 32768, .agg #[.int .i64 (-65536), .int .i64 0], .bool true]) ∧ Below w'.heap.size w' w'' := fun A1 w' h => ycast_b 1 65536 A1 1 [(0, 0)] 262144 0 0 0 0 393216 0 32768 (-65536) 0 true (by simp) (by simp) ex18 w' h
  go_enter Tryz.func4, Tryz.ntmps4
  go_upto_region 2 with fail
  refine wp_named ?_
  intro W hW
  have kP : blk W w.heap.size #[.int .i64 0, .int .i64 0] 27 := by rw [hW]; exact bBkn
  have kS : blk W (w.heap.size + 1) #[.int .i64 1, .int .i64 65536, .slice (some ⟨w.heap.size, 0, none⟩) 1 1] 25 := by rw [hW]; exact bBkn
  have hbW : Below w.heap.size w W := by rw [hW]; exact bBel
  have hPW : Pts W (some ⟨w.heap.size, 0, none⟩) [(0, 0)] := .inr ⟨w.heap.size, 0, rfl, fun i hi => by
    obtain rfl : i = 0 := by simp at hi; omega
    exact ⟨blk_cell kP 0, blk_cell kP 1⟩⟩
  have hszW := hbW.size
  clear hW
  have okS := blk_older kS
  have ckS_0 : _ = some _ := blk_cell kS 0
  have ckS_1 : _ = some _ := blk_cell kS 1
  have ckS_2 : _ = some _ := blk_cell kS 2
  have fkS_0 := blk_free kS 0
  have fkS_1 := blk_free kS 1
  have fkS_2 := blk_free kS 2
  go_wp2_with (go_at_call 5; refine Calls.mono (gw_at (cA _ _ (Pts.to hPW bBel))) ?_; rintro e w1 ⟨rfl, q, rfl⟩)
  go_ret
  exact ⟨rfl, bBel⟩

end Go.Proofs.YtpdhfhcfjdnlpaaGreat
