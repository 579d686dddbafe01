/- Laws of chapter 18: the example, RaycastCircleExact, RaycastPolygonExact. -/
import Derived.Test.YtpdhfhcfjdnlpaaRk
import Derived.Test.YtpdhfhcfjdnlpaaRe
import Derived.Test.YtpdhfhcfjdnlpaaRq
set_option linter.unusedVariables false
namespace Go.Proofs.Ytpdhfhcfjdnlpaa
open Go.RowKit Fx

set_option maxHeartbeats 8000000 in
theorem example18_b (w : World) : Calls Try.prog 9 #[] w fun e w' => e = .returned (.bool true) ∧ Below w.heap.size w w' := by
  have cA : ∀ A1 w', Pts w' A1 [(0, 0)] → Calls Try.prog 12 #[.agg #[.int .i64 1, .int .i64 65536, .slice A1 1 1], .agg #[.int .i64 262144, .int .i64 0, .int .i64 0], .agg #[.int .i64 0, .int .i64 0], .agg #[.int .i64 393216, .int .i64 0]] w' fun e w'' => e = .returned (.tuple #[.int .i64 32768, .agg #[.int .i64 (-65536), .int .i64 0], .bool true]) ∧ Below w'.heap.size w' w'' := fun A1 w' h => ycast_b 1 65536 A1 1 [(0, 0)] 262144 0 0 0 0 393216 0 32768 (-65536) 0 true (by simp) (by simp) ex18 w' h
  go_enter Try.func9, Try.ntmps9
  go_upto_region 2 with fail
  refine wp_named ?_
  intro W hW
  have kP : blk W w.heap.size #[.int .i64 0, .int .i64 0] 23 := by rw [hW]; exact bBkn
  have kS : blk W (w.heap.size + 1) #[.int .i64 1, .int .i64 65536, .slice (some ⟨w.heap.size, 0, none⟩) 1 1] 34 := by rw [hW]; exact bBkn
  have hbW : Below w.heap.size w W := by rw [hW]; exact bBel
  have hPW : Pts W (some ⟨w.heap.size, 0, none⟩) [(0, 0)] := .inr ⟨w.heap.size, 0, rfl, fun i hi => by
    obtain rfl : i = 0 := by simp at hi; omega
    exact ⟨blk_cell kP 0, blk_cell kP 1⟩⟩
  have hszW := hbW.size
  clear hW
  have okS := blk_older kS
  have ckS_0 : _ = some _ := blk_cell kS 0
  have ckS_1 : _ = some _ := blk_cell kS 1
  have ckS_2 : _ = some _ := blk_cell kS 2
  have fkS_0 := blk_free kS 0
  have fkS_1 := blk_free kS 1
  have fkS_2 := blk_free kS 2
  go_wp2_with (go_at_call 12; refine Calls.mono (gw_at (cA _ _ (Pts.to hPW bBel))) ?_; rintro e w1 ⟨rfl, q, rfl⟩)
  go_ret
  exact ⟨rfl, bBel⟩

set_option maxRecDepth 100000 in
set_option maxHeartbeats 8000000 in
theorem walk_RaycastCircleExact (cx cy r fx fy gx gy : Int) (w : World) : Calls Try.prog 3 #[.agg #[.int .i64 cx, .int .i64 cy], .int .i64 r, .agg #[.int .i64 fx, .int .i64 fy, .int .i64 gx, .int .i64 gy]] w fun e w' => e = .returned (.bool true) ∧ Below w.heap.size w w' := by
  have e0 := example18_b
  obtain ⟨H, hH⟩ : ∃ H, castC cx cy r fx fy gx gy = H := ⟨_, rfl⟩
  obtain ⟨t, x, y, b⟩ := H
  have c1 := fun w' => ycc_b cx cy r fx fy gx gy t x y b hH w'
  have c2 := fun w' => rcc18_b cx cy r fx fy gx gy t x y b hH w'
  clear hH
  go_enter Try.func3, Try.ntmps3
  go_wp2_with (first | (go_at_call 7; refine Calls.mono (gw_at (c1 _)) ?_; rintro e w1 ⟨rfl, q1, rfl⟩) | (go_at_call 8; refine Calls.mono (gw_at (c2 _)) ?_; rintro e w1 ⟨rfl, q2, rfl⟩) | (go_at_call 9; refine Calls.mono (gw_at (e0 _)) ?_; rintro e w1 ⟨rfl, q, rfl⟩))
  go_ret
  exact ⟨rfl, bBel⟩

set_option maxRecDepth 100000 in
set_option maxHeartbeats 8000000 in
theorem walk_RaycastPolygonExact (A : Option Addr) (cap : Nat) (ps : List (Int × Int)) (fx fy gx gy : Int) (w : World) (hp : Pts w A ps) (hl : ps.length ≤ cap) (hc : cap ≤ maxLen) : Calls Try.prog 4 #[.slice A ps.length cap, .agg #[.int .i64 fx, .int .i64 fy, .int .i64 gx, .int .i64 gy]] w fun e w' => e = .returned (.bool true) ∧ Below w.heap.size w w' := by
  have e0 := example18_b
  by_cases n0 : 12 < (ps.length : Int)
  focus
    go_enter Try.func4, Try.ntmps4
    go_wp2_with (go_at_call 9; refine Calls.mono (gw_at (e0 _)) ?_; rintro e w1 ⟨rfl, q, rfl⟩)
    go_ret
    exact ⟨rfl, bBel⟩
  obtain ⟨H, hH⟩ : ∃ H, castP ps fx fy gx gy = H := ⟨_, rfl⟩
  obtain ⟨t, x, y, b⟩ := H
  have c1 := fun w' h => ycp_b A cap ps fx fy gx gy t x y b (by omega) hH w' h
  have c2 := fun w' h => rcp18_b A cap ps fx fy gx gy t x y b (by omega) hH w' h
  clear hH
  go_enter Try.func4, Try.ntmps4
  go_wp2_with (first | (go_at_call 10; refine Calls.mono (gw_at (c1 _ (Pts.to hp bBel))) ?_; rintro e w1 ⟨rfl, q1, rfl⟩) | (go_at_call 11; refine Calls.mono (gw_at (c2 _ (Pts.to hp bBel))) ?_; rintro e w1 ⟨rfl, q2, rfl⟩) | (go_at_call 9; refine Calls.mono (gw_at (e0 _)) ?_; rintro e w1 ⟨rfl, q, rfl⟩))
  go_ret
  exact ⟨rfl, bBel⟩

end Go.Proofs.Ytpdhfhcfjdnlpaa
