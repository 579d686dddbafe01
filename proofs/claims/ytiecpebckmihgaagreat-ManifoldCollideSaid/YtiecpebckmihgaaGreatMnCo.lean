/- Laws of chapter 16: ManifoldCollide. -/
import Derived.Test.YtiecpebckmihgaaGreatMnJ
set_option linter.unusedVariables false
namespace Go.Proofs.YtiecpebckmihgaaGreat
open Go.RowKit Fx

set_option maxRecDepth 100000 in
set_option maxHeartbeats 16000000 in
theorem walk_ManifoldCollide (K R : Int) (A : Option Addr) (cap : Nat) (ps : List (Int × Int)) (px py pa : Int) (K2 R2 : Int) (B_ : Option Addr) (cap2 : Nat) (qs : List (Int × Int)) (qx qy qa : Int) (w : World) (hp : Pts w A ps) (hl : ps.length ≤ cap) (hc : cap ≤ maxLen) (hq : Pts w B_ qs) (hm : qs.length ≤ cap2) (hc2 : cap2 ≤ maxLen) : Calls Tryz.prog 4 #[.agg #[.int .i64 K, .int .i64 R, .slice A ps.length cap], .agg #[.int .i64 px, .int .i64 py, .int .i64 pa], .agg #[.int .i64 K2, .int .i64 R2, .slice B_ qs.length cap2], .agg #[.int .i64 qx, .int .i64 qy, .int .i64 qa]] w fun e w' => e = .returned (.bool true) ∧ Below w.heap.size w w' := by
  have e0 := example16_b
  have cW := fun w' => few_b K R K2 R2 A B_ cap cap2 ps qs w'
  by_cases hf : ps.length ≤ 20 ∧ qs.length ≤ 20
  rotate_left
  focus
    rw [decide_eq_false hf] at cW
    go_enter Tryz.func4, Tryz.ntmps4
    go_wp2_with (first | (go_at_call 6; refine Calls.mono (gw_at (cW _)) ?_; rintro e w1 ⟨rfl, q, rfl⟩) | (go_at_call 7; refine Calls.mono (gw_at (e0 _)) ?_; rintro e w1 ⟨rfl, q, rfl⟩))
    go_ret
    exact ⟨rfl, bBel⟩
  rw [decide_eq_true hf] at cW
  have cX := fun w' h1 h2 => mnt_ex (mcol_b K R K2 R2 A B_ cap cap2 ps qs px py pa qx qy qa (by omega) (by omega) hl hm (edge_ok K R K2 R2 ps qs px py pa qx qy qa) w' h1 h2)
  have cY := fun w' h1 h2 => mnt_ex (rcol16_b K R K2 R2 A B_ cap cap2 ps qs px py pa qx qy qa (by omega) (by omega) w' h1 h2)
  have hlen : (col K R ps px py pa K2 R2 qs qx qy qa).l.length ≤ 1000000 := by
    rcases (ok_col K R ps px py pa K2 R2 qs qx qy qa).2 with h | ⟨c, h⟩ | ⟨c, d, h, _⟩ <;> rw [h] <;> simp
  generalize col K R ps px py pa K2 R2 qs qx qy qa = N at *
  obtain ⟨nx, ny, l⟩ := N
  dsimp only at cX cY hlen
  obtain ⟨bo, hbo⟩ : ∃ x, decide (l ≠ []) = x := ⟨_, rfl⟩
  rw [hbo] at cX cY
  clear hbo hf
  have cE := fun A1 c1 A2 c2 w' h1 h2 => re16_b nx ny A1 c1 l nx ny A2 c2 l hlen hlen w' h1 h2
  simp only [eqM_refl] at cE
  clear hlen
  go_enter Tryz.func4, Tryz.ntmps4
  go_upto_region 4 with (first | (go_at_call 6; refine Calls.mono (gw_at (cW _)) ?_; rintro e w1 ⟨rfl, q, rfl⟩) | (go_at_call 8; refine Calls.mono (cX _ (Pts.to hp bBel) (Pts.to hq bBel)) ?_; rintro e w1 ⟨⟨A5, c5, rfl, hle5, hmx5, hnil5, hP5⟩, q5, rfl⟩))
  refine wp_named ?_
  intro W hW
  have kA : blk W w.heap.size #[.int .i64 K, .int .i64 R, .slice A ps.length cap] 25 := by rw [hW]; exact bBkn
  have kT : blk W (w.heap.size + 1) #[.int .i64 px, .int .i64 py, .int .i64 pa] 29 := by rw [hW]; exact bBkn
  have kB : blk W (w.heap.size + 2) #[.int .i64 K2, .int .i64 R2, .slice B_ qs.length cap2] 25 := by rw [hW]; exact bBkn
  have kU : blk W (w.heap.size + 3) #[.int .i64 qx, .int .i64 qy, .int .i64 qa] 29 := by rw [hW]; exact bBkn
  have kM : blk W (w.heap.size + 1 + 1 + 1 + 1 + q.os.size + q5.os.size) #[.int .i64 nx, .int .i64 ny, .slice A5 l.length c5] 34 := by rw [hW]; exact bBkn
  have hbW : Below w.heap.size w W := by rw [hW]; exact bBel
  have hPW : Cnts W A5 l := by rw [hW]; exact Cnts.to hP5 bBel
  clear hW hP5 cX cW
  generalize w.heap.size + 1 + 1 + 1 + 1 + q.os.size + q5.os.size = M at *
  have hszW := hbW.size
  have hpW := Pts.to hp hbW
  have hqW := Pts.to hq hbW
  have okA := blk_older kA
  have ckA_0 : _ = some _ := blk_cell kA 0
  have ckA_1 : _ = some _ := blk_cell kA 1
  have ckA_2 : _ = some _ := blk_cell kA 2
  have fkA_0 := blk_free kA 0
  have fkA_1 := blk_free kA 1
  have fkA_2 := blk_free kA 2
  have okT := blk_older kT
  have ckT_0 : _ = some _ := blk_cell kT 0
  have ckT_1 : _ = some _ := blk_cell kT 1
  have ckT_2 : _ = some _ := blk_cell kT 2
  have fkT_0 := blk_free kT 0
  have fkT_1 := blk_free kT 1
  have fkT_2 := blk_free kT 2
  have okB := blk_older kB
  have ckB_0 : _ = some _ := blk_cell kB 0
  have ckB_1 : _ = some _ := blk_cell kB 1
  have ckB_2 : _ = some _ := blk_cell kB 2
  have fkB_0 := blk_free kB 0
  have fkB_1 := blk_free kB 1
  have fkB_2 := blk_free kB 2
  have okU := blk_older kU
  have ckU_0 : _ = some _ := blk_cell kU 0
  have ckU_1 : _ = some _ := blk_cell kU 1
  have ckU_2 : _ = some _ := blk_cell kU 2
  have fkU_0 := blk_free kU 0
  have fkU_1 := blk_free kU 1
  have fkU_2 := blk_free kU 2
  go_upto_region 5 with (go_at_call 10; refine Calls.mono (cY _ (Pts.to hpW bBel) (Pts.to hqW bBel)) ?_; rintro e w1 ⟨⟨A6, c6, rfl, hle6, hmx6, hnil6, hP6⟩, q6, rfl⟩)
  refine wp_named ?_
  intro V hV
  have kM2 : blk V M #[.int .i64 nx, .int .i64 ny, .slice A5 l.length c5] 34 := by rw [hV]; exact (by apply blk_of; (repeat (first | with_reducible exact kM | with_reducible apply blk_drew | with_reducible apply blk_gw | with_reducible apply blk_alloc | with_reducible apply blk_set | ((with_reducible apply blk_other); focus omega))); (first | rfl | simp))
  have kN2 : blk V (W.heap.size + q6.os.size) #[.int .i64 nx, .int .i64 ny, .slice A6 l.length c6] 34 := by rw [hV]; exact bBkn
  have hbV : Below w.heap.size w V := by rw [hV]; exact bBel
  have hPV : Cnts V A5 l := by rw [hV]; exact Cnts.to hPW bBel
  have hQV : Cnts V A6 l := by rw [hV]; exact Cnts.to hP6 bBel
  clear hV hP6 cY okA ckA_0 ckA_1 ckA_2 fkA_0 fkA_1 fkA_2 okT ckT_0 ckT_1 ckT_2 fkT_0 fkT_1 fkT_2 okB ckB_0 ckB_1 ckB_2 fkB_0 fkB_1 fkB_2 okU ckU_0 ckU_1 ckU_2 fkU_0 fkU_1 fkU_2 kA kT kB kU kM hpW hqW hPW hbW
  generalize W.heap.size + q6.os.size = E at *
  have hszV := hbV.size
  have okM2 := blk_older kM2
  have ckM2_0 : _ = some _ := blk_cell kM2 0
  have ckM2_1 : _ = some _ := blk_cell kM2 1
  have ckM2_2 : _ = some _ := blk_cell kM2 2
  have fkM2_0 := blk_free kM2 0
  have fkM2_1 := blk_free kM2 1
  have fkM2_2 := blk_free kM2 2
  have okN2 := blk_older kN2
  have ckN2_0 : _ = some _ := blk_cell kN2 0
  have ckN2_1 : _ = some _ := blk_cell kN2 1
  have ckN2_2 : _ = some _ := blk_cell kN2 2
  have fkN2_0 := blk_free kN2 0
  have fkN2_1 := blk_free kN2 1
  have fkN2_2 := blk_free kN2 2
  cases bo
  · go_wp2_with (first | (go_at_call 11; refine Calls.mono (gw_at (cE _ _ _ _ _ (Cnts.to hPV bBel) (Cnts.to hQV bBel))) ?_; rintro e w1 ⟨rfl, q7, rfl⟩) | (go_at_call 7; refine Calls.mono (gw_at (e0 _)) ?_; rintro e w1 ⟨rfl, q8, rfl⟩))
    go_ret
    exact ⟨rfl, bBel⟩
  · go_wp2_with (first | (go_at_call 11; refine Calls.mono (gw_at (cE _ _ _ _ _ (Cnts.to hPV bBel) (Cnts.to hQV bBel))) ?_; rintro e w1 ⟨rfl, q7, rfl⟩) | (go_at_call 7; refine Calls.mono (gw_at (e0 _)) ?_; rintro e w1 ⟨rfl, q8, rfl⟩))
    go_ret
    exact ⟨rfl, bBel⟩

end Go.Proofs.YtiecpebckmihgaaGreat
