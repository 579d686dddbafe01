/- Chapter 23: the reference's validation. -/
import Derived.Test.YtdmcdicphohlfaaGreatBkG
set_option linter.unusedVariables false
set_option linter.unusedSimpArgs false
namespace Go.Proofs.YtdmcdicphohlfaaGreat
open Go.RowKit Fx Go.Maps

set_option maxRecDepth 100000 in
set_option maxHeartbeats 16000000 in
theorem rinr23_b (b : Bdy) (w : World) : Calls Tryz.prog 58 #[.agg (bdc b).toArray] w fun e w' => e = .returned (.bool ((motB b && parB b))) ∧ Below w.heap.size w w' := by
  cases h0 : bet b.i 1 1099511627776
  focus
    have e : (motB b && parB b) = false := by unfold motB parB; simp [h0]
    rw [e]
    clear e
    have c0 := fun w' => boolIs (rbet_b b.i 1 1099511627776 w') h0
    clear h0
    go_enter Tryz.func58, Tryz.ntmps58
    go_upto_region 1 with fail
    refine wp_named ?_
    intro V hV
    have kb : blk V (w.heap.size) (bdc b).toArray 29 := by rw [hV]; exact bBkn
    have hbV : Below w.heap.size w V := by rw [hV]; exact bBel
    clear hV
    have hszV := hbV.size
    have ob := blk_older kb
    obtain ⟨cb0, cb1, cb2, cb3, cb4, cb5, cb6, cb7, cb8, cb9, cb10, cb11, cb12, cb13, cb14, cb15, cb16, cb17, cb18, cb19⟩ := bd_cells kb
    go_wp2_with (first | (go_at_call 63; with_reducible_and_instances refine Calls.mono (gw_at (c0 _)) ?_; rintro e w1 ⟨rfl, q, rfl⟩))
    go_ret
    exact ⟨rfl, bBel⟩
  cases h1 : tval b.px b.py b.pa
  focus
    have e : (motB b && parB b) = false := by unfold motB parB; simp [h0, h1]
    rw [e]
    clear e
    have c0 := fun w' => boolIs (rbet_b b.i 1 1099511627776 w') h0
    have c1 := fun w' => boolIs (rtval_b b.px b.py b.pa w') h1
    clear h0 h1
    go_enter Tryz.func58, Tryz.ntmps58
    go_upto_region 1 with fail
    refine wp_named ?_
    intro V hV
    have kb : blk V (w.heap.size) (bdc b).toArray 29 := by rw [hV]; exact bBkn
    have hbV : Below w.heap.size w V := by rw [hV]; exact bBel
    clear hV
    have hszV := hbV.size
    have ob := blk_older kb
    obtain ⟨cb0, cb1, cb2, cb3, cb4, cb5, cb6, cb7, cb8, cb9, cb10, cb11, cb12, cb13, cb14, cb15, cb16, cb17, cb18, cb19⟩ := bd_cells kb
    go_wp2_with (first | (go_at_call 63; with_reducible_and_instances refine Calls.mono (gw_at (c0 _)) ?_; rintro e w1 ⟨rfl, q, rfl⟩) | (go_at_call 123; with_reducible_and_instances refine Calls.mono (gw_at (c1 _)) ?_; rintro e w1 ⟨rfl, q, rfl⟩))
    go_ret
    exact ⟨rfl, bBel⟩
  cases h2 : bet b.vx (-16777216) 16777216
  focus
    have e : (motB b && parB b) = false := by unfold motB parB; simp [h0, h1, h2]
    rw [e]
    clear e
    have c0 := fun w' => boolIs (rbet_b b.i 1 1099511627776 w') h0
    have c1 := fun w' => boolIs (rtval_b b.px b.py b.pa w') h1
    have c2 := fun w' => boolIs (rbet_b b.vx (-16777216) 16777216 w') h2
    clear h0 h1 h2
    go_enter Tryz.func58, Tryz.ntmps58
    go_upto_region 1 with fail
    refine wp_named ?_
    intro V hV
    have kb : blk V (w.heap.size) (bdc b).toArray 29 := by rw [hV]; exact bBkn
    have hbV : Below w.heap.size w V := by rw [hV]; exact bBel
    clear hV
    have hszV := hbV.size
    have ob := blk_older kb
    obtain ⟨cb0, cb1, cb2, cb3, cb4, cb5, cb6, cb7, cb8, cb9, cb10, cb11, cb12, cb13, cb14, cb15, cb16, cb17, cb18, cb19⟩ := bd_cells kb
    go_wp2_with (first | (go_at_call 63; with_reducible_and_instances refine Calls.mono (gw_at (c0 _)) ?_; rintro e w1 ⟨rfl, q, rfl⟩) | (go_at_call 123; with_reducible_and_instances refine Calls.mono (gw_at (c1 _)) ?_; rintro e w1 ⟨rfl, q, rfl⟩) | (go_at_call 63; with_reducible_and_instances refine Calls.mono (gw_at (c2 _)) ?_; rintro e w1 ⟨rfl, q, rfl⟩))
    go_ret
    exact ⟨rfl, bBel⟩
  cases h3 : bet b.vy (-16777216) 16777216
  focus
    have e : (motB b && parB b) = false := by unfold motB parB; simp [h0, h1, h2, h3]
    rw [e]
    clear e
    have c0 := fun w' => boolIs (rbet_b b.i 1 1099511627776 w') h0
    have c1 := fun w' => boolIs (rtval_b b.px b.py b.pa w') h1
    have c2 := fun w' => boolIs (rbet_b b.vx (-16777216) 16777216 w') h2
    have c3 := fun w' => boolIs (rbet_b b.vy (-16777216) 16777216 w') h3
    clear h0 h1 h2 h3
    go_enter Tryz.func58, Tryz.ntmps58
    go_upto_region 1 with fail
    refine wp_named ?_
    intro V hV
    have kb : blk V (w.heap.size) (bdc b).toArray 29 := by rw [hV]; exact bBkn
    have hbV : Below w.heap.size w V := by rw [hV]; exact bBel
    clear hV
    have hszV := hbV.size
    have ob := blk_older kb
    obtain ⟨cb0, cb1, cb2, cb3, cb4, cb5, cb6, cb7, cb8, cb9, cb10, cb11, cb12, cb13, cb14, cb15, cb16, cb17, cb18, cb19⟩ := bd_cells kb
    go_wp2_with (first | (go_at_call 63; with_reducible_and_instances refine Calls.mono (gw_at (c0 _)) ?_; rintro e w1 ⟨rfl, q, rfl⟩) | (go_at_call 123; with_reducible_and_instances refine Calls.mono (gw_at (c1 _)) ?_; rintro e w1 ⟨rfl, q, rfl⟩) | (go_at_call 63; with_reducible_and_instances refine Calls.mono (gw_at (c2 _)) ?_; rintro e w1 ⟨rfl, q, rfl⟩) | (go_at_call 63; with_reducible_and_instances refine Calls.mono (gw_at (c3 _)) ?_; rintro e w1 ⟨rfl, q, rfl⟩))
    go_ret
    exact ⟨rfl, bBel⟩
  cases h4 : bet b.av (-4194304) 4194304
  focus
    have e : (motB b && parB b) = false := by unfold motB parB; simp [h0, h1, h2, h3, h4]
    rw [e]
    clear e
    have c0 := fun w' => boolIs (rbet_b b.i 1 1099511627776 w') h0
    have c1 := fun w' => boolIs (rtval_b b.px b.py b.pa w') h1
    have c2 := fun w' => boolIs (rbet_b b.vx (-16777216) 16777216 w') h2
    have c3 := fun w' => boolIs (rbet_b b.vy (-16777216) 16777216 w') h3
    have c4 := fun w' => boolIs (rbet_b b.av (-4194304) 4194304 w') h4
    clear h0 h1 h2 h3 h4
    go_enter Tryz.func58, Tryz.ntmps58
    go_upto_region 1 with fail
    refine wp_named ?_
    intro V hV
    have kb : blk V (w.heap.size) (bdc b).toArray 29 := by rw [hV]; exact bBkn
    have hbV : Below w.heap.size w V := by rw [hV]; exact bBel
    clear hV
    have hszV := hbV.size
    have ob := blk_older kb
    obtain ⟨cb0, cb1, cb2, cb3, cb4, cb5, cb6, cb7, cb8, cb9, cb10, cb11, cb12, cb13, cb14, cb15, cb16, cb17, cb18, cb19⟩ := bd_cells kb
    go_wp2_with (first | (go_at_call 63; with_reducible_and_instances refine Calls.mono (gw_at (c0 _)) ?_; rintro e w1 ⟨rfl, q, rfl⟩) | (go_at_call 123; with_reducible_and_instances refine Calls.mono (gw_at (c1 _)) ?_; rintro e w1 ⟨rfl, q, rfl⟩) | (go_at_call 63; with_reducible_and_instances refine Calls.mono (gw_at (c2 _)) ?_; rintro e w1 ⟨rfl, q, rfl⟩) | (go_at_call 63; with_reducible_and_instances refine Calls.mono (gw_at (c3 _)) ?_; rintro e w1 ⟨rfl, q, rfl⟩) | (go_at_call 63; with_reducible_and_instances refine Calls.mono (gw_at (c4 _)) ?_; rintro e w1 ⟨rfl, q, rfl⟩))
    go_ret
    exact ⟨rfl, bBel⟩
  cases h5 : bet b.fx (-536870911) 536870911
  focus
    have e : (motB b && parB b) = false := by unfold motB parB; simp [h0, h1, h2, h3, h4, h5]
    rw [e]
    clear e
    have c0 := fun w' => boolIs (rbet_b b.i 1 1099511627776 w') h0
    have c1 := fun w' => boolIs (rtval_b b.px b.py b.pa w') h1
    have c2 := fun w' => boolIs (rbet_b b.vx (-16777216) 16777216 w') h2
    have c3 := fun w' => boolIs (rbet_b b.vy (-16777216) 16777216 w') h3
    have c4 := fun w' => boolIs (rbet_b b.av (-4194304) 4194304 w') h4
    have c5 := fun w' => boolIs (rbet_b b.fx (-536870911) 536870911 w') h5
    clear h0 h1 h2 h3 h4 h5
    go_enter Tryz.func58, Tryz.ntmps58
    go_upto_region 1 with fail
    refine wp_named ?_
    intro V hV
    have kb : blk V (w.heap.size) (bdc b).toArray 29 := by rw [hV]; exact bBkn
    have hbV : Below w.heap.size w V := by rw [hV]; exact bBel
    clear hV
    have hszV := hbV.size
    have ob := blk_older kb
    obtain ⟨cb0, cb1, cb2, cb3, cb4, cb5, cb6, cb7, cb8, cb9, cb10, cb11, cb12, cb13, cb14, cb15, cb16, cb17, cb18, cb19⟩ := bd_cells kb
    go_wp2_with (first | (go_at_call 63; with_reducible_and_instances refine Calls.mono (gw_at (c0 _)) ?_; rintro e w1 ⟨rfl, q, rfl⟩) | (go_at_call 123; with_reducible_and_instances refine Calls.mono (gw_at (c1 _)) ?_; rintro e w1 ⟨rfl, q, rfl⟩) | (go_at_call 63; with_reducible_and_instances refine Calls.mono (gw_at (c2 _)) ?_; rintro e w1 ⟨rfl, q, rfl⟩) | (go_at_call 63; with_reducible_and_instances refine Calls.mono (gw_at (c3 _)) ?_; rintro e w1 ⟨rfl, q, rfl⟩) | (go_at_call 63; with_reducible_and_instances refine Calls.mono (gw_at (c4 _)) ?_; rintro e w1 ⟨rfl, q, rfl⟩) | (go_at_call 63; with_reducible_and_instances refine Calls.mono (gw_at (c5 _)) ?_; rintro e w1 ⟨rfl, q, rfl⟩))
    go_ret
    exact ⟨rfl, bBel⟩
  cases h6 : bet b.fy (-536870911) 536870911
  focus
    have e : (motB b && parB b) = false := by unfold motB parB; simp [h0, h1, h2, h3, h4, h5, h6]
    rw [e]
    clear e
    have c0 := fun w' => boolIs (rbet_b b.i 1 1099511627776 w') h0
    have c1 := fun w' => boolIs (rtval_b b.px b.py b.pa w') h1
    have c2 := fun w' => boolIs (rbet_b b.vx (-16777216) 16777216 w') h2
    have c3 := fun w' => boolIs (rbet_b b.vy (-16777216) 16777216 w') h3
    have c4 := fun w' => boolIs (rbet_b b.av (-4194304) 4194304 w') h4
    have c5 := fun w' => boolIs (rbet_b b.fx (-536870911) 536870911 w') h5
    have c6 := fun w' => boolIs (rbet_b b.fy (-536870911) 536870911 w') h6
    clear h0 h1 h2 h3 h4 h5 h6
    go_enter Tryz.func58, Tryz.ntmps58
    go_upto_region 1 with fail
    refine wp_named ?_
    intro V hV
    have kb : blk V (w.heap.size) (bdc b).toArray 29 := by rw [hV]; exact bBkn
    have hbV : Below w.heap.size w V := by rw [hV]; exact bBel
    clear hV
    have hszV := hbV.size
    have ob := blk_older kb
    obtain ⟨cb0, cb1, cb2, cb3, cb4, cb5, cb6, cb7, cb8, cb9, cb10, cb11, cb12, cb13, cb14, cb15, cb16, cb17, cb18, cb19⟩ := bd_cells kb
    go_wp2_with (first | (go_at_call 63; with_reducible_and_instances refine Calls.mono (gw_at (c0 _)) ?_; rintro e w1 ⟨rfl, q, rfl⟩) | (go_at_call 123; with_reducible_and_instances refine Calls.mono (gw_at (c1 _)) ?_; rintro e w1 ⟨rfl, q, rfl⟩) | (go_at_call 63; with_reducible_and_instances refine Calls.mono (gw_at (c2 _)) ?_; rintro e w1 ⟨rfl, q, rfl⟩) | (go_at_call 63; with_reducible_and_instances refine Calls.mono (gw_at (c3 _)) ?_; rintro e w1 ⟨rfl, q, rfl⟩) | (go_at_call 63; with_reducible_and_instances refine Calls.mono (gw_at (c4 _)) ?_; rintro e w1 ⟨rfl, q, rfl⟩) | (go_at_call 63; with_reducible_and_instances refine Calls.mono (gw_at (c5 _)) ?_; rintro e w1 ⟨rfl, q, rfl⟩) | (go_at_call 63; with_reducible_and_instances refine Calls.mono (gw_at (c6 _)) ?_; rintro e w1 ⟨rfl, q, rfl⟩))
    go_ret
    exact ⟨rfl, bBel⟩
  cases h7 : bet b.tq (-536870911) 536870911
  focus
    have e : (motB b && parB b) = false := by unfold motB parB; simp [h0, h1, h2, h3, h4, h5, h6, h7]
    rw [e]
    clear e
    have c0 := fun w' => boolIs (rbet_b b.i 1 1099511627776 w') h0
    have c1 := fun w' => boolIs (rtval_b b.px b.py b.pa w') h1
    have c2 := fun w' => boolIs (rbet_b b.vx (-16777216) 16777216 w') h2
    have c3 := fun w' => boolIs (rbet_b b.vy (-16777216) 16777216 w') h3
    have c4 := fun w' => boolIs (rbet_b b.av (-4194304) 4194304 w') h4
    have c5 := fun w' => boolIs (rbet_b b.fx (-536870911) 536870911 w') h5
    have c6 := fun w' => boolIs (rbet_b b.fy (-536870911) 536870911 w') h6
    have c7 := fun w' => boolIs (rbet_b b.tq (-536870911) 536870911 w') h7
    clear h0 h1 h2 h3 h4 h5 h6 h7
    go_enter Tryz.func58, Tryz.ntmps58
    go_upto_region 1 with fail
    refine wp_named ?_
    intro V hV
    have kb : blk V (w.heap.size) (bdc b).toArray 29 := by rw [hV]; exact bBkn
    have hbV : Below w.heap.size w V := by rw [hV]; exact bBel
    clear hV
    have hszV := hbV.size
    have ob := blk_older kb
    obtain ⟨cb0, cb1, cb2, cb3, cb4, cb5, cb6, cb7, cb8, cb9, cb10, cb11, cb12, cb13, cb14, cb15, cb16, cb17, cb18, cb19⟩ := bd_cells kb
    go_wp2_with (first | (go_at_call 63; with_reducible_and_instances refine Calls.mono (gw_at (c0 _)) ?_; rintro e w1 ⟨rfl, q, rfl⟩) | (go_at_call 123; with_reducible_and_instances refine Calls.mono (gw_at (c1 _)) ?_; rintro e w1 ⟨rfl, q, rfl⟩) | (go_at_call 63; with_reducible_and_instances refine Calls.mono (gw_at (c2 _)) ?_; rintro e w1 ⟨rfl, q, rfl⟩) | (go_at_call 63; with_reducible_and_instances refine Calls.mono (gw_at (c3 _)) ?_; rintro e w1 ⟨rfl, q, rfl⟩) | (go_at_call 63; with_reducible_and_instances refine Calls.mono (gw_at (c4 _)) ?_; rintro e w1 ⟨rfl, q, rfl⟩) | (go_at_call 63; with_reducible_and_instances refine Calls.mono (gw_at (c5 _)) ?_; rintro e w1 ⟨rfl, q, rfl⟩) | (go_at_call 63; with_reducible_and_instances refine Calls.mono (gw_at (c6 _)) ?_; rintro e w1 ⟨rfl, q, rfl⟩) | (go_at_call 63; with_reducible_and_instances refine Calls.mono (gw_at (c7 _)) ?_; rintro e w1 ⟨rfl, q, rfl⟩))
    go_ret
    exact ⟨rfl, bBel⟩
  cases h8 : bet b.ld 0 65536
  focus
    have e : (motB b && parB b) = false := by unfold motB parB; simp [h0, h1, h2, h3, h4, h5, h6, h7, h8]
    rw [e]
    clear e
    have c0 := fun w' => boolIs (rbet_b b.i 1 1099511627776 w') h0
    have c1 := fun w' => boolIs (rtval_b b.px b.py b.pa w') h1
    have c2 := fun w' => boolIs (rbet_b b.vx (-16777216) 16777216 w') h2
    have c3 := fun w' => boolIs (rbet_b b.vy (-16777216) 16777216 w') h3
    have c4 := fun w' => boolIs (rbet_b b.av (-4194304) 4194304 w') h4
    have c5 := fun w' => boolIs (rbet_b b.fx (-536870911) 536870911 w') h5
    have c6 := fun w' => boolIs (rbet_b b.fy (-536870911) 536870911 w') h6
    have c7 := fun w' => boolIs (rbet_b b.tq (-536870911) 536870911 w') h7
    have c8 := fun w' => boolIs (rbet_b b.ld 0 65536 w') h8
    clear h0 h1 h2 h3 h4 h5 h6 h7 h8
    go_enter Tryz.func58, Tryz.ntmps58
    go_upto_region 1 with fail
    refine wp_named ?_
    intro V hV
    have kb : blk V (w.heap.size) (bdc b).toArray 29 := by rw [hV]; exact bBkn
    have hbV : Below w.heap.size w V := by rw [hV]; exact bBel
    clear hV
    have hszV := hbV.size
    have ob := blk_older kb
    obtain ⟨cb0, cb1, cb2, cb3, cb4, cb5, cb6, cb7, cb8, cb9, cb10, cb11, cb12, cb13, cb14, cb15, cb16, cb17, cb18, cb19⟩ := bd_cells kb
    go_wp2_with (first | (go_at_call 63; with_reducible_and_instances refine Calls.mono (gw_at (c0 _)) ?_; rintro e w1 ⟨rfl, q, rfl⟩) | (go_at_call 123; with_reducible_and_instances refine Calls.mono (gw_at (c1 _)) ?_; rintro e w1 ⟨rfl, q, rfl⟩) | (go_at_call 63; with_reducible_and_instances refine Calls.mono (gw_at (c2 _)) ?_; rintro e w1 ⟨rfl, q, rfl⟩) | (go_at_call 63; with_reducible_and_instances refine Calls.mono (gw_at (c3 _)) ?_; rintro e w1 ⟨rfl, q, rfl⟩) | (go_at_call 63; with_reducible_and_instances refine Calls.mono (gw_at (c4 _)) ?_; rintro e w1 ⟨rfl, q, rfl⟩) | (go_at_call 63; with_reducible_and_instances refine Calls.mono (gw_at (c5 _)) ?_; rintro e w1 ⟨rfl, q, rfl⟩) | (go_at_call 63; with_reducible_and_instances refine Calls.mono (gw_at (c6 _)) ?_; rintro e w1 ⟨rfl, q, rfl⟩) | (go_at_call 63; with_reducible_and_instances refine Calls.mono (gw_at (c7 _)) ?_; rintro e w1 ⟨rfl, q, rfl⟩) | (go_at_call 63; with_reducible_and_instances refine Calls.mono (gw_at (c8 _)) ?_; rintro e w1 ⟨rfl, q, rfl⟩))
    go_ret
    exact ⟨rfl, bBel⟩
  cases h9 : bet b.ad 0 65536
  focus
    have e : (motB b && parB b) = false := by unfold motB parB; simp [h0, h1, h2, h3, h4, h5, h6, h7, h8, h9]
    rw [e]
    clear e
    have c0 := fun w' => boolIs (rbet_b b.i 1 1099511627776 w') h0
    have c1 := fun w' => boolIs (rtval_b b.px b.py b.pa w') h1
    have c2 := fun w' => boolIs (rbet_b b.vx (-16777216) 16777216 w') h2
    have c3 := fun w' => boolIs (rbet_b b.vy (-16777216) 16777216 w') h3
    have c4 := fun w' => boolIs (rbet_b b.av (-4194304) 4194304 w') h4
    have c5 := fun w' => boolIs (rbet_b b.fx (-536870911) 536870911 w') h5
    have c6 := fun w' => boolIs (rbet_b b.fy (-536870911) 536870911 w') h6
    have c7 := fun w' => boolIs (rbet_b b.tq (-536870911) 536870911 w') h7
    have c8 := fun w' => boolIs (rbet_b b.ld 0 65536 w') h8
    have c9 := fun w' => boolIs (rbet_b b.ad 0 65536 w') h9
    clear h0 h1 h2 h3 h4 h5 h6 h7 h8 h9
    go_enter Tryz.func58, Tryz.ntmps58
    go_upto_region 1 with fail
    refine wp_named ?_
    intro V hV
    have kb : blk V (w.heap.size) (bdc b).toArray 29 := by rw [hV]; exact bBkn
    have hbV : Below w.heap.size w V := by rw [hV]; exact bBel
    clear hV
    have hszV := hbV.size
    have ob := blk_older kb
    obtain ⟨cb0, cb1, cb2, cb3, cb4, cb5, cb6, cb7, cb8, cb9, cb10, cb11, cb12, cb13, cb14, cb15, cb16, cb17, cb18, cb19⟩ := bd_cells kb
    go_wp2_with (first | (go_at_call 63; with_reducible_and_instances refine Calls.mono (gw_at (c0 _)) ?_; rintro e w1 ⟨rfl, q, rfl⟩) | (go_at_call 123; with_reducible_and_instances refine Calls.mono (gw_at (c1 _)) ?_; rintro e w1 ⟨rfl, q, rfl⟩) | (go_at_call 63; with_reducible_and_instances refine Calls.mono (gw_at (c2 _)) ?_; rintro e w1 ⟨rfl, q, rfl⟩) | (go_at_call 63; with_reducible_and_instances refine Calls.mono (gw_at (c3 _)) ?_; rintro e w1 ⟨rfl, q, rfl⟩) | (go_at_call 63; with_reducible_and_instances refine Calls.mono (gw_at (c4 _)) ?_; rintro e w1 ⟨rfl, q, rfl⟩) | (go_at_call 63; with_reducible_and_instances refine Calls.mono (gw_at (c5 _)) ?_; rintro e w1 ⟨rfl, q, rfl⟩) | (go_at_call 63; with_reducible_and_instances refine Calls.mono (gw_at (c6 _)) ?_; rintro e w1 ⟨rfl, q, rfl⟩) | (go_at_call 63; with_reducible_and_instances refine Calls.mono (gw_at (c7 _)) ?_; rintro e w1 ⟨rfl, q, rfl⟩) | (go_at_call 63; with_reducible_and_instances refine Calls.mono (gw_at (c8 _)) ?_; rintro e w1 ⟨rfl, q, rfl⟩) | (go_at_call 63; with_reducible_and_instances refine Calls.mono (gw_at (c9 _)) ?_; rintro e w1 ⟨rfl, q, rfl⟩))
    go_ret
    exact ⟨rfl, bBel⟩
  cases h10 : bet b.gs (-262144) 262144
  focus
    have e : (motB b && parB b) = false := by unfold motB parB; simp [h0, h1, h2, h3, h4, h5, h6, h7, h8, h9, h10]
    rw [e]
    clear e
    have c0 := fun w' => boolIs (rbet_b b.i 1 1099511627776 w') h0
    have c1 := fun w' => boolIs (rtval_b b.px b.py b.pa w') h1
    have c2 := fun w' => boolIs (rbet_b b.vx (-16777216) 16777216 w') h2
    have c3 := fun w' => boolIs (rbet_b b.vy (-16777216) 16777216 w') h3
    have c4 := fun w' => boolIs (rbet_b b.av (-4194304) 4194304 w') h4
    have c5 := fun w' => boolIs (rbet_b b.fx (-536870911) 536870911 w') h5
    have c6 := fun w' => boolIs (rbet_b b.fy (-536870911) 536870911 w') h6
    have c7 := fun w' => boolIs (rbet_b b.tq (-536870911) 536870911 w') h7
    have c8 := fun w' => boolIs (rbet_b b.ld 0 65536 w') h8
    have c9 := fun w' => boolIs (rbet_b b.ad 0 65536 w') h9
    have c10 := fun w' => boolIs (rbet_b b.gs (-262144) 262144 w') h10
    clear h0 h1 h2 h3 h4 h5 h6 h7 h8 h9 h10
    go_enter Tryz.func58, Tryz.ntmps58
    go_upto_region 1 with fail
    refine wp_named ?_
    intro V hV
    have kb : blk V (w.heap.size) (bdc b).toArray 29 := by rw [hV]; exact bBkn
    have hbV : Below w.heap.size w V := by rw [hV]; exact bBel
    clear hV
    have hszV := hbV.size
    have ob := blk_older kb
    obtain ⟨cb0, cb1, cb2, cb3, cb4, cb5, cb6, cb7, cb8, cb9, cb10, cb11, cb12, cb13, cb14, cb15, cb16, cb17, cb18, cb19⟩ := bd_cells kb
    go_wp2_with (first | (go_at_call 63; with_reducible_and_instances refine Calls.mono (gw_at (c0 _)) ?_; rintro e w1 ⟨rfl, q, rfl⟩) | (go_at_call 123; with_reducible_and_instances refine Calls.mono (gw_at (c1 _)) ?_; rintro e w1 ⟨rfl, q, rfl⟩) | (go_at_call 63; with_reducible_and_instances refine Calls.mono (gw_at (c2 _)) ?_; rintro e w1 ⟨rfl, q, rfl⟩) | (go_at_call 63; with_reducible_and_instances refine Calls.mono (gw_at (c3 _)) ?_; rintro e w1 ⟨rfl, q, rfl⟩) | (go_at_call 63; with_reducible_and_instances refine Calls.mono (gw_at (c4 _)) ?_; rintro e w1 ⟨rfl, q, rfl⟩) | (go_at_call 63; with_reducible_and_instances refine Calls.mono (gw_at (c5 _)) ?_; rintro e w1 ⟨rfl, q, rfl⟩) | (go_at_call 63; with_reducible_and_instances refine Calls.mono (gw_at (c6 _)) ?_; rintro e w1 ⟨rfl, q, rfl⟩) | (go_at_call 63; with_reducible_and_instances refine Calls.mono (gw_at (c7 _)) ?_; rintro e w1 ⟨rfl, q, rfl⟩) | (go_at_call 63; with_reducible_and_instances refine Calls.mono (gw_at (c8 _)) ?_; rintro e w1 ⟨rfl, q, rfl⟩) | (go_at_call 63; with_reducible_and_instances refine Calls.mono (gw_at (c9 _)) ?_; rintro e w1 ⟨rfl, q, rfl⟩) | (go_at_call 63; with_reducible_and_instances refine Calls.mono (gw_at (c10 _)) ?_; rintro e w1 ⟨rfl, q, rfl⟩))
    go_ret
    exact ⟨rfl, bBel⟩
  cases h11 : bet b.idl 0 1048576
  focus
    have e : (motB b && parB b) = false := by unfold motB parB; simp [h0, h1, h2, h3, h4, h5, h6, h7, h8, h9, h10, h11]
    rw [e]
    clear e
    have c0 := fun w' => boolIs (rbet_b b.i 1 1099511627776 w') h0
    have c1 := fun w' => boolIs (rtval_b b.px b.py b.pa w') h1
    have c2 := fun w' => boolIs (rbet_b b.vx (-16777216) 16777216 w') h2
    have c3 := fun w' => boolIs (rbet_b b.vy (-16777216) 16777216 w') h3
    have c4 := fun w' => boolIs (rbet_b b.av (-4194304) 4194304 w') h4
    have c5 := fun w' => boolIs (rbet_b b.fx (-536870911) 536870911 w') h5
    have c6 := fun w' => boolIs (rbet_b b.fy (-536870911) 536870911 w') h6
    have c7 := fun w' => boolIs (rbet_b b.tq (-536870911) 536870911 w') h7
    have c8 := fun w' => boolIs (rbet_b b.ld 0 65536 w') h8
    have c9 := fun w' => boolIs (rbet_b b.ad 0 65536 w') h9
    have c10 := fun w' => boolIs (rbet_b b.gs (-262144) 262144 w') h10
    have c11 := fun w' => boolIs (rbet_b b.idl 0 1048576 w') h11
    clear h0 h1 h2 h3 h4 h5 h6 h7 h8 h9 h10 h11
    go_enter Tryz.func58, Tryz.ntmps58
    go_upto_region 1 with fail
    refine wp_named ?_
    intro V hV
    have kb : blk V (w.heap.size) (bdc b).toArray 29 := by rw [hV]; exact bBkn
    have hbV : Below w.heap.size w V := by rw [hV]; exact bBel
    clear hV
    have hszV := hbV.size
    have ob := blk_older kb
    obtain ⟨cb0, cb1, cb2, cb3, cb4, cb5, cb6, cb7, cb8, cb9, cb10, cb11, cb12, cb13, cb14, cb15, cb16, cb17, cb18, cb19⟩ := bd_cells kb
    go_wp2_with (first | (go_at_call 63; with_reducible_and_instances refine Calls.mono (gw_at (c0 _)) ?_; rintro e w1 ⟨rfl, q, rfl⟩) | (go_at_call 123; with_reducible_and_instances refine Calls.mono (gw_at (c1 _)) ?_; rintro e w1 ⟨rfl, q, rfl⟩) | (go_at_call 63; with_reducible_and_instances refine Calls.mono (gw_at (c2 _)) ?_; rintro e w1 ⟨rfl, q, rfl⟩) | (go_at_call 63; with_reducible_and_instances refine Calls.mono (gw_at (c3 _)) ?_; rintro e w1 ⟨rfl, q, rfl⟩) | (go_at_call 63; with_reducible_and_instances refine Calls.mono (gw_at (c4 _)) ?_; rintro e w1 ⟨rfl, q, rfl⟩) | (go_at_call 63; with_reducible_and_instances refine Calls.mono (gw_at (c5 _)) ?_; rintro e w1 ⟨rfl, q, rfl⟩) | (go_at_call 63; with_reducible_and_instances refine Calls.mono (gw_at (c6 _)) ?_; rintro e w1 ⟨rfl, q, rfl⟩) | (go_at_call 63; with_reducible_and_instances refine Calls.mono (gw_at (c7 _)) ?_; rintro e w1 ⟨rfl, q, rfl⟩) | (go_at_call 63; with_reducible_and_instances refine Calls.mono (gw_at (c8 _)) ?_; rintro e w1 ⟨rfl, q, rfl⟩) | (go_at_call 63; with_reducible_and_instances refine Calls.mono (gw_at (c9 _)) ?_; rintro e w1 ⟨rfl, q, rfl⟩) | (go_at_call 63; with_reducible_and_instances refine Calls.mono (gw_at (c10 _)) ?_; rintro e w1 ⟨rfl, q, rfl⟩) | (go_at_call 63; with_reducible_and_instances refine Calls.mono (gw_at (c11 _)) ?_; rintro e w1 ⟨rfl, q, rfl⟩))
    go_ret
    exact ⟨rfl, bBel⟩
  focus
    have e : (motB b && parB b) = true := by unfold motB parB; simp [h0, h1, h2, h3, h4, h5, h6, h7, h8, h9, h10, h11]
    rw [e]
    clear e
    have c0 := fun w' => boolIs (rbet_b b.i 1 1099511627776 w') h0
    have c1 := fun w' => boolIs (rtval_b b.px b.py b.pa w') h1
    have c2 := fun w' => boolIs (rbet_b b.vx (-16777216) 16777216 w') h2
    have c3 := fun w' => boolIs (rbet_b b.vy (-16777216) 16777216 w') h3
    have c4 := fun w' => boolIs (rbet_b b.av (-4194304) 4194304 w') h4
    have c5 := fun w' => boolIs (rbet_b b.fx (-536870911) 536870911 w') h5
    have c6 := fun w' => boolIs (rbet_b b.fy (-536870911) 536870911 w') h6
    have c7 := fun w' => boolIs (rbet_b b.tq (-536870911) 536870911 w') h7
    have c8 := fun w' => boolIs (rbet_b b.ld 0 65536 w') h8
    have c9 := fun w' => boolIs (rbet_b b.ad 0 65536 w') h9
    have c10 := fun w' => boolIs (rbet_b b.gs (-262144) 262144 w') h10
    have c11 := fun w' => boolIs (rbet_b b.idl 0 1048576 w') h11
    clear h0 h1 h2 h3 h4 h5 h6 h7 h8 h9 h10 h11
    go_enter Tryz.func58, Tryz.ntmps58
    go_upto_region 1 with fail
    refine wp_named ?_
    intro V hV
    have kb : blk V (w.heap.size) (bdc b).toArray 29 := by rw [hV]; exact bBkn
    have hbV : Below w.heap.size w V := by rw [hV]; exact bBel
    clear hV
    have hszV := hbV.size
    have ob := blk_older kb
    obtain ⟨cb0, cb1, cb2, cb3, cb4, cb5, cb6, cb7, cb8, cb9, cb10, cb11, cb12, cb13, cb14, cb15, cb16, cb17, cb18, cb19⟩ := bd_cells kb
    go_wp2_with (first | (go_at_call 63; with_reducible_and_instances refine Calls.mono (gw_at (c0 _)) ?_; rintro e w1 ⟨rfl, q, rfl⟩) | (go_at_call 123; with_reducible_and_instances refine Calls.mono (gw_at (c1 _)) ?_; rintro e w1 ⟨rfl, q, rfl⟩) | (go_at_call 63; with_reducible_and_instances refine Calls.mono (gw_at (c2 _)) ?_; rintro e w1 ⟨rfl, q, rfl⟩) | (go_at_call 63; with_reducible_and_instances refine Calls.mono (gw_at (c3 _)) ?_; rintro e w1 ⟨rfl, q, rfl⟩) | (go_at_call 63; with_reducible_and_instances refine Calls.mono (gw_at (c4 _)) ?_; rintro e w1 ⟨rfl, q, rfl⟩) | (go_at_call 63; with_reducible_and_instances refine Calls.mono (gw_at (c5 _)) ?_; rintro e w1 ⟨rfl, q, rfl⟩) | (go_at_call 63; with_reducible_and_instances refine Calls.mono (gw_at (c6 _)) ?_; rintro e w1 ⟨rfl, q, rfl⟩) | (go_at_call 63; with_reducible_and_instances refine Calls.mono (gw_at (c7 _)) ?_; rintro e w1 ⟨rfl, q, rfl⟩) | (go_at_call 63; with_reducible_and_instances refine Calls.mono (gw_at (c8 _)) ?_; rintro e w1 ⟨rfl, q, rfl⟩) | (go_at_call 63; with_reducible_and_instances refine Calls.mono (gw_at (c9 _)) ?_; rintro e w1 ⟨rfl, q, rfl⟩) | (go_at_call 63; with_reducible_and_instances refine Calls.mono (gw_at (c10 _)) ?_; rintro e w1 ⟨rfl, q, rfl⟩) | (go_at_call 63; with_reducible_and_instances refine Calls.mono (gw_at (c11 _)) ?_; rintro e w1 ⟨rfl, q, rfl⟩))
    go_ret
    exact ⟨rfl, bBel⟩

set_option maxRecDepth 100000 in
set_option maxHeartbeats 16000000 in
theorem rvf_b (f : Fxr) (w : World) (hl : f.ps.length ≤ 1000000) (h : Pts w f.A f.ps) : Calls Tryz.prog 16 #[.agg (fxc f).toArray] w fun e w' => e = .returned (.int .i64 (fxV f)) ∧ Below w.heap.size w w' := by
  have cV := fun w' h => rval_b f.K f.R f.A f.cap f.ps (by omega) w' h
  by_cases hv : valS f.K f.R f.ps = 0
  rotate_left
  · have e : fxV f = valS f.K f.R f.ps := by unfold fxV; rw [if_pos hv]
    rw [e]
    clear e
    have hz : (valS f.K f.R f.ps != 0) = true := by rw [bne_iff_ne]; exact hv
    clear hv
    generalize valS f.K f.R f.ps = v at *
    go_enter Tryz.func16, Tryz.ntmps16
    go_upto_region 1 with fail
    refine wp_named ?_
    intro V hV
    have kf : blk V (w.heap.size) (fxc f).toArray 35 := by rw [hV]; exact bBkn
    have hbV : Below w.heap.size w V := by rw [hV]; exact bBel
    clear hV
    have hszV := hbV.size
    have of := blk_older kf
    obtain ⟨cf0, cf1, cf2, cf3, cf4, cf5, cf6, cf7, cf8, cf9⟩ := fx_cells kf
    go_wp2_with (first | (go_at_call 62; with_reducible_and_instances refine Calls.mono (gw_at (cV _ (Pts.to h bBel))) ?_; rintro e w1 ⟨rfl, q, rfl⟩))
    go_ret
    exact ⟨rfl, bBel⟩
  rw [hv] at cV
  cases h0 : bet f.D 0 262144
  focus
    have e : fxV f = 6 := by unfold fxV matB filB; simp [hv, h0]
    rw [e]
    clear e
    have c0 := fun w' => boolIs (rbet_b f.D 0 262144 w') h0
    clear h0
    go_enter Tryz.func16, Tryz.ntmps16
    go_upto_region 1 with fail
    refine wp_named ?_
    intro V hV
    have kf : blk V (w.heap.size) (fxc f).toArray 35 := by rw [hV]; exact bBkn
    have hbV : Below w.heap.size w V := by rw [hV]; exact bBel
    clear hV
    have hszV := hbV.size
    have of := blk_older kf
    obtain ⟨cf0, cf1, cf2, cf3, cf4, cf5, cf6, cf7, cf8, cf9⟩ := fx_cells kf
    go_wp2_with (first | (go_at_call 62; with_reducible_and_instances refine Calls.mono (gw_at (cV _ (Pts.to h bBel))) ?_; rintro e w1 ⟨rfl, q, rfl⟩) | (go_at_call 63; with_reducible_and_instances refine Calls.mono (gw_at (c0 _)) ?_; rintro e w1 ⟨rfl, q, rfl⟩))
    go_ret
    exact ⟨rfl, bBel⟩
  cases h1 : bet f.F 0 131072
  focus
    have e : fxV f = 6 := by unfold fxV matB filB; simp [hv, h0, h1]
    rw [e]
    clear e
    have c0 := fun w' => boolIs (rbet_b f.D 0 262144 w') h0
    have c1 := fun w' => boolIs (rbet_b f.F 0 131072 w') h1
    clear h0 h1
    go_enter Tryz.func16, Tryz.ntmps16
    go_upto_region 1 with fail
    refine wp_named ?_
    intro V hV
    have kf : blk V (w.heap.size) (fxc f).toArray 35 := by rw [hV]; exact bBkn
    have hbV : Below w.heap.size w V := by rw [hV]; exact bBel
    clear hV
    have hszV := hbV.size
    have of := blk_older kf
    obtain ⟨cf0, cf1, cf2, cf3, cf4, cf5, cf6, cf7, cf8, cf9⟩ := fx_cells kf
    go_wp2_with (first | (go_at_call 62; with_reducible_and_instances refine Calls.mono (gw_at (cV _ (Pts.to h bBel))) ?_; rintro e w1 ⟨rfl, q, rfl⟩) | (go_at_call 63; with_reducible_and_instances refine Calls.mono (gw_at (c0 _)) ?_; rintro e w1 ⟨rfl, q, rfl⟩) | (go_at_call 63; with_reducible_and_instances refine Calls.mono (gw_at (c1 _)) ?_; rintro e w1 ⟨rfl, q, rfl⟩))
    go_ret
    exact ⟨rfl, bBel⟩
  cases h2 : bet f.E 0 65536
  focus
    have e : fxV f = 6 := by unfold fxV matB filB; simp [hv, h0, h1, h2]
    rw [e]
    clear e
    have c0 := fun w' => boolIs (rbet_b f.D 0 262144 w') h0
    have c1 := fun w' => boolIs (rbet_b f.F 0 131072 w') h1
    have c2 := fun w' => boolIs (rbet_b f.E 0 65536 w') h2
    clear h0 h1 h2
    go_enter Tryz.func16, Tryz.ntmps16
    go_upto_region 1 with fail
    refine wp_named ?_
    intro V hV
    have kf : blk V (w.heap.size) (fxc f).toArray 35 := by rw [hV]; exact bBkn
    have hbV : Below w.heap.size w V := by rw [hV]; exact bBel
    clear hV
    have hszV := hbV.size
    have of := blk_older kf
    obtain ⟨cf0, cf1, cf2, cf3, cf4, cf5, cf6, cf7, cf8, cf9⟩ := fx_cells kf
    go_wp2_with (first | (go_at_call 62; with_reducible_and_instances refine Calls.mono (gw_at (cV _ (Pts.to h bBel))) ?_; rintro e w1 ⟨rfl, q, rfl⟩) | (go_at_call 63; with_reducible_and_instances refine Calls.mono (gw_at (c0 _)) ?_; rintro e w1 ⟨rfl, q, rfl⟩) | (go_at_call 63; with_reducible_and_instances refine Calls.mono (gw_at (c1 _)) ?_; rintro e w1 ⟨rfl, q, rfl⟩) | (go_at_call 63; with_reducible_and_instances refine Calls.mono (gw_at (c2 _)) ?_; rintro e w1 ⟨rfl, q, rfl⟩))
    go_ret
    exact ⟨rfl, bBel⟩
  cases h3 : bet f.cat 0 65535
  focus
    have e : fxV f = 6 := by unfold fxV matB filB; simp [hv, h0, h1, h2, h3]
    rw [e]
    clear e
    have c0 := fun w' => boolIs (rbet_b f.D 0 262144 w') h0
    have c1 := fun w' => boolIs (rbet_b f.F 0 131072 w') h1
    have c2 := fun w' => boolIs (rbet_b f.E 0 65536 w') h2
    have c3 := fun w' => boolIs (rbet_b f.cat 0 65535 w') h3
    clear h0 h1 h2 h3
    go_enter Tryz.func16, Tryz.ntmps16
    go_upto_region 1 with fail
    refine wp_named ?_
    intro V hV
    have kf : blk V (w.heap.size) (fxc f).toArray 35 := by rw [hV]; exact bBkn
    have hbV : Below w.heap.size w V := by rw [hV]; exact bBel
    clear hV
    have hszV := hbV.size
    have of := blk_older kf
    obtain ⟨cf0, cf1, cf2, cf3, cf4, cf5, cf6, cf7, cf8, cf9⟩ := fx_cells kf
    go_wp2_with (first | (go_at_call 62; with_reducible_and_instances refine Calls.mono (gw_at (cV _ (Pts.to h bBel))) ?_; rintro e w1 ⟨rfl, q, rfl⟩) | (go_at_call 63; with_reducible_and_instances refine Calls.mono (gw_at (c0 _)) ?_; rintro e w1 ⟨rfl, q, rfl⟩) | (go_at_call 63; with_reducible_and_instances refine Calls.mono (gw_at (c1 _)) ?_; rintro e w1 ⟨rfl, q, rfl⟩) | (go_at_call 63; with_reducible_and_instances refine Calls.mono (gw_at (c2 _)) ?_; rintro e w1 ⟨rfl, q, rfl⟩) | (go_at_call 63; with_reducible_and_instances refine Calls.mono (gw_at (c3 _)) ?_; rintro e w1 ⟨rfl, q, rfl⟩))
    go_ret
    exact ⟨rfl, bBel⟩
  cases h4 : bet f.msk 0 65535
  focus
    have e : fxV f = 6 := by unfold fxV matB filB; simp [hv, h0, h1, h2, h3, h4]
    rw [e]
    clear e
    have c0 := fun w' => boolIs (rbet_b f.D 0 262144 w') h0
    have c1 := fun w' => boolIs (rbet_b f.F 0 131072 w') h1
    have c2 := fun w' => boolIs (rbet_b f.E 0 65536 w') h2
    have c3 := fun w' => boolIs (rbet_b f.cat 0 65535 w') h3
    have c4 := fun w' => boolIs (rbet_b f.msk 0 65535 w') h4
    clear h0 h1 h2 h3 h4
    go_enter Tryz.func16, Tryz.ntmps16
    go_upto_region 1 with fail
    refine wp_named ?_
    intro V hV
    have kf : blk V (w.heap.size) (fxc f).toArray 35 := by rw [hV]; exact bBkn
    have hbV : Below w.heap.size w V := by rw [hV]; exact bBel
    clear hV
    have hszV := hbV.size
    have of := blk_older kf
    obtain ⟨cf0, cf1, cf2, cf3, cf4, cf5, cf6, cf7, cf8, cf9⟩ := fx_cells kf
    go_wp2_with (first | (go_at_call 62; with_reducible_and_instances refine Calls.mono (gw_at (cV _ (Pts.to h bBel))) ?_; rintro e w1 ⟨rfl, q, rfl⟩) | (go_at_call 63; with_reducible_and_instances refine Calls.mono (gw_at (c0 _)) ?_; rintro e w1 ⟨rfl, q, rfl⟩) | (go_at_call 63; with_reducible_and_instances refine Calls.mono (gw_at (c1 _)) ?_; rintro e w1 ⟨rfl, q, rfl⟩) | (go_at_call 63; with_reducible_and_instances refine Calls.mono (gw_at (c2 _)) ?_; rintro e w1 ⟨rfl, q, rfl⟩) | (go_at_call 63; with_reducible_and_instances refine Calls.mono (gw_at (c3 _)) ?_; rintro e w1 ⟨rfl, q, rfl⟩) | (go_at_call 63; with_reducible_and_instances refine Calls.mono (gw_at (c4 _)) ?_; rintro e w1 ⟨rfl, q, rfl⟩))
    go_ret
    exact ⟨rfl, bBel⟩
  cases h5 : bet f.grp (-32) 32
  focus
    have e : fxV f = 6 := by unfold fxV matB filB; simp [hv, h0, h1, h2, h3, h4, h5]
    rw [e]
    clear e
    have c0 := fun w' => boolIs (rbet_b f.D 0 262144 w') h0
    have c1 := fun w' => boolIs (rbet_b f.F 0 131072 w') h1
    have c2 := fun w' => boolIs (rbet_b f.E 0 65536 w') h2
    have c3 := fun w' => boolIs (rbet_b f.cat 0 65535 w') h3
    have c4 := fun w' => boolIs (rbet_b f.msk 0 65535 w') h4
    have c5 := fun w' => boolIs (rbet_b f.grp (-32) 32 w') h5
    clear h0 h1 h2 h3 h4 h5
    go_enter Tryz.func16, Tryz.ntmps16
    go_upto_region 1 with fail
    refine wp_named ?_
    intro V hV
    have kf : blk V (w.heap.size) (fxc f).toArray 35 := by rw [hV]; exact bBkn
    have hbV : Below w.heap.size w V := by rw [hV]; exact bBel
    clear hV
    have hszV := hbV.size
    have of := blk_older kf
    obtain ⟨cf0, cf1, cf2, cf3, cf4, cf5, cf6, cf7, cf8, cf9⟩ := fx_cells kf
    go_wp2_with (first | (go_at_call 62; with_reducible_and_instances refine Calls.mono (gw_at (cV _ (Pts.to h bBel))) ?_; rintro e w1 ⟨rfl, q, rfl⟩) | (go_at_call 63; with_reducible_and_instances refine Calls.mono (gw_at (c0 _)) ?_; rintro e w1 ⟨rfl, q, rfl⟩) | (go_at_call 63; with_reducible_and_instances refine Calls.mono (gw_at (c1 _)) ?_; rintro e w1 ⟨rfl, q, rfl⟩) | (go_at_call 63; with_reducible_and_instances refine Calls.mono (gw_at (c2 _)) ?_; rintro e w1 ⟨rfl, q, rfl⟩) | (go_at_call 63; with_reducible_and_instances refine Calls.mono (gw_at (c3 _)) ?_; rintro e w1 ⟨rfl, q, rfl⟩) | (go_at_call 63; with_reducible_and_instances refine Calls.mono (gw_at (c4 _)) ?_; rintro e w1 ⟨rfl, q, rfl⟩) | (go_at_call 63; with_reducible_and_instances refine Calls.mono (gw_at (c5 _)) ?_; rintro e w1 ⟨rfl, q, rfl⟩))
    go_ret
    exact ⟨rfl, bBel⟩
  focus
    have e : fxV f = 0 := by unfold fxV matB filB; simp [hv, h0, h1, h2, h3, h4, h5]
    rw [e]
    clear e
    have c0 := fun w' => boolIs (rbet_b f.D 0 262144 w') h0
    have c1 := fun w' => boolIs (rbet_b f.F 0 131072 w') h1
    have c2 := fun w' => boolIs (rbet_b f.E 0 65536 w') h2
    have c3 := fun w' => boolIs (rbet_b f.cat 0 65535 w') h3
    have c4 := fun w' => boolIs (rbet_b f.msk 0 65535 w') h4
    have c5 := fun w' => boolIs (rbet_b f.grp (-32) 32 w') h5
    clear h0 h1 h2 h3 h4 h5
    go_enter Tryz.func16, Tryz.ntmps16
    go_upto_region 1 with fail
    refine wp_named ?_
    intro V hV
    have kf : blk V (w.heap.size) (fxc f).toArray 35 := by rw [hV]; exact bBkn
    have hbV : Below w.heap.size w V := by rw [hV]; exact bBel
    clear hV
    have hszV := hbV.size
    have of := blk_older kf
    obtain ⟨cf0, cf1, cf2, cf3, cf4, cf5, cf6, cf7, cf8, cf9⟩ := fx_cells kf
    go_wp2_with (first | (go_at_call 62; with_reducible_and_instances refine Calls.mono (gw_at (cV _ (Pts.to h bBel))) ?_; rintro e w1 ⟨rfl, q, rfl⟩) | (go_at_call 63; with_reducible_and_instances refine Calls.mono (gw_at (c0 _)) ?_; rintro e w1 ⟨rfl, q, rfl⟩) | (go_at_call 63; with_reducible_and_instances refine Calls.mono (gw_at (c1 _)) ?_; rintro e w1 ⟨rfl, q, rfl⟩) | (go_at_call 63; with_reducible_and_instances refine Calls.mono (gw_at (c2 _)) ?_; rintro e w1 ⟨rfl, q, rfl⟩) | (go_at_call 63; with_reducible_and_instances refine Calls.mono (gw_at (c3 _)) ?_; rintro e w1 ⟨rfl, q, rfl⟩) | (go_at_call 63; with_reducible_and_instances refine Calls.mono (gw_at (c4 _)) ?_; rintro e w1 ⟨rfl, q, rfl⟩) | (go_at_call 63; with_reducible_and_instances refine Calls.mono (gw_at (c5 _)) ?_; rintro e w1 ⟨rfl, q, rfl⟩))
    go_ret
    exact ⟨rfl, bBel⟩

def smB (b : Bdy) : Prop := b.fs.length ≤ 8 ∧ ∀ f ∈ b.fs, f.ps.length ≤ 20

set_option maxRecDepth 100000 in
set_option maxHeartbeats 16000000 in
theorem rsm_b (b : Bdy) (w : World) (h : BdIn w b) (D : Bool) (hD0 : D = true ↔ smB b) : Calls Tryz.prog 11 #[.agg (bdc b).toArray] w fun e w' => e = .returned (.bool D) ∧ Below w.heap.size w w' := by
  have hD : Hid (D = true ↔ smB b) := hD0
  clear hD0
  have hl9 : b.fs.length ≤ 9223372036854775807 := by have h1 := h.2.2.1; have h2 := h.2.2.2; unfold maxLen at h2; omega
  go_enter Tryz.func11, Tryz.ntmps11
  go_upto_region 1 with fail
  refine wp_named ?_
  intro W hW
  have kb : blk W (w.heap.size) (bdc b).toArray 29 := by rw [hW]; exact bBkn
  have hbW : Below w.heap.size w W := by rw [hW]; exact bBel
  clear hW
  have hszW := hbW.size
  have ob := blk_older kb
  obtain ⟨cb0, cb1, cb2, cb3, cb4, cb5, cb6, cb7, cb8, cb9, cb10, cb11, cb12, cb13, cb14, cb15, cb16, cb17, cb18, cb19⟩ := bd_cells kb
  have hF : Fxs W b.A b.fs := (h.to hbW).1
  clear h
  obtain ⟨A0, hA0⟩ : ∃ A0, b.A = A0 := ⟨_, rfl⟩
  rw [hA0] at hF
  have hA0H : Hid (b.A = A0) := hA0
  clear hA0
  go_wp2_with fail
  go_loopw [3] (fun i wr => ∃ k : Nat, k ≤ b.fs.length ∧ k ≤ 8 ∧ i = .int .i64 (k : Int) ∧ Hid (∀ j (h : j < b.fs.length), j < k → b.fs[j].ps.length ≤ 20) ∧ Below W.heap.size W wr) (fun i _ => b.fs.length - (intOf i).toNat)
  case atStart => exact ⟨0, by omega, by omega, rfl, (fun j h h2 => by omega), Below.refl _ _⟩
  case round =>
    obtain ⟨k, hk, hk8, rfl, hall, hbR⟩ := hrel
    have hszR := hbR.size
    have hbwR : Below w.heap.size w wr := Below.trans hbW (hbR.mono hszW)
    have kbR := blk_below hbR kb
    clear cb0 cb1 cb2 cb3 cb4 cb5 cb6 cb7 cb8 cb9 cb10 cb11 cb12 cb13 cb14 cb15 cb16 cb17 cb18 cb19 ob
    obtain ⟨cR0, cR1, cR2, cR3, cR4, cR5, cR6, cR7, cR8, cR9, cR10, cR11, cR12, cR13, cR14, cR15, cR16, cR17, cR18, cR19⟩ := bd_cells kbR
    have oB := blk_older kbR
    rw [hA0H.out] at cR19
    by_cases hlt : k < b.fs.length
    · have hltI : (k : Int) < (b.fs.length : Int) := by omega
      by_cases h8 : k < 8
      · have h8I : (k : Int) < 8 := by omega
        obtain ⟨b2, off2, rfl, hq, hr0⟩ := fxs_at23 hF hlt
        obtain ⟨og, hr⟩ := hr0 wr hbR
        have hn2 : Hid (b.fs[k].ps.length ≤ 20 → ∀ j (h : j < b.fs.length), j < k + 1 → b.fs[j].ps.length ≤ 20) := fun h2 j hj hjk => by
          rcases Nat.lt_or_eq_of_le (Nat.le_of_lt_succ hjk) with h3 | rfl
          · exact hall.out j hj h3
          · exact h2
        have hbad : Hid (20 < b.fs[k].ps.length → D = false) := fun h2 => by
          cases hDD : D
          · rfl
          · have := (hD.out.1 hDD).2 _ (List.getElem_mem hlt); omega
        have d2 : wr.cell? ⟨b2, off2 + k * 10 + 2, none⟩ = some (.slice b.fs[k].A b.fs[k].ps.length b.fs[k].cap) := hr 2 _ rfl
        clear hr hr0 hq hall
        generalize b.fs[k].ps.length = n at *
        generalize b.fs[k].A = fA at *
        generalize b.fs[k].cap = fc at *
        by_cases h20 : 20 < n
        · obtain rfl := hbad.out h20
          have h20I : (20 : Int) < (n : Int) := by omega
          clear hbad hn2
          go_wp2_with fail
          go_ret
          exact ⟨rfl, bBel⟩
        · have hn3 := show Hid _ from hn2.out (by omega)
          have h20I : ¬ (20 : Int) < (n : Int) := by omega
          clear hbad hn2
          go_wp2_with fail
          exact ⟨⟨k + 1, by omega, by omega, by go_num, hn3, hbR⟩, by (try go_num); simp [intOf]; (try omega)⟩
      · have h8I : ¬ (k : Int) < 8 := by omega
        obtain rfl : D = false := by
          cases hDD : D
          · rfl
          · have := (hD.out.1 hDD).1; omega
        have hle : decide ((b.fs.length : Int) ≤ 8) = false := by simp; omega
        have hle2 : ¬ (b.fs.length : Int) ≤ 8 := by omega
        go_wp2_with fail
        go_ret
        exact ⟨rfl, bBel⟩
    · obtain rfl : k = b.fs.length := by omega
      obtain rfl : D = true := hD.out.2 ⟨hk8, fun f hf => by
        obtain ⟨i, hi, rfl⟩ := List.mem_iff_getElem.1 hf
        exact hall.out i hi hi⟩
      have hle : (b.fs.length : Int) ≤ 8 := by omega
      go_wp2_with fail
      go_ret
      exact ⟨rfl, bBel⟩


end Go.Proofs.YtdmcdicphohlfaaGreat
