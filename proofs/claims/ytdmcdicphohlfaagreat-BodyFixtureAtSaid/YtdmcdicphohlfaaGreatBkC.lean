/- Chapter 23: the program's tests on numbers. -/
import Derived.Test.YtdmcdicphohlfaaGreatBkB
set_option linter.unusedVariables false
set_option linter.unusedSimpArgs false
namespace Go.Proofs.YtdmcdicphohlfaaGreat
open Go.RowKit Fx Go.Maps

theorem pbet_b (x l h : Int) (w : World) : Calls Tryz.prog 121 #[.int .i64 x, .int .i64 l, .int .i64 h] w fun e w' => e = .returned (.bool (bet x l h)) ∧ Below w.heap.size w w' := by
  go_enter Tryz.func121, Tryz.ntmps121
  go_wp2_with fail
  all_goals (go_ret; refine ⟨?_, bBel⟩; first | rfl | (simp [bet]; done) | (simp [bet]; omega) | (simp [bet]; rw [Bool.eq_iff_iff]; first | (simp; done) | (simp; omega)))

theorem rbet_b (x l h : Int) (w : World) : Calls Tryz.prog 63 #[.int .i64 x, .int .i64 l, .int .i64 h] w fun e w' => e = .returned (.bool (bet x l h)) ∧ Below w.heap.size w w' := by
  go_enter Tryz.func63, Tryz.ntmps63
  go_wp2_with fail
  all_goals (go_ret; refine ⟨?_, bBel⟩; first | rfl | (simp [bet]; done) | (simp [bet]; omega) | (simp [bet]; rw [Bool.eq_iff_iff]; first | (simp; done) | (simp; omega)))

theorem piw_b (x l : Int) (hl : -4611686018427387904 ≤ l ∧ l ≤ 4611686018427387904) (w : World) : Calls Tryz.prog 120 #[.int .i64 x, .int .i64 l] w fun e w' => e = .returned (.bool (bet x (-l) l)) ∧ Below w.heap.size w w' := by
  have hw : IntKind.i64.wrap (-l) = -l := by rw [IntKind.wrap_i64]; omega
  have c0 := fun w' => pbet_b x (-l) l w'
  generalize bet x (-l) l = B at *
  go_enter Tryz.func120, Tryz.ntmps120
  go_wp2_with (first | (go_at_call 121; with_reducible_and_instances refine Calls.mono (gw_at (c0 _)) ?_; rintro e w1 ⟨rfl, q, rfl⟩))
  go_ret
  exact ⟨rfl, bBel⟩

theorem pkn_b (K : Int) (w : World) : Calls Tryz.prog 51 #[.int .i64 K] w fun e w' => e = .returned (.bool (known K)) ∧ Below w.heap.size w w' := by
  go_enter Tryz.func51, Tryz.ntmps51
  go_wp2_with fail
  all_goals (go_ret; refine ⟨?_, bBel⟩; first | rfl | (simp [known]; done) | (simp [known]; omega) | (simp [known]; rw [Bool.eq_iff_iff]; first | (simp; done) | (simp; omega)))

set_option maxHeartbeats 4000000 in
theorem paw_b (x y l : Int) (hl : -4611686018427387904 ≤ l ∧ l ≤ 4611686018427387904) (w : World) : Calls Tryz.prog 119 #[.agg #[.int .i64 x, .int .i64 y], .int .i64 l] w fun e w' => e = .returned (.bool (bet x (-l) l && bet y (-l) l)) ∧ Below w.heap.size w w' := by
  have c0 := fun w' => piw_b x l hl w'
  have c1 := fun w' => piw_b y l hl w'
  generalize bet x (-l) l = B at *
  generalize bet y (-l) l = C at *
  cases B
  all_goals
    go_enter Tryz.func119, Tryz.ntmps119
    go_wp2_with (first | (go_at_call 120; with_reducible_and_instances refine Calls.mono (gw_at (c0 _)) ?_; rintro e w1 ⟨rfl, q, rfl⟩) | (go_at_call 120; with_reducible_and_instances refine Calls.mono (gw_at (c1 _)) ?_; rintro e w1 ⟨rfl, q, rfl⟩))
    go_ret
    exact ⟨rfl, bBel⟩

set_option maxRecDepth 100000 in
set_option maxHeartbeats 16000000 in
theorem pmat_b (f : Fxr) (w : World) : Calls Tryz.prog 60 #[.agg (fxc f).toArray] w fun e w' => e = .returned (.bool (matB f)) ∧ Below w.heap.size w w' := by
  cases h0 : bet f.D 0 262144
  focus
    have e : matB f = false := by unfold matB; simp [h0]
    rw [e]
    clear e
    have c0 := fun w' => boolIs (pbet_b f.D 0 262144 w') h0
    clear h0
    go_enter Tryz.func60, Tryz.ntmps60
    go_upto_region 1 with fail
    refine wp_named ?_
    intro V hV
    have kf : blk V (w.heap.size) (fxc f).toArray 35 := by rw [hV]; exact bBkn
    have hbV : Below w.heap.size w V := by rw [hV]; exact bBel
    clear hV
    have hszV := hbV.size
    have of := blk_older kf
    obtain ⟨cf0, cf1, cf2, cf3, cf4, cf5, cf6, cf7, cf8, cf9⟩ := fx_cells kf
    go_wp2_with (first | (go_at_call 121; with_reducible_and_instances refine Calls.mono (gw_at (c0 _)) ?_; rintro e w1 ⟨rfl, q, rfl⟩))
    go_ret
    exact ⟨rfl, bBel⟩
  cases h1 : bet f.F 0 131072
  focus
    have e : matB f = false := by unfold matB; simp [h0, h1]
    rw [e]
    clear e
    have c0 := fun w' => boolIs (pbet_b f.D 0 262144 w') h0
    have c1 := fun w' => boolIs (pbet_b f.F 0 131072 w') h1
    clear h0 h1
    go_enter Tryz.func60, Tryz.ntmps60
    go_upto_region 1 with fail
    refine wp_named ?_
    intro V hV
    have kf : blk V (w.heap.size) (fxc f).toArray 35 := by rw [hV]; exact bBkn
    have hbV : Below w.heap.size w V := by rw [hV]; exact bBel
    clear hV
    have hszV := hbV.size
    have of := blk_older kf
    obtain ⟨cf0, cf1, cf2, cf3, cf4, cf5, cf6, cf7, cf8, cf9⟩ := fx_cells kf
    go_wp2_with (first | (go_at_call 121; with_reducible_and_instances refine Calls.mono (gw_at (c0 _)) ?_; rintro e w1 ⟨rfl, q, rfl⟩) | (go_at_call 121; with_reducible_and_instances refine Calls.mono (gw_at (c1 _)) ?_; rintro e w1 ⟨rfl, q, rfl⟩))
    go_ret
    exact ⟨rfl, bBel⟩
  cases h2 : bet f.E 0 65536
  focus
    have e : matB f = false := by unfold matB; simp [h0, h1, h2]
    rw [e]
    clear e
    have c0 := fun w' => boolIs (pbet_b f.D 0 262144 w') h0
    have c1 := fun w' => boolIs (pbet_b f.F 0 131072 w') h1
    have c2 := fun w' => boolIs (pbet_b f.E 0 65536 w') h2
    clear h0 h1 h2
    go_enter Tryz.func60, Tryz.ntmps60
    go_upto_region 1 with fail
    refine wp_named ?_
    intro V hV
    have kf : blk V (w.heap.size) (fxc f).toArray 35 := by rw [hV]; exact bBkn
    have hbV : Below w.heap.size w V := by rw [hV]; exact bBel
    clear hV
    have hszV := hbV.size
    have of := blk_older kf
    obtain ⟨cf0, cf1, cf2, cf3, cf4, cf5, cf6, cf7, cf8, cf9⟩ := fx_cells kf
    go_wp2_with (first | (go_at_call 121; with_reducible_and_instances refine Calls.mono (gw_at (c0 _)) ?_; rintro e w1 ⟨rfl, q, rfl⟩) | (go_at_call 121; with_reducible_and_instances refine Calls.mono (gw_at (c1 _)) ?_; rintro e w1 ⟨rfl, q, rfl⟩) | (go_at_call 121; with_reducible_and_instances refine Calls.mono (gw_at (c2 _)) ?_; rintro e w1 ⟨rfl, q, rfl⟩))
    go_ret
    exact ⟨rfl, bBel⟩
  focus
    have e : matB f = true := by unfold matB; simp [h0, h1, h2]
    rw [e]
    clear e
    have c0 := fun w' => boolIs (pbet_b f.D 0 262144 w') h0
    have c1 := fun w' => boolIs (pbet_b f.F 0 131072 w') h1
    have c2 := fun w' => boolIs (pbet_b f.E 0 65536 w') h2
    clear h0 h1 h2
    go_enter Tryz.func60, Tryz.ntmps60
    go_upto_region 1 with fail
    refine wp_named ?_
    intro V hV
    have kf : blk V (w.heap.size) (fxc f).toArray 35 := by rw [hV]; exact bBkn
    have hbV : Below w.heap.size w V := by rw [hV]; exact bBel
    clear hV
    have hszV := hbV.size
    have of := blk_older kf
    obtain ⟨cf0, cf1, cf2, cf3, cf4, cf5, cf6, cf7, cf8, cf9⟩ := fx_cells kf
    go_wp2_with (first | (go_at_call 121; with_reducible_and_instances refine Calls.mono (gw_at (c0 _)) ?_; rintro e w1 ⟨rfl, q, rfl⟩) | (go_at_call 121; with_reducible_and_instances refine Calls.mono (gw_at (c1 _)) ?_; rintro e w1 ⟨rfl, q, rfl⟩) | (go_at_call 121; with_reducible_and_instances refine Calls.mono (gw_at (c2 _)) ?_; rintro e w1 ⟨rfl, q, rfl⟩))
    go_ret
    exact ⟨rfl, bBel⟩

set_option maxRecDepth 100000 in
set_option maxHeartbeats 16000000 in
theorem pfil_b (f : Fxr) (w : World) : Calls Tryz.prog 61 #[.agg (fxc f).toArray] w fun e w' => e = .returned (.bool (filB f)) ∧ Below w.heap.size w w' := by
  cases h0 : bet f.cat 0 65535
  focus
    have e : filB f = false := by unfold filB; simp [h0]
    rw [e]
    clear e
    have c0 := fun w' => boolIs (pbet_b f.cat 0 65535 w') h0
    clear h0
    go_enter Tryz.func61, Tryz.ntmps61
    go_upto_region 1 with fail
    refine wp_named ?_
    intro V hV
    have kf : blk V (w.heap.size) (fxc f).toArray 35 := by rw [hV]; exact bBkn
    have hbV : Below w.heap.size w V := by rw [hV]; exact bBel
    clear hV
    have hszV := hbV.size
    have of := blk_older kf
    obtain ⟨cf0, cf1, cf2, cf3, cf4, cf5, cf6, cf7, cf8, cf9⟩ := fx_cells kf
    go_wp2_with (first | (go_at_call 121; with_reducible_and_instances refine Calls.mono (gw_at (c0 _)) ?_; rintro e w1 ⟨rfl, q, rfl⟩))
    go_ret
    exact ⟨rfl, bBel⟩
  cases h1 : bet f.msk 0 65535
  focus
    have e : filB f = false := by unfold filB; simp [h0, h1]
    rw [e]
    clear e
    have c0 := fun w' => boolIs (pbet_b f.cat 0 65535 w') h0
    have c1 := fun w' => boolIs (pbet_b f.msk 0 65535 w') h1
    clear h0 h1
    go_enter Tryz.func61, Tryz.ntmps61
    go_upto_region 1 with fail
    refine wp_named ?_
    intro V hV
    have kf : blk V (w.heap.size) (fxc f).toArray 35 := by rw [hV]; exact bBkn
    have hbV : Below w.heap.size w V := by rw [hV]; exact bBel
    clear hV
    have hszV := hbV.size
    have of := blk_older kf
    obtain ⟨cf0, cf1, cf2, cf3, cf4, cf5, cf6, cf7, cf8, cf9⟩ := fx_cells kf
    go_wp2_with (first | (go_at_call 121; with_reducible_and_instances refine Calls.mono (gw_at (c0 _)) ?_; rintro e w1 ⟨rfl, q, rfl⟩) | (go_at_call 121; with_reducible_and_instances refine Calls.mono (gw_at (c1 _)) ?_; rintro e w1 ⟨rfl, q, rfl⟩))
    go_ret
    exact ⟨rfl, bBel⟩
  cases h2 : bet f.grp (-32) 32
  focus
    have e : filB f = false := by unfold filB; simp [h0, h1, h2]
    rw [e]
    clear e
    have c0 := fun w' => boolIs (pbet_b f.cat 0 65535 w') h0
    have c1 := fun w' => boolIs (pbet_b f.msk 0 65535 w') h1
    have c2 := fun w' => boolIs (piw_b f.grp 32 (by decide) w') h2
    clear h0 h1 h2
    go_enter Tryz.func61, Tryz.ntmps61
    go_upto_region 1 with fail
    refine wp_named ?_
    intro V hV
    have kf : blk V (w.heap.size) (fxc f).toArray 35 := by rw [hV]; exact bBkn
    have hbV : Below w.heap.size w V := by rw [hV]; exact bBel
    clear hV
    have hszV := hbV.size
    have of := blk_older kf
    obtain ⟨cf0, cf1, cf2, cf3, cf4, cf5, cf6, cf7, cf8, cf9⟩ := fx_cells kf
    go_wp2_with (first | (go_at_call 121; with_reducible_and_instances refine Calls.mono (gw_at (c0 _)) ?_; rintro e w1 ⟨rfl, q, rfl⟩) | (go_at_call 121; with_reducible_and_instances refine Calls.mono (gw_at (c1 _)) ?_; rintro e w1 ⟨rfl, q, rfl⟩) | (go_at_call 120; with_reducible_and_instances refine Calls.mono (gw_at (c2 _)) ?_; rintro e w1 ⟨rfl, q, rfl⟩))
    go_ret
    exact ⟨rfl, bBel⟩
  focus
    have e : filB f = true := by unfold filB; simp [h0, h1, h2]
    rw [e]
    clear e
    have c0 := fun w' => boolIs (pbet_b f.cat 0 65535 w') h0
    have c1 := fun w' => boolIs (pbet_b f.msk 0 65535 w') h1
    have c2 := fun w' => boolIs (piw_b f.grp 32 (by decide) w') h2
    clear h0 h1 h2
    go_enter Tryz.func61, Tryz.ntmps61
    go_upto_region 1 with fail
    refine wp_named ?_
    intro V hV
    have kf : blk V (w.heap.size) (fxc f).toArray 35 := by rw [hV]; exact bBkn
    have hbV : Below w.heap.size w V := by rw [hV]; exact bBel
    clear hV
    have hszV := hbV.size
    have of := blk_older kf
    obtain ⟨cf0, cf1, cf2, cf3, cf4, cf5, cf6, cf7, cf8, cf9⟩ := fx_cells kf
    go_wp2_with (first | (go_at_call 121; with_reducible_and_instances refine Calls.mono (gw_at (c0 _)) ?_; rintro e w1 ⟨rfl, q, rfl⟩) | (go_at_call 121; with_reducible_and_instances refine Calls.mono (gw_at (c1 _)) ?_; rintro e w1 ⟨rfl, q, rfl⟩) | (go_at_call 120; with_reducible_and_instances refine Calls.mono (gw_at (c2 _)) ?_; rintro e w1 ⟨rfl, q, rfl⟩))
    go_ret
    exact ⟨rfl, bBel⟩

set_option maxRecDepth 100000 in
set_option maxHeartbeats 16000000 in
theorem pmot_b (b : Bdy) (w : World) : Calls Tryz.prog 52 #[.agg (bdc b).toArray] w fun e w' => e = .returned (.bool (motB b)) ∧ Below w.heap.size w w' := by
  cases h0 : tval b.px b.py b.pa
  focus
    have e : motB b = false := by unfold motB; simp [h0]
    rw [e]
    clear e
    have c0 := fun w' => boolIs (tval_b b.px b.py b.pa w') h0
    clear h0
    go_enter Tryz.func52, Tryz.ntmps52
    go_upto_region 1 with fail
    refine wp_named ?_
    intro V hV
    have kb : blk V (w.heap.size) (bdc b).toArray 29 := by rw [hV]; exact bBkn
    have hbV : Below w.heap.size w V := by rw [hV]; exact bBel
    clear hV
    have hszV := hbV.size
    have ob := blk_older kb
    obtain ⟨cb0, cb1, cb2, cb3, cb4, cb5, cb6, cb7, cb8, cb9, cb10, cb11, cb12, cb13, cb14, cb15, cb16, cb17, cb18, cb19⟩ := bd_cells kb
    go_wp2_with (first | (go_at_call 118; with_reducible_and_instances refine Calls.mono (gw_at (c0 _)) ?_; rintro e w1 ⟨rfl, q, rfl⟩))
    go_ret
    exact ⟨rfl, bBel⟩
  cases h1 : (bet b.vx (-16777216) 16777216 && bet b.vy (-16777216) 16777216)
  focus
    have e : motB b = false := by unfold motB; simp [h0, h1]
    rw [e]
    clear e
    have c0 := fun w' => boolIs (tval_b b.px b.py b.pa w') h0
    have c1 := fun w' => boolIs (paw_b b.vx b.vy 16777216 (by decide) w') h1
    clear h0 h1
    go_enter Tryz.func52, Tryz.ntmps52
    go_upto_region 1 with fail
    refine wp_named ?_
    intro V hV
    have kb : blk V (w.heap.size) (bdc b).toArray 29 := by rw [hV]; exact bBkn
    have hbV : Below w.heap.size w V := by rw [hV]; exact bBel
    clear hV
    have hszV := hbV.size
    have ob := blk_older kb
    obtain ⟨cb0, cb1, cb2, cb3, cb4, cb5, cb6, cb7, cb8, cb9, cb10, cb11, cb12, cb13, cb14, cb15, cb16, cb17, cb18, cb19⟩ := bd_cells kb
    go_wp2_with (first | (go_at_call 118; with_reducible_and_instances refine Calls.mono (gw_at (c0 _)) ?_; rintro e w1 ⟨rfl, q, rfl⟩) | (go_at_call 119; with_reducible_and_instances refine Calls.mono (gw_at (c1 _)) ?_; rintro e w1 ⟨rfl, q, rfl⟩))
    go_ret
    exact ⟨rfl, bBel⟩
  cases h2 : bet b.av (-4194304) 4194304
  focus
    have e : motB b = false := by unfold motB; simp [h0, h1, h2]
    rw [e]
    clear e
    have c0 := fun w' => boolIs (tval_b b.px b.py b.pa w') h0
    have c1 := fun w' => boolIs (paw_b b.vx b.vy 16777216 (by decide) w') h1
    have c2 := fun w' => boolIs (piw_b b.av 4194304 (by decide) w') h2
    clear h0 h1 h2
    go_enter Tryz.func52, Tryz.ntmps52
    go_upto_region 1 with fail
    refine wp_named ?_
    intro V hV
    have kb : blk V (w.heap.size) (bdc b).toArray 29 := by rw [hV]; exact bBkn
    have hbV : Below w.heap.size w V := by rw [hV]; exact bBel
    clear hV
    have hszV := hbV.size
    have ob := blk_older kb
    obtain ⟨cb0, cb1, cb2, cb3, cb4, cb5, cb6, cb7, cb8, cb9, cb10, cb11, cb12, cb13, cb14, cb15, cb16, cb17, cb18, cb19⟩ := bd_cells kb
    go_wp2_with (first | (go_at_call 118; with_reducible_and_instances refine Calls.mono (gw_at (c0 _)) ?_; rintro e w1 ⟨rfl, q, rfl⟩) | (go_at_call 119; with_reducible_and_instances refine Calls.mono (gw_at (c1 _)) ?_; rintro e w1 ⟨rfl, q, rfl⟩) | (go_at_call 120; with_reducible_and_instances refine Calls.mono (gw_at (c2 _)) ?_; rintro e w1 ⟨rfl, q, rfl⟩))
    go_ret
    exact ⟨rfl, bBel⟩
  cases h3 : (bet b.fx (-536870911) 536870911 && bet b.fy (-536870911) 536870911)
  focus
    have e : motB b = false := by unfold motB; simp [h0, h1, h2, h3]
    rw [e]
    clear e
    have c0 := fun w' => boolIs (tval_b b.px b.py b.pa w') h0
    have c1 := fun w' => boolIs (paw_b b.vx b.vy 16777216 (by decide) w') h1
    have c2 := fun w' => boolIs (piw_b b.av 4194304 (by decide) w') h2
    have c3 := fun w' => boolIs (paw_b b.fx b.fy 536870911 (by decide) w') h3
    clear h0 h1 h2 h3
    go_enter Tryz.func52, Tryz.ntmps52
    go_upto_region 1 with fail
    refine wp_named ?_
    intro V hV
    have kb : blk V (w.heap.size) (bdc b).toArray 29 := by rw [hV]; exact bBkn
    have hbV : Below w.heap.size w V := by rw [hV]; exact bBel
    clear hV
    have hszV := hbV.size
    have ob := blk_older kb
    obtain ⟨cb0, cb1, cb2, cb3, cb4, cb5, cb6, cb7, cb8, cb9, cb10, cb11, cb12, cb13, cb14, cb15, cb16, cb17, cb18, cb19⟩ := bd_cells kb
    go_wp2_with (first | (go_at_call 118; with_reducible_and_instances refine Calls.mono (gw_at (c0 _)) ?_; rintro e w1 ⟨rfl, q, rfl⟩) | (go_at_call 119; with_reducible_and_instances refine Calls.mono (gw_at (c1 _)) ?_; rintro e w1 ⟨rfl, q, rfl⟩) | (go_at_call 120; with_reducible_and_instances refine Calls.mono (gw_at (c2 _)) ?_; rintro e w1 ⟨rfl, q, rfl⟩) | (go_at_call 119; with_reducible_and_instances refine Calls.mono (gw_at (c3 _)) ?_; rintro e w1 ⟨rfl, q, rfl⟩))
    go_ret
    exact ⟨rfl, bBel⟩
  cases h4 : bet b.tq (-536870911) 536870911
  focus
    have e : motB b = false := by unfold motB; simp [h0, h1, h2, h3, h4]
    rw [e]
    clear e
    have c0 := fun w' => boolIs (tval_b b.px b.py b.pa w') h0
    have c1 := fun w' => boolIs (paw_b b.vx b.vy 16777216 (by decide) w') h1
    have c2 := fun w' => boolIs (piw_b b.av 4194304 (by decide) w') h2
    have c3 := fun w' => boolIs (paw_b b.fx b.fy 536870911 (by decide) w') h3
    have c4 := fun w' => boolIs (piw_b b.tq 536870911 (by decide) w') h4
    clear h0 h1 h2 h3 h4
    go_enter Tryz.func52, Tryz.ntmps52
    go_upto_region 1 with fail
    refine wp_named ?_
    intro V hV
    have kb : blk V (w.heap.size) (bdc b).toArray 29 := by rw [hV]; exact bBkn
    have hbV : Below w.heap.size w V := by rw [hV]; exact bBel
    clear hV
    have hszV := hbV.size
    have ob := blk_older kb
    obtain ⟨cb0, cb1, cb2, cb3, cb4, cb5, cb6, cb7, cb8, cb9, cb10, cb11, cb12, cb13, cb14, cb15, cb16, cb17, cb18, cb19⟩ := bd_cells kb
    go_wp2_with (first | (go_at_call 118; with_reducible_and_instances refine Calls.mono (gw_at (c0 _)) ?_; rintro e w1 ⟨rfl, q, rfl⟩) | (go_at_call 119; with_reducible_and_instances refine Calls.mono (gw_at (c1 _)) ?_; rintro e w1 ⟨rfl, q, rfl⟩) | (go_at_call 120; with_reducible_and_instances refine Calls.mono (gw_at (c2 _)) ?_; rintro e w1 ⟨rfl, q, rfl⟩) | (go_at_call 119; with_reducible_and_instances refine Calls.mono (gw_at (c3 _)) ?_; rintro e w1 ⟨rfl, q, rfl⟩) | (go_at_call 120; with_reducible_and_instances refine Calls.mono (gw_at (c4 _)) ?_; rintro e w1 ⟨rfl, q, rfl⟩))
    go_ret
    exact ⟨rfl, bBel⟩
  focus
    have e : motB b = true := by unfold motB; simp [h0, h1, h2, h3, h4]
    rw [e]
    clear e
    have c0 := fun w' => boolIs (tval_b b.px b.py b.pa w') h0
    have c1 := fun w' => boolIs (paw_b b.vx b.vy 16777216 (by decide) w') h1
    have c2 := fun w' => boolIs (piw_b b.av 4194304 (by decide) w') h2
    have c3 := fun w' => boolIs (paw_b b.fx b.fy 536870911 (by decide) w') h3
    have c4 := fun w' => boolIs (piw_b b.tq 536870911 (by decide) w') h4
    clear h0 h1 h2 h3 h4
    go_enter Tryz.func52, Tryz.ntmps52
    go_upto_region 1 with fail
    refine wp_named ?_
    intro V hV
    have kb : blk V (w.heap.size) (bdc b).toArray 29 := by rw [hV]; exact bBkn
    have hbV : Below w.heap.size w V := by rw [hV]; exact bBel
    clear hV
    have hszV := hbV.size
    have ob := blk_older kb
    obtain ⟨cb0, cb1, cb2, cb3, cb4, cb5, cb6, cb7, cb8, cb9, cb10, cb11, cb12, cb13, cb14, cb15, cb16, cb17, cb18, cb19⟩ := bd_cells kb
    go_wp2_with (first | (go_at_call 118; with_reducible_and_instances refine Calls.mono (gw_at (c0 _)) ?_; rintro e w1 ⟨rfl, q, rfl⟩) | (go_at_call 119; with_reducible_and_instances refine Calls.mono (gw_at (c1 _)) ?_; rintro e w1 ⟨rfl, q, rfl⟩) | (go_at_call 120; with_reducible_and_instances refine Calls.mono (gw_at (c2 _)) ?_; rintro e w1 ⟨rfl, q, rfl⟩) | (go_at_call 119; with_reducible_and_instances refine Calls.mono (gw_at (c3 _)) ?_; rintro e w1 ⟨rfl, q, rfl⟩) | (go_at_call 120; with_reducible_and_instances refine Calls.mono (gw_at (c4 _)) ?_; rintro e w1 ⟨rfl, q, rfl⟩))
    go_ret
    exact ⟨rfl, bBel⟩

set_option maxRecDepth 100000 in
set_option maxHeartbeats 16000000 in
theorem ppar_b (b : Bdy) (w : World) : Calls Tryz.prog 53 #[.agg (bdc b).toArray] w fun e w' => e = .returned (.bool (parB b)) ∧ Below w.heap.size w w' := by
  cases h0 : bet b.i 1 1099511627776
  focus
    have e : parB b = false := by unfold parB; simp [h0]
    rw [e]
    clear e
    have c0 := fun w' => boolIs (pbet_b b.i 1 1099511627776 w') h0
    clear h0
    go_enter Tryz.func53, Tryz.ntmps53
    go_upto_region 1 with fail
    refine wp_named ?_
    intro V hV
    have kb : blk V (w.heap.size) (bdc b).toArray 29 := by rw [hV]; exact bBkn
    have hbV : Below w.heap.size w V := by rw [hV]; exact bBel
    clear hV
    have hszV := hbV.size
    have ob := blk_older kb
    obtain ⟨cb0, cb1, cb2, cb3, cb4, cb5, cb6, cb7, cb8, cb9, cb10, cb11, cb12, cb13, cb14, cb15, cb16, cb17, cb18, cb19⟩ := bd_cells kb
    go_wp2_with (first | (go_at_call 121; with_reducible_and_instances refine Calls.mono (gw_at (c0 _)) ?_; rintro e w1 ⟨rfl, q, rfl⟩))
    go_ret
    exact ⟨rfl, bBel⟩
  cases h1 : bet b.ld 0 65536
  focus
    have e : parB b = false := by unfold parB; simp [h0, h1]
    rw [e]
    clear e
    have c0 := fun w' => boolIs (pbet_b b.i 1 1099511627776 w') h0
    have c1 := fun w' => boolIs (pbet_b b.ld 0 65536 w') h1
    clear h0 h1
    go_enter Tryz.func53, Tryz.ntmps53
    go_upto_region 1 with fail
    refine wp_named ?_
    intro V hV
    have kb : blk V (w.heap.size) (bdc b).toArray 29 := by rw [hV]; exact bBkn
    have hbV : Below w.heap.size w V := by rw [hV]; exact bBel
    clear hV
    have hszV := hbV.size
    have ob := blk_older kb
    obtain ⟨cb0, cb1, cb2, cb3, cb4, cb5, cb6, cb7, cb8, cb9, cb10, cb11, cb12, cb13, cb14, cb15, cb16, cb17, cb18, cb19⟩ := bd_cells kb
    go_wp2_with (first | (go_at_call 121; with_reducible_and_instances refine Calls.mono (gw_at (c0 _)) ?_; rintro e w1 ⟨rfl, q, rfl⟩) | (go_at_call 121; with_reducible_and_instances refine Calls.mono (gw_at (c1 _)) ?_; rintro e w1 ⟨rfl, q, rfl⟩))
    go_ret
    exact ⟨rfl, bBel⟩
  cases h2 : bet b.ad 0 65536
  focus
    have e : parB b = false := by unfold parB; simp [h0, h1, h2]
    rw [e]
    clear e
    have c0 := fun w' => boolIs (pbet_b b.i 1 1099511627776 w') h0
    have c1 := fun w' => boolIs (pbet_b b.ld 0 65536 w') h1
    have c2 := fun w' => boolIs (pbet_b b.ad 0 65536 w') h2
    clear h0 h1 h2
    go_enter Tryz.func53, Tryz.ntmps53
    go_upto_region 1 with fail
    refine wp_named ?_
    intro V hV
    have kb : blk V (w.heap.size) (bdc b).toArray 29 := by rw [hV]; exact bBkn
    have hbV : Below w.heap.size w V := by rw [hV]; exact bBel
    clear hV
    have hszV := hbV.size
    have ob := blk_older kb
    obtain ⟨cb0, cb1, cb2, cb3, cb4, cb5, cb6, cb7, cb8, cb9, cb10, cb11, cb12, cb13, cb14, cb15, cb16, cb17, cb18, cb19⟩ := bd_cells kb
    go_wp2_with (first | (go_at_call 121; with_reducible_and_instances refine Calls.mono (gw_at (c0 _)) ?_; rintro e w1 ⟨rfl, q, rfl⟩) | (go_at_call 121; with_reducible_and_instances refine Calls.mono (gw_at (c1 _)) ?_; rintro e w1 ⟨rfl, q, rfl⟩) | (go_at_call 121; with_reducible_and_instances refine Calls.mono (gw_at (c2 _)) ?_; rintro e w1 ⟨rfl, q, rfl⟩))
    go_ret
    exact ⟨rfl, bBel⟩
  cases h3 : bet b.gs (-262144) 262144
  focus
    have e : parB b = false := by unfold parB; simp [h0, h1, h2, h3]
    rw [e]
    clear e
    have c0 := fun w' => boolIs (pbet_b b.i 1 1099511627776 w') h0
    have c1 := fun w' => boolIs (pbet_b b.ld 0 65536 w') h1
    have c2 := fun w' => boolIs (pbet_b b.ad 0 65536 w') h2
    have c3 := fun w' => boolIs (piw_b b.gs 262144 (by decide) w') h3
    clear h0 h1 h2 h3
    go_enter Tryz.func53, Tryz.ntmps53
    go_upto_region 1 with fail
    refine wp_named ?_
    intro V hV
    have kb : blk V (w.heap.size) (bdc b).toArray 29 := by rw [hV]; exact bBkn
    have hbV : Below w.heap.size w V := by rw [hV]; exact bBel
    clear hV
    have hszV := hbV.size
    have ob := blk_older kb
    obtain ⟨cb0, cb1, cb2, cb3, cb4, cb5, cb6, cb7, cb8, cb9, cb10, cb11, cb12, cb13, cb14, cb15, cb16, cb17, cb18, cb19⟩ := bd_cells kb
    go_wp2_with (first | (go_at_call 121; with_reducible_and_instances refine Calls.mono (gw_at (c0 _)) ?_; rintro e w1 ⟨rfl, q, rfl⟩) | (go_at_call 121; with_reducible_and_instances refine Calls.mono (gw_at (c1 _)) ?_; rintro e w1 ⟨rfl, q, rfl⟩) | (go_at_call 121; with_reducible_and_instances refine Calls.mono (gw_at (c2 _)) ?_; rintro e w1 ⟨rfl, q, rfl⟩) | (go_at_call 120; with_reducible_and_instances refine Calls.mono (gw_at (c3 _)) ?_; rintro e w1 ⟨rfl, q, rfl⟩))
    go_ret
    exact ⟨rfl, bBel⟩
  cases h4 : bet b.idl 0 1048576
  focus
    have e : parB b = false := by unfold parB; simp [h0, h1, h2, h3, h4]
    rw [e]
    clear e
    have c0 := fun w' => boolIs (pbet_b b.i 1 1099511627776 w') h0
    have c1 := fun w' => boolIs (pbet_b b.ld 0 65536 w') h1
    have c2 := fun w' => boolIs (pbet_b b.ad 0 65536 w') h2
    have c3 := fun w' => boolIs (piw_b b.gs 262144 (by decide) w') h3
    have c4 := fun w' => boolIs (pbet_b b.idl 0 1048576 w') h4
    clear h0 h1 h2 h3 h4
    go_enter Tryz.func53, Tryz.ntmps53
    go_upto_region 1 with fail
    refine wp_named ?_
    intro V hV
    have kb : blk V (w.heap.size) (bdc b).toArray 29 := by rw [hV]; exact bBkn
    have hbV : Below w.heap.size w V := by rw [hV]; exact bBel
    clear hV
    have hszV := hbV.size
    have ob := blk_older kb
    obtain ⟨cb0, cb1, cb2, cb3, cb4, cb5, cb6, cb7, cb8, cb9, cb10, cb11, cb12, cb13, cb14, cb15, cb16, cb17, cb18, cb19⟩ := bd_cells kb
    go_wp2_with (first | (go_at_call 121; with_reducible_and_instances refine Calls.mono (gw_at (c0 _)) ?_; rintro e w1 ⟨rfl, q, rfl⟩) | (go_at_call 121; with_reducible_and_instances refine Calls.mono (gw_at (c1 _)) ?_; rintro e w1 ⟨rfl, q, rfl⟩) | (go_at_call 121; with_reducible_and_instances refine Calls.mono (gw_at (c2 _)) ?_; rintro e w1 ⟨rfl, q, rfl⟩) | (go_at_call 120; with_reducible_and_instances refine Calls.mono (gw_at (c3 _)) ?_; rintro e w1 ⟨rfl, q, rfl⟩) | (go_at_call 121; with_reducible_and_instances refine Calls.mono (gw_at (c4 _)) ?_; rintro e w1 ⟨rfl, q, rfl⟩))
    go_ret
    exact ⟨rfl, bBel⟩
  focus
    have e : parB b = true := by unfold parB; simp [h0, h1, h2, h3, h4]
    rw [e]
    clear e
    have c0 := fun w' => boolIs (pbet_b b.i 1 1099511627776 w') h0
    have c1 := fun w' => boolIs (pbet_b b.ld 0 65536 w') h1
    have c2 := fun w' => boolIs (pbet_b b.ad 0 65536 w') h2
    have c3 := fun w' => boolIs (piw_b b.gs 262144 (by decide) w') h3
    have c4 := fun w' => boolIs (pbet_b b.idl 0 1048576 w') h4
    clear h0 h1 h2 h3 h4
    go_enter Tryz.func53, Tryz.ntmps53
    go_upto_region 1 with fail
    refine wp_named ?_
    intro V hV
    have kb : blk V (w.heap.size) (bdc b).toArray 29 := by rw [hV]; exact bBkn
    have hbV : Below w.heap.size w V := by rw [hV]; exact bBel
    clear hV
    have hszV := hbV.size
    have ob := blk_older kb
    obtain ⟨cb0, cb1, cb2, cb3, cb4, cb5, cb6, cb7, cb8, cb9, cb10, cb11, cb12, cb13, cb14, cb15, cb16, cb17, cb18, cb19⟩ := bd_cells kb
    go_wp2_with (first | (go_at_call 121; with_reducible_and_instances refine Calls.mono (gw_at (c0 _)) ?_; rintro e w1 ⟨rfl, q, rfl⟩) | (go_at_call 121; with_reducible_and_instances refine Calls.mono (gw_at (c1 _)) ?_; rintro e w1 ⟨rfl, q, rfl⟩) | (go_at_call 121; with_reducible_and_instances refine Calls.mono (gw_at (c2 _)) ?_; rintro e w1 ⟨rfl, q, rfl⟩) | (go_at_call 120; with_reducible_and_instances refine Calls.mono (gw_at (c3 _)) ?_; rintro e w1 ⟨rfl, q, rfl⟩) | (go_at_call 121; with_reducible_and_instances refine Calls.mono (gw_at (c4 _)) ?_; rintro e w1 ⟨rfl, q, rfl⟩))
    go_ret
    exact ⟨rfl, bBel⟩


end Go.Proofs.YtdmcdicphohlfaaGreat
