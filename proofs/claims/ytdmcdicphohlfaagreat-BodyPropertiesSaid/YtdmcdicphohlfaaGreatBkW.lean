/- Chapter 23: BodyProperties. -/
import Derived.Test.YtdmcdicphohlfaaGreatBkU
import Derived.Test.YtdmcdicphohlfaaGreatBkO
import Derived.Test.YtdmcdicphohlfaaGreatBkJ
set_option linter.unusedVariables false
set_option linter.unusedSimpArgs false
namespace Go.Proofs.YtdmcdicphohlfaaGreat
open Go.RowKit Fx Go.Maps

set_option maxRecDepth 100000 in
set_option maxHeartbeats 16000000 in
theorem walk_BodyProperties (b : Bdy) (px py : Int) (w : World) (hB : BdArg w b) : Calls Tryz.prog 4 #[.agg (bdc b).toArray, .agg #[.int .i64 px, .int .i64 py]] w fun e w' => e = .returned (.bool true) ∧ Below w.heap.size w w' := by
  have hb := hB.2
  clear hB
  have cX := fun w' => example23_b w'
  by_cases hs : smB b
  rotate_left
  · have cS := fun w' h => rsm_b b w' h false (by simp [hs])
    clear hs
    go_enter Tryz.func4, Tryz.ntmps4
    go_upto_region 1 with fail
    refine wp_named ?_
    intro V hV
    have kb : blk V (w.heap.size) (bdc b).toArray 29 := by rw [hV]; exact bBkn
    have kp : blk V (w.heap.size + 1) #[.int .i64 px, .int .i64 py] 24 := by rw [hV]; exact bBkn
    have hbV : Below w.heap.size w V := by rw [hV]; exact bBel
    clear hV
    have hszV := hbV.size
    have ob := blk_older kb
    obtain ⟨cb0, cb1, cb2, cb3, cb4, cb5, cb6, cb7, cb8, cb9, cb10, cb11, cb12, cb13, cb14, cb15, cb16, cb17, cb18, cb19⟩ := bd_cells kb
    have op := blk_older kp
    have cp0 := blk_cell kp 0
    have cp1 := blk_cell kp 1
    have hQb : Hid (∀ w', Below V.heap.size V w' → w'.rangeAt (w.heap.size) 0 (bdc b)) := fun w' h' => rng_blk23 (blk_below h' kb)
    go_wp2_with (first | (refine wpList_load_g (by rfl) 29 _ rfl (w.heap.size) 0 rfl _ _ (hQb.out _ bBel) Tryz.underlying29 rfl (bd_sizeC b) ?_) | (go_at_call 11; with_reducible_and_instances refine Calls.mono (gw_at (cS _ (BdIn.to hb bBel))) ?_; rintro e w1 ⟨rfl, q, rfl⟩) | (go_at_call 12; with_reducible_and_instances refine Calls.mono (gw_at (cX _)) ?_; rintro e w1 ⟨rfl, q, rfl⟩))
    go_ret
    exact ⟨rfl, bBel⟩
  have cS := fun w' h => rsm_b b w' h true (by simp [hs])
  have ho : okL b := ⟨by have := hs.1; omega, fun f hf => by have := hs.2 f hf; omega⟩
  have hoH : Hid (okL b) := ho
  clear ho
  clear hs
  have cB := fun w' h => pbd_b b w' hoH.out h
  have cC := fun w' h => rbd_b b w' hoH.out h
  have cM := fun w' h => pmd_b b w' hoH.out h
  have cN := fun w' h => rmd_b b w' hoH.out h
  have cW := fun w' h => pwc_b b w' hoH.out h
  have cY := fun w' h => rwc_b b w' hoH.out h
  have cP := fun w' h => psb_b b w' hoH.out h
  have cQ := fun w' h => rsb_b b w' hoH.out h
  have cV := fun w' h => pva_b b px py w' hoH.out h
  have cU := fun w' h => rva_b b px py w' hoH.out h
  have cF := fun w' h => pfa_b b px py w' hoH.out h
  have cG := fun w' h => rfa_b b px py w' hoH.out h
  obtain ⟨U, hU⟩ : ∃ U, bxs23 b b.fs.length = U := ⟨_, rfl⟩
  rw [hU] at cB cC
  clear hU
  obtain ⟨U0, U1, U2, U3⟩ := U
  dsimp only at cB cC
  generalize decide (0 < b.fs.length) = K at *
  generalize (ofF b.fs).m = mm at *
  generalize (ofF b.fs).x = mx at *
  generalize (ofF b.fs).y = my at *
  generalize (ofF b.fs).i = mi at *
  generalize add b.vx (-mul b.av (sub py (wcy b))) = v1 at *
  generalize add b.vy (mul b.av (sub px (wcx b))) = v2 at *
  generalize wcx b = wx at *
  generalize wcy b = wy at *
  generalize ivm b = im at *
  generalize ivi b = ii at *
  generalize fxat b px py = fa at *
  go_enter Tryz.func4, Tryz.ntmps4
  go_upto_region 1 with fail
  refine wp_named ?_
  intro V hV
  have kb : blk V (w.heap.size) (bdc b).toArray 29 := by rw [hV]; exact bBkn
  have kp : blk V (w.heap.size + 1) #[.int .i64 px, .int .i64 py] 24 := by rw [hV]; exact bBkn
  have hbV : Below w.heap.size w V := by rw [hV]; exact bBel
  clear hV
  have hszV := hbV.size
  have ob := blk_older kb
  obtain ⟨cb0, cb1, cb2, cb3, cb4, cb5, cb6, cb7, cb8, cb9, cb10, cb11, cb12, cb13, cb14, cb15, cb16, cb17, cb18, cb19⟩ := bd_cells kb
  have op := blk_older kp
  have cp0 := blk_cell kp 0
  have cp1 := blk_cell kp 1
  have hQb : Hid (∀ w', Below V.heap.size V w' → w'.rangeAt (w.heap.size) 0 (bdc b)) := fun w' h' => rng_blk23 (blk_below h' kb)
  go_upto_region 3 with (first | (refine wpList_load_g (by rfl) 29 _ rfl (w.heap.size) 0 rfl _ _ (hQb.out _ bBel) Tryz.underlying29 rfl (bd_sizeC b) ?_) | (go_at_call 11; with_reducible_and_instances refine Calls.mono (gw_at (cS _ (BdIn.to hb bBel))) ?_; rintro e w1 ⟨rfl, q, rfl⟩))
  refine wp_named ?_
  intro W hW
  have kbW : blk W w.heap.size (bdc b).toArray 29 := by rw [hW]; exact blk_gw kb
  have kpW : blk W (w.heap.size + 1) #[.int .i64 px, .int .i64 py] 24 := by rw [hW]; exact blk_gw kp
  have hbW : Below w.heap.size w W := by rw [hW]; exact bBel
  clear hW hQb kb kp hbV cb0 cb1 cb2 cb3 cb4 cb5 cb6 cb7 cb8 cb9 cb10 cb11 cb12 cb13 cb14 cb15 cb16 cb17 cb18 cb19 cp0 cp1 ob op
  have hszW := hbW.size
  have hInW := hb.to hbW
  have hQw : Hid (∀ w', Below W.heap.size W w' → w'.rangeAt w.heap.size 0 (bdc b)) := fun w' h' => rng_blk23 (blk_below h' kbW)
  have obW := blk_older kbW
  try simp only [Act.put]
  go_upto_region 4 with (first | (refine wpList_load_g (by rfl) 29 _ rfl w.heap.size 0 rfl _ _ (hQw.out _ bBel) Tryz.underlying29 rfl (bd_sizeC b) ?_) | (go_at_call 17; refine Calls.mono (cB W hInW) ?_; rintro e U4 ⟨rfl, hb4⟩))
  have hz4 := hb4.size
  refine wp_named ?_
  intro X hX
  have kx : blk X U4.heap.size #[.int .i64 U0, .int .i64 U1, .int .i64 U2, .int .i64 U3] 45 := by rw [hX]; exact bBkn
  have hbWX : Below W.heap.size W X := by rw [hX]; exact bBel
  clear hX hQw
  have hbX : Below w.heap.size w X := Below.trans hbW (hbWX.mono hszW)
  have hszX := hbX.size
  have hInX := hb.to hbX
  have kbX := blk_below hbWX kbW
  have kpX := blk_below hbWX kpW
  clear hb4 kbW kpW obW hbWX hInW cB
  generalize U4.heap.size = X1 at *
  have hQx : Hid (∀ w', Below X.heap.size X w' → w'.rangeAt w.heap.size 0 (bdc b)) := fun w' h' => rng_blk23 (blk_below h' kbX)
  have obX := blk_older kbX
  try simp only [Act.put]
  go_upto_region 5 with (first | (refine wpList_load_g (by rfl) 29 _ rfl w.heap.size 0 rfl _ _ (hQx.out _ bBel) Tryz.underlying29 rfl (bd_sizeC b) ?_) | (go_at_call 18; refine Calls.mono (cC X hInX) ?_; rintro e U5 ⟨rfl, hb5⟩))
  have hz5 := hb5.size
  refine wp_named ?_
  intro Z hZ
  have ky : blk Z U5.heap.size #[.int .i64 U0, .int .i64 U1, .int .i64 U2, .int .i64 U3] 45 := by rw [hZ]; exact bBkn
  have hbXZ : Below X.heap.size X Z := by rw [hZ]; exact bBel
  clear hZ hQx
  have hbZ : Below w.heap.size w Z := Below.trans hbX (hbXZ.mono hszX)
  have hszZ := hbZ.size
  have hInZ := hb.to hbZ
  have kbZ := blk_below hbXZ kbX
  have kpZ := blk_below hbXZ kpX
  have kxZ := blk_below hbXZ kx
  clear hb5 kbX kpX obX hbXZ hInX cC kx
  generalize U5.heap.size = Y1 at *
  have hRb : ∀ w', (∃ q, w' = gw Z q) → w'.rangeAt _ 0 (bdc b) := fun w' h' => by
    obtain ⟨q, rfl⟩ := h'
    exact rng_blk23 (blk_gw kbZ)
  have obZ := blk_older kbZ
  have opZ := blk_older kpZ
  have oxZ := blk_older kxZ
  have oyZ := blk_older ky
  have cp0 : Z.cell? ⟨w.heap.size + 1, 0, none⟩ = some (.int .i64 px) := blk_cell kpZ 0
  have cp1 : Z.cell? ⟨w.heap.size + 1, 1, none⟩ = some (.int .i64 py) := blk_cell kpZ 1
  have x0 : Z.cell? ⟨X1, 0, none⟩ = some (.int .i64 U0) := blk_cell kxZ 0
  have x1 : Z.cell? ⟨X1, 1, none⟩ = some (.int .i64 U1) := blk_cell kxZ 1
  have x2 : Z.cell? ⟨X1, 2, none⟩ = some (.int .i64 U2) := blk_cell kxZ 2
  have x3 : Z.cell? ⟨X1, 3, none⟩ = some (.int .i64 U3) := blk_cell kxZ 3
  have y0 : Z.cell? ⟨Y1, 0, none⟩ = some (.int .i64 U0) := blk_cell ky 0
  have y1 : Z.cell? ⟨Y1, 1, none⟩ = some (.int .i64 U1) := blk_cell ky 1
  have y2 : Z.cell? ⟨Y1, 2, none⟩ = some (.int .i64 U2) := blk_cell ky 2
  have y3 : Z.cell? ⟨Y1, 3, none⟩ = some (.int .i64 U3) := blk_cell ky 3
  try simp only [Act.put]
  refine wp_region_gw (by kernel_rfl) (by kernel_rfl) ?_
  repeat (first | (refine wpQuiet_load23 (by rfl) 29 _ rfl (w.heap.size) 0 rfl (bdc b) _ hRb Tryz.underlying29 rfl (bd_sizeC b) ?_; simp only [Act.put, List.setIfInBounds_toArray, List.set_cons_zero, List.set_cons_succ]) | go_big_quiet_step ((first | (go_at_call 19; with_reducible_and_instances exact gw_call (cM _ (BdIn.to hInZ bBel))) | (go_at_call 21; with_reducible_and_instances exact gw_call (cW _ (BdIn.to hInZ bBel))) | (go_at_call 23; with_reducible_and_instances exact gw_call (cP _ (BdIn.to hInZ bBel))) | (go_at_call 25; with_reducible_and_instances exact gw_call (cV _ (BdIn.to hInZ bBel))) | (go_at_call 27; with_reducible_and_instances exact gw_call (cF _ (BdIn.to hInZ bBel))) | (go_at_call 20; with_reducible_and_instances exact gw_call (cN _ (BdIn.to hInZ bBel))) | (go_at_call 22; with_reducible_and_instances exact gw_call (cY _ (BdIn.to hInZ bBel))) | (go_at_call 24; with_reducible_and_instances exact gw_call (cQ _ (BdIn.to hInZ bBel))) | (go_at_call 26; with_reducible_and_instances exact gw_call (cU _ (BdIn.to hInZ bBel))) | (go_at_call 28; with_reducible_and_instances exact gw_call (cG _ (BdIn.to hInZ bBel))) | (go_at_call 12; with_reducible_and_instances exact gw_call (cX _)))))
  refine wpQuiet_nil ?_
  intro w1 hw1
  obtain ⟨q, rfl⟩ := hw1
  go_wp2_with fail
  go_ret
  exact ⟨rfl, bBel⟩


end Go.Proofs.YtdmcdicphohlfaaGreat
