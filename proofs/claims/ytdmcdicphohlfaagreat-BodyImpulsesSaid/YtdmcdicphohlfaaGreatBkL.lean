/- Chapter 23: impulses, the reference's. -/
import Derived.Test.YtdmcdicphohlfaaGreatBkI
set_option linter.unusedVariables false
set_option linter.unusedSimpArgs false
namespace Go.Proofs.YtdmcdicphohlfaaGreat
open Go.RowKit Fx Go.Maps

theorem cl24_zero (x m : Int) : cl24 (add x (mul 0 m)) = cl24 x := by
  have e : mul 0 m = 0 := by unfold mul; simp [sat, rdiv, rok, rcore, rpos]
  rw [e]
  unfold cl24 clamp add sat
  (repeat' split) <;> omega
theorem bdc_wk (b : Bdy) : ((bdc b).toArray.setIfInBounds 17 (.bool false)).setIfInBounds 18 (.int .i64 0) = (bdc { b with asl := false, idl := 0 }).toArray := by simp [bdc]

set_option maxRecDepth 100000 in
set_option maxHeartbeats 16000000 in
theorem rcl_b (b : Bdy) (w : World) : Calls Tryz.prog 35 #[.agg (bdc b).toArray] w fun e w' => e = .returned (.agg (bdc (clB b)).toArray) ∧ Below w.heap.size w w' := by
  have cX := fun w' => rclamp_b b.vx (-16777216) 16777216 w'
  have cY := fun w' => rclamp_b b.vy (-16777216) 16777216 w'
  have cA := fun w' => rclamp_b b.av (-4194304) 4194304 w'
  have hcl : Hid ({ b with vx := clamp b.vx (-16777216) 16777216, vy := clamp b.vy (-16777216) 16777216, av := clamp b.av (-4194304) 4194304 } = clB b) := rfl
  generalize clB b = c at *
  generalize clamp b.vx (-16777216) 16777216 = X at *
  generalize clamp b.vy (-16777216) 16777216 = Y0 at *
  generalize clamp b.av (-4194304) 4194304 = A0 at *
  go_enter Tryz.func35, Tryz.ntmps35
  go_upto_region 1 with fail
  refine wp_named ?_
  intro V hV
  have kb : blk V (w.heap.size) (bdc b).toArray 29 := by rw [hV]; exact bBkn
  have kR : blk V (w.heap.size + 1) #[.int .i64 0, .int .i64 0, .int .i64 0, .int .i64 0, .int .i64 0, .int .i64 0, .int .i64 0, .int .i64 0, .int .i64 0, .int .i64 0, .int .i64 0, .int .i64 0, .int .i64 0, .int .i64 0, .bool false, .bool false, .bool false, .bool false, .int .i64 0, .slice none 0 0] 29 := by rw [hV]; exact bBkn
  have hbV : Below w.heap.size w V := by rw [hV]; exact bBel
  clear hV
  have hszV := hbV.size
  have ob := blk_older kb
  obtain ⟨cb0, cb1, cb2, cb3, cb4, cb5, cb6, cb7, cb8, cb9, cb10, cb11, cb12, cb13, cb14, cb15, cb16, cb17, cb18, cb19⟩ := bd_cells kb
  have oR := blk_older kR
  have fb5 := blk_free kb 5
  have fb6 := blk_free kb 6
  have fb7 := blk_free kb 7
  refine wp_region_gw_tail 10 (by kernel_rfl) (by kernel_rfl) ?_
  simp only [List.take_succ_cons, List.take_zero, List.drop_succ_cons, List.drop_zero]
  repeat (first | go_big_quiet_step ((first | (go_at_call 92; with_reducible_and_instances exact gw_call (cX _)) | (go_at_call 92; with_reducible_and_instances exact gw_call (cY _)))))
  refine wpQuiet_nil ?_
  intro w1 hw1
  obtain ⟨q, rfl⟩ := hw1
  go_upto_region 2 with fail
  go_upto_region 3 with ((go_at_call 92; with_reducible_and_instances refine Calls.mono (gw_at (cA _)) ?_; rintro e w1 ⟨rfl, q, rfl⟩))
  refine wp_named ?_
  intro Z hZ
  have kZ : blk Z w.heap.size (bdc { b with vx := X, vy := Y0, av := A0 }).toArray 29 := by rw [hZ, ← bdc_vel]; exact (by apply blk_of; (repeat (first | with_reducible exact kb | with_reducible apply blk_drew | with_reducible apply blk_gw | with_reducible apply blk_alloc | with_reducible apply blk_set | ((with_reducible apply blk_other); focus omega))); (first | rfl | simp))
  have kRZ : blk Z (w.heap.size + 1) #[.int .i64 0, .int .i64 0, .int .i64 0, .int .i64 0, .int .i64 0, .int .i64 0, .int .i64 0, .int .i64 0, .int .i64 0, .int .i64 0, .int .i64 0, .int .i64 0, .int .i64 0, .int .i64 0, .bool false, .bool false, .bool false, .bool false, .int .i64 0, .slice none 0 0] 29 := by rw [hZ]; exact (by apply blk_of; (repeat (first | with_reducible exact kR | with_reducible apply blk_drew | with_reducible apply blk_gw | with_reducible apply blk_alloc | with_reducible apply blk_set | ((with_reducible apply blk_other); focus omega))); (first | rfl | simp))
  have hbZ : Below w.heap.size w Z := by rw [hZ]; exact bBel
  clear hZ cb0 cb1 cb2 cb3 cb4 cb5 cb6 cb7 cb8 cb9 cb10 cb11 cb12 cb13 cb14 cb15 cb16 cb17 cb18 cb19
  rw [hcl.out] at kZ
  have oZ := blk_older kZ
  have oRZ := blk_older kRZ
  go_wp2_with (first
    | (refine wpList_load_mid rfl 29 _ rfl (w.heap.size) 0 rfl _ _ (rng_blk23 kZ) Tryz.underlying29 rfl (bd_sizeC c) ?_)
    | (refine wpList_store_wide rfl 29 _ _ rfl (w.heap.size + 1) (bdc c) rfl rfl _ _ kRZ (by kernel_rfl) (bd_sizeC _) (bd_all _) ?_; intro E kE hbE koE hzE))
  refine bodyPost_ret (v := .agg (bdc c).toArray) (res_wide Tryz.results35 rfl _ (rng_blk23 kE) Tryz.underlying29 rfl (bd_sizeC _)) rfl ⟨rfl, hbE _ _ (by omega) hbZ⟩

set_option maxRecDepth 100000 in
set_option maxHeartbeats 16000000 in
theorem rwk_b (b : Bdy) (w : World) : Calls Tryz.prog 90 #[.agg (bdc b).toArray] w fun e w' => e = .returned (.agg (bdc { b with asl := false, idl := 0 }).toArray) ∧ Below w.heap.size w w' := by
  have hc : Hid ({ b with asl := false, idl := 0 } = ({ b with asl := false, idl := 0 } : Bdy)) := rfl
  obtain ⟨c, hc0⟩ : ∃ c, ({ b with asl := false, idl := 0 } : Bdy) = c := ⟨_, rfl⟩
  rw [hc0]
  have hcH : Hid (({ b with asl := false, idl := 0 } : Bdy) = c) := hc0
  clear hc0 hc
  go_enter Tryz.func90, Tryz.ntmps90
  go_upto_region 1 with fail
  refine wp_named ?_
  intro V hV
  have kb : blk V (w.heap.size) (bdc b).toArray 29 := by rw [hV]; exact bBkn
  have kR : blk V (w.heap.size + 1) #[.int .i64 0, .int .i64 0, .int .i64 0, .int .i64 0, .int .i64 0, .int .i64 0, .int .i64 0, .int .i64 0, .int .i64 0, .int .i64 0, .int .i64 0, .int .i64 0, .int .i64 0, .int .i64 0, .bool false, .bool false, .bool false, .bool false, .int .i64 0, .slice none 0 0] 29 := by rw [hV]; exact bBkn
  have hbV : Below w.heap.size w V := by rw [hV]; exact bBel
  clear hV
  have hszV := hbV.size
  have ob := blk_older kb
  obtain ⟨cb0, cb1, cb2, cb3, cb4, cb5, cb6, cb7, cb8, cb9, cb10, cb11, cb12, cb13, cb14, cb15, cb16, cb17, cb18, cb19⟩ := bd_cells kb
  have oR := blk_older kR
  have fb17 := blk_free kb 17
  have fb18 := blk_free kb 18
  go_upto_region 3 with fail
  refine wp_named ?_
  intro Z hZ
  have kZ : blk Z w.heap.size (bdc { b with asl := false, idl := 0 }).toArray 29 := by rw [hZ, ← bdc_wk]; exact (by apply blk_of; (repeat (first | with_reducible exact kb | with_reducible apply blk_drew | with_reducible apply blk_gw | with_reducible apply blk_alloc | with_reducible apply blk_set | ((with_reducible apply blk_other); focus omega))); (first | rfl | simp))
  have kRZ : blk Z (w.heap.size + 1) #[.int .i64 0, .int .i64 0, .int .i64 0, .int .i64 0, .int .i64 0, .int .i64 0, .int .i64 0, .int .i64 0, .int .i64 0, .int .i64 0, .int .i64 0, .int .i64 0, .int .i64 0, .int .i64 0, .bool false, .bool false, .bool false, .bool false, .int .i64 0, .slice none 0 0] 29 := by rw [hZ]; exact (by apply blk_of; (repeat (first | with_reducible exact kR | with_reducible apply blk_drew | with_reducible apply blk_gw | with_reducible apply blk_alloc | with_reducible apply blk_set | ((with_reducible apply blk_other); focus omega))); (first | rfl | simp))
  have hbZ : Below w.heap.size w Z := by rw [hZ]; exact bBel
  clear hZ cb0 cb1 cb2 cb3 cb4 cb5 cb6 cb7 cb8 cb9 cb10 cb11 cb12 cb13 cb14 cb15 cb16 cb17 cb18 cb19
  have oZ := blk_older kZ
  have oRZ := blk_older kRZ
  rw [hcH.out] at kZ
  go_wp2_with (first
    | (refine wpList_load_mid rfl 29 _ rfl (w.heap.size) 0 rfl _ _ (rng_blk23 kZ) Tryz.underlying29 rfl (bd_sizeC c) ?_)
    | (refine wpList_store_wide rfl 29 _ _ rfl (w.heap.size + 1) (bdc c) rfl rfl _ _ kRZ (by kernel_rfl) (bd_sizeC _) (bd_all _) ?_; intro E kE hbE koE hzE))
  refine bodyPost_ret (v := .agg (bdc c).toArray) (res_wide Tryz.results90 rfl _ (rng_blk23 kE) Tryz.underlying29 rfl (bd_sizeC _)) rfl ⟨rfl, hbE _ _ (by omega) hbZ⟩

set_option maxRecDepth 100000 in
set_option maxHeartbeats 16000000 in
theorem rimp_b (b : Bdy) (px py qx qy : Int) (w : World) (ho : okL b) (hIn : BdIn w b) : Calls Tryz.prog 31 #[.agg (bdc b).toArray, .agg #[.int .i64 px, .int .i64 py], .agg #[.int .i64 qx, .int .i64 qy]] w fun e w' => e = .returned (.agg (bdc (imB b px py qx qy)).toArray) ∧ Below w.heap.size w w' := by
  unfold imB
  by_cases hk : b.k = 3
  rotate_left
  · rw [psB_no _ _ _ hk]
    have hk3 : (b.k != 3) = true := by rw [bne_iff_ne]; exact hk
    clear hk ho
    go_enter Tryz.func31, Tryz.ntmps31
    go_upto_region 1 with fail
    refine wp_named ?_
    intro V hV
    have kb : blk V (w.heap.size) (bdc b).toArray 29 := by rw [hV]; exact bBkn
    have kp : blk V (w.heap.size + 1) #[.int .i64 px, .int .i64 py] 24 := by rw [hV]; exact bBkn
    have kq : blk V (w.heap.size + 1 + 1) #[.int .i64 qx, .int .i64 qy] 24 := by rw [hV]; exact bBkn
    have kR : blk V (w.heap.size + 1 + 1 + 1) #[.int .i64 0, .int .i64 0, .int .i64 0, .int .i64 0, .int .i64 0, .int .i64 0, .int .i64 0, .int .i64 0, .int .i64 0, .int .i64 0, .int .i64 0, .int .i64 0, .int .i64 0, .int .i64 0, .bool false, .bool false, .bool false, .bool false, .int .i64 0, .slice none 0 0] 29 := by rw [hV]; exact bBkn
    have hbV : Below w.heap.size w V := by rw [hV]; exact bBel
    clear hV
    have hszV := hbV.size
    have ob := blk_older kb
    obtain ⟨cb0, cb1, cb2, cb3, cb4, cb5, cb6, cb7, cb8, cb9, cb10, cb11, cb12, cb13, cb14, cb15, cb16, cb17, cb18, cb19⟩ := bd_cells kb
    have op := blk_older kp
    have cp0 := blk_cell kp 0
    have cp1 := blk_cell kp 1
    have oq := blk_older kq
    have cq0 := blk_cell kq 0
    have cq1 := blk_cell kq 1
    have oR := blk_older kR
    clear hIn
    go_upto_region 2 with fail
    go_wp2_with (first
      | (refine wpList_load_mid rfl 29 _ rfl (w.heap.size) 0 rfl _ _ (rng_blk23 kb) Tryz.underlying29 rfl (bd_sizeC b) ?_)
      | (refine wpList_store_wide rfl 29 _ _ rfl (w.heap.size + 1 + 1 + 1) (bdc b) rfl rfl _ _ kR (by kernel_rfl) (bd_sizeC _) (bd_all _) ?_; intro E kE hbE koE hzE))
    refine bodyPost_ret (v := .agg (bdc b).toArray) (res_wide Tryz.results31 rfl _ (rng_blk23 kE) Tryz.underlying29 rfl (bd_sizeC _)) rfl ⟨rfl, hbE _ _ (by omega) hbV⟩
  have hps : Hid ({ (clB { b with vx := add b.vx (mul qx (ivm b)), vy := add b.vy (mul qy (ivm b)), av := add b.av (mul (cross (sub px (wcx b)) (sub py (wcy b)) qx qy) (ivi b)) }) with asl := false, idl := 0 } = psB b qx qy (cross (sub px (wcx b)) (sub py (wcy b)) qx qy)) := by
    show _ = _
    unfold psB
    rw [if_pos hk]; rfl
  have hk3 : (b.k != 3) = false := by rw [bne_eq_false_iff_eq]; exact hk
  clear hk
  have cS := fun w' h => rsb_b b w' ho h
  have cWC := fun w' h => rwc_b b w' ho h
  clear ho
  generalize hD : psB b qx qy (cross (sub px (wcx b)) (sub py (wcy b)) qx qy) = D at *
  clear hD
  generalize ivm b = IM at *
  generalize ivi b = II at *
  generalize wcx b = WX at *
  generalize wcy b = WY at *
  have cSu := fun w' => rvsub_b px py WX WY w'
  generalize sub px WX = ax at *
  generalize sub py WY = ay at *
  have cCr := fun w' => rcross_b ax ay qx qy w'
  generalize cross ax ay qx qy = cr at *
  have cMu := fun w' => rmul_b cr II w'
  generalize mul cr II = sa at *
  have cSc := fun w' => rvscale_b qx qy IM w'
  generalize mul qx IM = sx at *
  generalize mul qy IM = sy at *
  have cAd := fun w' => rvadd_b b.vx b.vy sx sy w'
  have cAa := fun w' => radd_b b.av sa w'
  generalize add b.vx sx = X at *
  generalize add b.vy sy = Y0 at *
  generalize add b.av sa = A0 at *
  go_enter Tryz.func31, Tryz.ntmps31
  go_upto_region 1 with fail
  refine wp_named ?_
  intro V hV
  have kb : blk V (w.heap.size) (bdc b).toArray 29 := by rw [hV]; exact bBkn
  have kp : blk V (w.heap.size + 1) #[.int .i64 px, .int .i64 py] 24 := by rw [hV]; exact bBkn
  have kq : blk V (w.heap.size + 1 + 1) #[.int .i64 qx, .int .i64 qy] 24 := by rw [hV]; exact bBkn
  have kR : blk V (w.heap.size + 1 + 1 + 1) #[.int .i64 0, .int .i64 0, .int .i64 0, .int .i64 0, .int .i64 0, .int .i64 0, .int .i64 0, .int .i64 0, .int .i64 0, .int .i64 0, .int .i64 0, .int .i64 0, .int .i64 0, .int .i64 0, .bool false, .bool false, .bool false, .bool false, .int .i64 0, .slice none 0 0] 29 := by rw [hV]; exact bBkn
  have hbV : Below w.heap.size w V := by rw [hV]; exact bBel
  clear hV
  have hszV := hbV.size
  have ob := blk_older kb
  obtain ⟨cb0, cb1, cb2, cb3, cb4, cb5, cb6, cb7, cb8, cb9, cb10, cb11, cb12, cb13, cb14, cb15, cb16, cb17, cb18, cb19⟩ := bd_cells kb
  have op := blk_older kp
  have cp0 := blk_cell kp 0
  have cp1 := blk_cell kp 1
  have oq := blk_older kq
  have cq0 := blk_cell kq 0
  have cq1 := blk_cell kq 1
  have oR := blk_older kR
  have hInV : BdIn V b := hIn.to hbV
  clear hIn
  have hQb : Hid (∀ w', Below V.heap.size V w' → w'.rangeAt (w.heap.size) 0 (bdc b)) := fun w' h' => rng_blk23 (blk_below h' kb)
  go_upto_region 4 with (first | (refine wpList_load_g (by rfl) 29 _ rfl (w.heap.size) 0 rfl _ _ (hQb.out _ bBel) Tryz.underlying29 rfl (bd_sizeC b) ?_) | (go_at_call 24; refine Calls.mono (cS V hInV) ?_; rintro e U2 ⟨rfl, hb2⟩))
  have hzT := hb2.size
  refine wp_named ?_
  intro T hT
  have kS : blk T U2.heap.size #[.int .i64 b.vx, .int .i64 b.vy, .int .i64 b.av, .int .i64 IM, .int .i64 II] 53 := by rw [hT]; exact bBkn
  have hbVT : Below V.heap.size V T := by rw [hT]; exact bBel
  clear hT hQb cS
  have hbwT : Below w.heap.size w T := Below.trans hbV (hbVT.mono hszV)
  have hInT := hInV.to hbVT
  have kbT := blk_below hbVT kb
  have kpT := blk_below hbVT kp
  have kqT := blk_below hbVT kq
  have kRT := blk_below hbVT kR
  have hbl := blk_lt kb
  have hpl := blk_lt kp
  have hql := blk_lt kq
  have hRl := blk_lt kR
  clear cb0 cb1 cb2 cb3 cb4 cb5 cb6 cb7 cb8 cb9 cb10 cb11 cb12 cb13 cb14 cb15 cb16 cb17 cb18 cb19 ob op oq oR cp0 cp1 cq0 cq1 kb kp kq kR hbVT hb2 hInV
  generalize U2.heap.size = S2 at *
  have hszT := hbwT.size
  have obT := blk_older kbT
  have opT := blk_older kpT
  have oqT := blk_older kqT
  have oS := blk_older kS
  obtain ⟨cb0, cb1, cb2, cb3, cb4, cb5, cb6, cb7, cb8, cb9, cb10, cb11, cb12, cb13, cb14, cb15, cb16, cb17, cb18, cb19⟩ := bd_cells kbT
  have cp0 : T.cell? ⟨w.heap.size + 1, 0, none⟩ = some (.int .i64 px) := blk_cell kpT 0
  have cp1 : T.cell? ⟨w.heap.size + 1, 1, none⟩ = some (.int .i64 py) := blk_cell kpT 1
  have cq0 : T.cell? ⟨w.heap.size + 1 + 1, 0, none⟩ = some (.int .i64 qx) := blk_cell kqT 0
  have cq1 : T.cell? ⟨w.heap.size + 1 + 1, 1, none⟩ = some (.int .i64 qy) := blk_cell kqT 1
  have s2 : T.cell? ⟨S2, 2, none⟩ = some (.int .i64 b.av) := blk_cell kS 2
  have s3 : T.cell? ⟨S2, 3, none⟩ = some (.int .i64 IM) := blk_cell kS 3
  have s4 : T.cell? ⟨S2, 4, none⟩ = some (.int .i64 II) := blk_cell kS 4
  have fT5 := blk_free kbT 5
  have fT6 := blk_free kbT 6
  have fT7 := blk_free kbT 7
  have hRb : ∀ w', (∃ q, w' = gw T q) → w'.rangeAt w.heap.size 0 (bdc b) := fun w' h' => by
    obtain ⟨q, rfl⟩ := h'
    exact rng_blk23 (blk_gw kbT)
  try simp only [Act.put]
  refine wp_region_gw (by kernel_rfl) (by kernel_rfl) ?_
  repeat (first | (refine wpQuiet_load23 (by rfl) 29 _ rfl w.heap.size 0 rfl (bdc b) _ hRb Tryz.underlying29 rfl (bd_sizeC b) ?_; simp only [Act.put, List.setIfInBounds_toArray, List.set_cons_zero, List.set_cons_succ]) | go_big_quiet_step ((first | (go_at_call 22; with_reducible_and_instances exact gw_call (cWC _ (BdIn.to hInT bBel))) | (go_at_call 79; with_reducible_and_instances exact gw_call (cSu _)) | (go_at_call 87; with_reducible_and_instances exact gw_call (cCr _)) | (go_at_call 86; with_reducible_and_instances exact gw_call (cMu _)))))
  refine wpQuiet_nil ?_
  intro w1 hw1
  obtain ⟨q, rfl⟩ := hw1
  go_upto_region 5 with fail
  refine wp_region_gw_tail 8 (by kernel_rfl) (by kernel_rfl) ?_
  simp only [List.take_succ_cons, List.take_zero, List.drop_succ_cons, List.drop_zero]
  repeat (first | go_big_quiet_step ((first | (go_at_call 88; with_reducible_and_instances exact gw_call (cSc _)) | (go_at_call 77; with_reducible_and_instances exact gw_call (cAd _)))))
  refine wpQuiet_nil ?_
  intro w1 hw1
  obtain ⟨q, rfl⟩ := hw1
  go_upto_region 6 with fail
  go_upto_region 7 with ((go_at_call 89; with_reducible_and_instances refine Calls.mono (gw_at (cAa _)) ?_; rintro e w1 ⟨rfl, q, rfl⟩))
  refine wp_named ?_
  intro Z hZ
  have kZ : blk Z w.heap.size (bdc { b with vx := X, vy := Y0, av := A0 }).toArray 29 := by rw [hZ, ← bdc_vel]; exact (by apply blk_of; (repeat (first | with_reducible exact kbT | with_reducible apply blk_drew | with_reducible apply blk_gw | with_reducible apply blk_alloc | with_reducible apply blk_set | ((with_reducible apply blk_other); focus omega))); (first | rfl | simp))
  have kRZ : blk Z (w.heap.size + 1 + 1 + 1) #[.int .i64 0, .int .i64 0, .int .i64 0, .int .i64 0, .int .i64 0, .int .i64 0, .int .i64 0, .int .i64 0, .int .i64 0, .int .i64 0, .int .i64 0, .int .i64 0, .int .i64 0, .int .i64 0, .bool false, .bool false, .bool false, .bool false, .int .i64 0, .slice none 0 0] 29 := by rw [hZ]; exact (by apply blk_of; (repeat (first | with_reducible exact kRT | with_reducible apply blk_drew | with_reducible apply blk_gw | with_reducible apply blk_alloc | with_reducible apply blk_set | ((with_reducible apply blk_other); focus omega))); (first | rfl | simp))
  have hbZ : Below w.heap.size w Z := by rw [hZ]; exact bBel
  clear hZ cb0 cb1 cb2 cb3 cb4 cb5 cb6 cb7 cb8 cb9 cb10 cb11 cb12 cb13 cb14 cb15 cb16 cb17 cb18 cb19 cp0 cp1 cq0 cq1 s2 s3 s4 kbT kpT kqT kRT kS fT5 fT6 fT7 obT opT oqT oS hRb cWC cSu cCr cMu cSc cAd cAa hInT hbwT
  have hszZ := hbZ.size
  have cV := fun w' => rcl_b { b with vx := X, vy := Y0, av := A0 } w'
  generalize ({ b with vx := X, vy := Y0, av := A0 } : Bdy) = c9 at *
  have cW := fun w' => rwk_b (clB c9) w'
  rw [hps.out] at cW
  generalize clB c9 = d9 at *
  have oZ := blk_older kZ
  have oRZ := blk_older kRZ
  go_wp2_with (first
    | (refine wpList_load_mid rfl 29 _ rfl (w.heap.size) 0 rfl _ _ (rng_blk23 kZ) Tryz.underlying29 rfl (bd_sizeC _) ?_)
    | (go_at_call 35; refine Calls.mono (gw_at (cV _)) ?_; rintro e w1 ⟨rfl, q1, rfl⟩)
    | (go_at_call 90; refine Calls.mono (gw_at (cW _)) ?_; rintro e w1 ⟨rfl, q2, rfl⟩; have kRZ2 := blk_gw (p := q2) (blk_gw (p := q1) kRZ); have hbZ2 : Below w.heap.size w (gw (gw Z q1) q2) := bBel)
    | (refine wpList_store_wide rfl 29 _ _ rfl (w.heap.size + 1 + 1 + 1) (bdc D) rfl rfl _ _ kRZ2 (by kernel_rfl) (bd_sizeC _) (bd_all _) ?_; intro E kE hbE koE hzE))
  refine bodyPost_ret (v := .agg (bdc D).toArray) (res_wide Tryz.results31 rfl _ (rng_blk23 kE) Tryz.underlying29 rfl (bd_sizeC _)) rfl ⟨rfl, hbE _ _ (by omega) hbZ2⟩

set_option maxRecDepth 100000 in
set_option maxHeartbeats 16000000 in
theorem rang_b (b : Bdy) (a : Int) (w : World) (ho : okL b) (hIn : BdIn w b) : Calls Tryz.prog 33 #[.agg (bdc b).toArray, .int .i64 a] w fun e w' => e = .returned (.agg (bdc (psB b 0 0 a)).toArray) ∧ Below w.heap.size w w' := by
  by_cases hk : b.k = 3
  rotate_left
  · have hk3 : (b.k != 3) = true := by rw [bne_iff_ne]; exact hk
    rw [psB_no _ _ _ hk]
    clear hk ho
    go_enter Tryz.func33, Tryz.ntmps33
    go_upto_region 1 with fail
    refine wp_named ?_
    intro V hV
    have kb : blk V (w.heap.size) (bdc b).toArray 29 := by rw [hV]; exact bBkn
    have kR : blk V (w.heap.size + 1) #[.int .i64 0, .int .i64 0, .int .i64 0, .int .i64 0, .int .i64 0, .int .i64 0, .int .i64 0, .int .i64 0, .int .i64 0, .int .i64 0, .int .i64 0, .int .i64 0, .int .i64 0, .int .i64 0, .bool false, .bool false, .bool false, .bool false, .int .i64 0, .slice none 0 0] 29 := by rw [hV]; exact bBkn
    have hbV : Below w.heap.size w V := by rw [hV]; exact bBel
    clear hV
    have hszV := hbV.size
    have ob := blk_older kb
    obtain ⟨cb0, cb1, cb2, cb3, cb4, cb5, cb6, cb7, cb8, cb9, cb10, cb11, cb12, cb13, cb14, cb15, cb16, cb17, cb18, cb19⟩ := bd_cells kb
    have oR := blk_older kR
    clear hIn
    go_upto_region 2 with fail
    go_wp2_with (first
      | (refine wpList_load_mid rfl 29 _ rfl (w.heap.size) 0 rfl _ _ (rng_blk23 kb) Tryz.underlying29 rfl (bd_sizeC b) ?_)
      | (refine wpList_store_wide rfl 29 _ _ rfl (w.heap.size + 1) (bdc b) rfl rfl _ _ kR (by kernel_rfl) (bd_sizeC _) (bd_all _) ?_; intro E kE hbE koE hzE))
    refine bodyPost_ret (v := .agg (bdc b).toArray) (res_wide Tryz.results33 rfl _ (rng_blk23 kE) Tryz.underlying29 rfl (bd_sizeC _)) rfl ⟨rfl, hbE _ _ (by omega) hbV⟩
  have hps : Hid ({ (clB { b with av := add b.av (mul a (ivi b)) }) with asl := false, idl := 0 } = psB b 0 0 a) := by
    show _ = _
    unfold psB clB
    rw [if_pos hk, cl24_zero, cl24_zero]
  have hk3 : (b.k != 3) = false := by rw [bne_eq_false_iff_eq]; exact hk
  clear hk
  have cS := fun w' h => rsb_b b w' ho h
  clear ho
  generalize psB b 0 0 a = D at *
  generalize ivm b = IM at *
  generalize ivi b = II at *
  have cMu := fun w' => rmul_b a II w'
  generalize mul a II = sa at *
  have cAa := fun w' => radd_b b.av sa w'
  generalize add b.av sa = A0 at *
  go_enter Tryz.func33, Tryz.ntmps33
  go_upto_region 1 with fail
  refine wp_named ?_
  intro V hV
  have kb : blk V (w.heap.size) (bdc b).toArray 29 := by rw [hV]; exact bBkn
  have kR : blk V (w.heap.size + 1) #[.int .i64 0, .int .i64 0, .int .i64 0, .int .i64 0, .int .i64 0, .int .i64 0, .int .i64 0, .int .i64 0, .int .i64 0, .int .i64 0, .int .i64 0, .int .i64 0, .int .i64 0, .int .i64 0, .bool false, .bool false, .bool false, .bool false, .int .i64 0, .slice none 0 0] 29 := by rw [hV]; exact bBkn
  have hbV : Below w.heap.size w V := by rw [hV]; exact bBel
  clear hV
  have hszV := hbV.size
  have ob := blk_older kb
  obtain ⟨cb0, cb1, cb2, cb3, cb4, cb5, cb6, cb7, cb8, cb9, cb10, cb11, cb12, cb13, cb14, cb15, cb16, cb17, cb18, cb19⟩ := bd_cells kb
  have oR := blk_older kR
  have hInV : BdIn V b := hIn.to hbV
  clear hIn
  have fb7 := blk_free kb 7
  have hRb : ∀ w', (∃ q, w' = gw V q) → w'.rangeAt _ 0 (bdc b) := fun w' h' => by
    obtain ⟨q, rfl⟩ := h'
    exact rng_blk23 (blk_gw kb)
  go_upto_region 3 with fail
  refine wp_region_gw_tail 9 (by kernel_rfl) (by kernel_rfl) ?_
  simp only [List.take_succ_cons, List.take_zero, List.drop_succ_cons, List.drop_zero]
  repeat (first | (refine wpQuiet_load23 (by rfl) 29 _ rfl w.heap.size 0 rfl (bdc b) _ hRb Tryz.underlying29 rfl (bd_sizeC b) ?_; simp only [Act.put, List.setIfInBounds_toArray, List.set_cons_zero, List.set_cons_succ]) | go_big_quiet_step ((first | (go_at_call 24; with_reducible_and_instances exact gw_call (cS _ (BdIn.to hInV bBel))) | (go_at_call 86; with_reducible_and_instances exact gw_call (cMu _)) | (go_at_call 89; with_reducible_and_instances exact gw_call (cAa _)))))
  refine wpQuiet_nil ?_
  intro w1 hw1
  obtain ⟨q, rfl⟩ := hw1
  go_upto_region 4 with fail
  refine wp_named ?_
  intro Z hZ
  have kZ : blk Z w.heap.size (bdc { b with av := A0 }).toArray 29 := by rw [hZ, ← bdc_av]; exact (by apply blk_of; (repeat (first | with_reducible exact kb | with_reducible apply blk_drew | with_reducible apply blk_gw | with_reducible apply blk_alloc | with_reducible apply blk_set | ((with_reducible apply blk_other); focus omega))); (first | rfl | simp))
  have kRZ : blk Z (w.heap.size + 1) #[.int .i64 0, .int .i64 0, .int .i64 0, .int .i64 0, .int .i64 0, .int .i64 0, .int .i64 0, .int .i64 0, .int .i64 0, .int .i64 0, .int .i64 0, .int .i64 0, .int .i64 0, .int .i64 0, .bool false, .bool false, .bool false, .bool false, .int .i64 0, .slice none 0 0] 29 := by rw [hZ]; exact (by apply blk_of; (repeat (first | with_reducible exact kR | with_reducible apply blk_drew | with_reducible apply blk_gw | with_reducible apply blk_alloc | with_reducible apply blk_set | ((with_reducible apply blk_other); focus omega))); (first | rfl | simp))
  have hbZ : Below w.heap.size w Z := by rw [hZ]; exact bBel
  clear hZ cb0 cb1 cb2 cb3 cb4 cb5 cb6 cb7 cb8 cb9 cb10 cb11 cb12 cb13 cb14 cb15 cb16 cb17 cb18 cb19 hRb cS cMu cAa hInV fb7
  have hszZ := hbZ.size
  have cV := fun w' => rcl_b { b with av := A0 } w'
  generalize ({ b with av := A0 } : Bdy) = c9 at *
  have cW := fun w' => rwk_b (clB c9) w'
  rw [hps.out] at cW
  generalize clB c9 = d9 at *
  have oZ := blk_older kZ
  have oRZ := blk_older kRZ
  go_wp2_with (first
    | (refine wpList_load_mid rfl 29 _ rfl (w.heap.size) 0 rfl _ _ (rng_blk23 kZ) Tryz.underlying29 rfl (bd_sizeC _) ?_)
    | (go_at_call 35; refine Calls.mono (gw_at (cV _)) ?_; rintro e w1 ⟨rfl, q1, rfl⟩)
    | (go_at_call 90; refine Calls.mono (gw_at (cW _)) ?_; rintro e w1 ⟨rfl, q2, rfl⟩; have kRZ2 := blk_gw (p := q2) (blk_gw (p := q1) kRZ); have hbZ2 : Below w.heap.size w (gw (gw Z q1) q2) := bBel)
    | (refine wpList_store_wide rfl 29 _ _ rfl (w.heap.size + 1) (bdc D) rfl rfl _ _ kRZ2 (by kernel_rfl) (bd_sizeC _) (bd_all _) ?_; intro E kE hbE koE hzE))
  refine bodyPost_ret (v := .agg (bdc D).toArray) (res_wide Tryz.results33 rfl _ (rng_blk23 kE) Tryz.underlying29 rfl (bd_sizeC _)) rfl ⟨rfl, hbE _ _ (by omega) hbZ2⟩


end Go.Proofs.YtdmcdicphohlfaaGreat
