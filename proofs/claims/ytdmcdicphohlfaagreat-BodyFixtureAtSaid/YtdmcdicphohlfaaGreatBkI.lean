/- Chapter 23: impulses, the program's: push, ApplyImpulse, ApplyAngularImpulse. -/
import Derived.Test.YtdmcdicphohlfaaGreatBkH
set_option linter.unusedVariables false
set_option linter.unusedSimpArgs false
namespace Go.Proofs.YtdmcdicphohlfaaGreat
open Go.RowKit Fx Go.Maps

theorem psB_no {b : Bdy} (x y a : Int) (h : ¬ b.k = 3) : psB b x y a = b := if_neg h
theorem psB_clB {b c : Bdy} {x y a : Int} (hk : b.k = 3) (h : bd0 c = bd0 b) : bd0 (clB { c with vx := add b.vx (mul x (ivm b)), vy := add b.vy (mul y (ivm b)), av := add b.av (mul a (ivi b)), asl := false, idl := 0 }) = bd0 (psB b x y a) := by
  have e : psB b x y a = { b with vx := cl24 (add b.vx (mul x (ivm b))), vy := cl24 (add b.vy (mul y (ivm b))), av := cl22 (add b.av (mul a (ivi b))), asl := false, idl := 0 } := if_pos hk
  rw [e]
  exact bd0_awk h _ _ _

set_option maxRecDepth 100000 in
set_option maxHeartbeats 16000000 in
theorem push_b (b : Bdy) (px py a : Int) (w : World) (ho : okL b) (hIn : BdIn w b) : Calls Tryz.prog 84 #[.agg (bdc b).toArray, .agg #[.int .i64 px, .int .i64 py], .int .i64 a] w (BdQ w (psB b px py a)) := by
  have cC := fun w' h => pcloq_b b w' ho h
  by_cases hk : b.k = 3
  rotate_left
  · have hps : Hid (bd0 (psB b px py a) = bd0 b) := by show _ = _; rw [psB_no _ _ _ hk]
    have hk3 : (b.k != 3) = true := by rw [bne_iff_ne]; exact hk
    clear hk ho
    go_enter Tryz.func84, Tryz.ntmps84
    go_upto_region 1 with fail
    refine wp_named ?_
    intro V hV
    have kb : blk V (w.heap.size) (bdc b).toArray 29 := by rw [hV]; exact bBkn
    have kp : blk V (w.heap.size + 1) #[.int .i64 px, .int .i64 py] 24 := by rw [hV]; exact bBkn
    have kR : blk V (w.heap.size + 1 + 1) #[.int .i64 0, .int .i64 0, .int .i64 0, .int .i64 0, .int .i64 0, .int .i64 0, .int .i64 0, .int .i64 0, .int .i64 0, .int .i64 0, .int .i64 0, .int .i64 0, .int .i64 0, .int .i64 0, .bool false, .bool false, .bool false, .bool false, .int .i64 0, .slice none 0 0] 29 := by rw [hV]; exact bBkn
    have hbV : Below w.heap.size w V := by rw [hV]; exact bBel
    clear hV
    have hszV := hbV.size
    have ob := blk_older kb
    obtain ⟨cb0, cb1, cb2, cb3, cb4, cb5, cb6, cb7, cb8, cb9, cb10, cb11, cb12, cb13, cb14, cb15, cb16, cb17, cb18, cb19⟩ := bd_cells kb
    have op := blk_older kp
    have cp0 := blk_cell kp 0
    have cp1 := blk_cell kp 1
    have oR := blk_older kR
    have hInV : BdIn V b := hIn.to hbV
    have hQb : Hid (∀ w', Below V.heap.size V w' → w'.rangeAt (w.heap.size) 0 (bdc b)) := fun w' h' => rng_blk23 (blk_below h' kb)
    go_upto_region 2 with (first | (refine wpList_load_g (by rfl) 29 _ rfl (w.heap.size) 0 rfl _ _ (hQb.out _ bBel) Tryz.underlying29 rfl (bd_sizeC b) ?_) | (go_at_call 41; refine Calls.mono (cC V hInV) ?_; rintro e U ⟨⟨b9, rfl, hs9, hN⟩, hbU⟩) | (refine wpList_store_wide rfl 29 _ _ rfl (U.heap.size) (bdc b9) rfl rfl _ _ bBkn (by kernel_rfl) (bd_sizeC b9) (bd_all b9) ?_; intro Y kY hbY koY hzY))
    have hszU := hbU.size
    have hbUY : Below U.heap.size U Y := hbY _ _ (Nat.le_refl _) bBel
    have hbVY : Below V.heap.size V Y := Below.trans hbU (hbUY.mono hszU)
    have hNY := hN.to hbUY
    have hPY : U.heap.size < Y.heap.size := blk_lt kY
    have kRY := blk_below hbVY kR
    have hbwY : Below w.heap.size w Y := Below.trans hbV (hbVY.mono hszV)
    have hlb := blk_lt kb
    have hlR := blk_lt kR
    have hInY := hInV.to hbVY
    have kbY := blk_below hbVY kb
    obtain ⟨P, hP⟩ : ∃ P, U.heap.size = P := ⟨_, rfl⟩
    rw [hP] at hszU hbUY hPY kY
    have hPH : Hid (U.heap.size = P) := hP
    rw [hP]
    clear hP
    clear cb0 cb1 cb2 cb3 cb4 cb5 cb6 cb7 cb8 cb9 cb10 cb11 cb12 cb13 cb14 cb15 cb16 cb17 cb18 cb19 ob op oR hQb hbU hbY koY hzY hInV hInY kb kR hIn cC hN hPH hbUY hszU
    have oY := blk_older kY
    have oB := blk_older kbY
    have hszY := hbwY.size
    obtain ⟨cb0, cb1, cb2, cb3, cb4, cb5, cb6, cb7, cb8, cb9, cb10, cb11, cb12, cb13, cb14, cb15, cb16, cb17, cb18, cb19⟩ := bd_cells kbY
    try simp only [Act.put]
    go_wp2_with (first
      | (refine wpList_load_mid rfl 29 _ rfl P 0 rfl _ _ (rng_blk23 kY) Tryz.underlying29 rfl (bd_sizeC b9) ?_)
      | (refine wpList_store_wide rfl 29 _ _ rfl (w.heap.size + 1 + 1) (bdc b9) rfl rfl _ _ kRY (by kernel_rfl) (bd_sizeC _) (bd_all _) ?_; intro E kE hbE koE hzE))
    refine bodyPost_ret (v := .agg (bdc b9).toArray) (res_wide Tryz.results84 rfl _ (rng_blk23 kE) Tryz.underlying29 rfl (bd_sizeC _)) rfl ⟨⟨b9, rfl, (hs9.out.trans hps.out.symm), ?_⟩, hbE _ _ (by omega) hbwY⟩
    exact (hNY.keep fun g c t hg hk => koE g c t (by omega) hk).weaken (by omega)
  have hcB : Hid (∀ c, bd0 c = bd0 b → bd0 (clB { c with vx := add b.vx (mul px (ivm b)), vy := add b.vy (mul py (ivm b)), av := add b.av (mul a (ivi b)), asl := false, idl := 0 }) = bd0 (psB b px py a)) := fun c h => psB_clB hk h
  have hk3 : (b.k != 3) = false := by rw [bne_eq_false_iff_eq]; exact hk
  clear hk
  have cS := fun w' h => psb_b b w' ho h
  have hoH : Hid (okL b) := ho
  clear ho
  generalize ivm b = IM at *
  generalize ivi b = II at *
  have cSc := fun w' => vscale_b px py IM w'
  have cMu := fun w' => mul_b a II w'
  generalize mul px IM = sx at *
  generalize mul py IM = sy at *
  generalize mul a II = sa at *
  have cAd := fun w' => vadd_b b.vx b.vy sx sy w'
  have cAa := fun w' => add_b b.av sa w'
  generalize add b.vx sx = X at *
  generalize add b.vy sy = Y0 at *
  generalize add b.av sa = A0 at *
  go_enter Tryz.func84, Tryz.ntmps84
  go_upto_region 1 with fail
  refine wp_named ?_
  intro V hV
  have kb : blk V (w.heap.size) (bdc b).toArray 29 := by rw [hV]; exact bBkn
  have kp : blk V (w.heap.size + 1) #[.int .i64 px, .int .i64 py] 24 := by rw [hV]; exact bBkn
  have kR : blk V (w.heap.size + 1 + 1) #[.int .i64 0, .int .i64 0, .int .i64 0, .int .i64 0, .int .i64 0, .int .i64 0, .int .i64 0, .int .i64 0, .int .i64 0, .int .i64 0, .int .i64 0, .int .i64 0, .int .i64 0, .int .i64 0, .bool false, .bool false, .bool false, .bool false, .int .i64 0, .slice none 0 0] 29 := by rw [hV]; exact bBkn
  have hbV : Below w.heap.size w V := by rw [hV]; exact bBel
  clear hV
  have hszV := hbV.size
  have ob := blk_older kb
  obtain ⟨cb0, cb1, cb2, cb3, cb4, cb5, cb6, cb7, cb8, cb9, cb10, cb11, cb12, cb13, cb14, cb15, cb16, cb17, cb18, cb19⟩ := bd_cells kb
  have op := blk_older kp
  have cp0 := blk_cell kp 0
  have cp1 := blk_cell kp 1
  have oR := blk_older kR
  have hInV : BdIn V b := hIn.to hbV
  have hQb : Hid (∀ w', Below V.heap.size V w' → w'.rangeAt (w.heap.size) 0 (bdc b)) := fun w' h' => rng_blk23 (blk_below h' kb)
  go_upto_region 2 with (first | (refine wpList_load_g (by rfl) 29 _ rfl (w.heap.size) 0 rfl _ _ (hQb.out _ bBel) Tryz.underlying29 rfl (bd_sizeC b) ?_) | (go_at_call 41; refine Calls.mono (cC V hInV) ?_; rintro e U ⟨⟨b9, rfl, hs9, hN⟩, hbU⟩) | (refine wpList_store_wide rfl 29 _ _ rfl (U.heap.size) (bdc b9) rfl rfl _ _ bBkn (by kernel_rfl) (bd_sizeC b9) (bd_all b9) ?_; intro Y kY hbY koY hzY))
  have hszU := hbU.size
  have hbUY : Below U.heap.size U Y := hbY _ _ (Nat.le_refl _) bBel
  have hbVY : Below V.heap.size V Y := Below.trans hbU (hbUY.mono hszU)
  have hNY := hN.to hbUY
  have hPY : U.heap.size < Y.heap.size := blk_lt kY
  have kRY := blk_below hbVY kR
  have hbwY : Below w.heap.size w Y := Below.trans hbV (hbVY.mono hszV)
  have hlb := blk_lt kb
  have hlR := blk_lt kR
  have hInY := hInV.to hbVY
  have kbY := blk_below hbVY kb
  obtain ⟨P, hP⟩ : ∃ P, U.heap.size = P := ⟨_, rfl⟩
  rw [hP] at hszU hbUY hPY kY
  have hPH : Hid (U.heap.size = P) := hP
  rw [hP]
  clear hP
  have kpY := blk_below hbVY kp
  clear cb0 cb1 cb2 cb3 cb4 cb5 cb6 cb7 cb8 cb9 cb10 cb11 cb12 cb13 cb14 cb15 cb16 cb17 cb18 cb19 cp0 cp1 ob op oR hQb hbU hbY koY hzY hInV kb kp kR hIn cC hNY
  have oY := blk_older kY
  have oB := blk_older kbY
  have hszY := hbwY.size
  obtain ⟨cb0, cb1, cb2, cb3, cb4, cb5, cb6, cb7, cb8, cb9, cb10, cb11, cb12, cb13, cb14, cb15, cb16, cb17, cb18, cb19⟩ := bd_cells kbY
  try simp only [Act.put]
  have hQy : Hid (∀ w', Below Y.heap.size Y w' → w'.rangeAt w.heap.size 0 (bdc b)) := fun w' h' => rng_blk23 (blk_below h' kbY)
  go_upto_region 5 with (first | (refine wpList_load_g (by rfl) 29 _ rfl w.heap.size 0 rfl _ _ (hQy.out _ bBel) Tryz.underlying29 rfl (bd_sizeC b) ?_) | (go_at_call 23; refine Calls.mono (cS Y hInY) ?_; rintro e U2 ⟨rfl, hb2⟩))
  have hzT := hb2.size
  refine wp_named ?_
  intro T hT
  have kS : blk T U2.heap.size #[.int .i64 b.vx, .int .i64 b.vy, .int .i64 b.av, .int .i64 IM, .int .i64 II] 53 := by rw [hT]; exact bBkn
  have hbYT : Below Y.heap.size Y T := by rw [hT]; exact bBel
  clear hT hQy hInY cS
  have hbwT : Below w.heap.size w T := Below.trans hbwY (hbYT.mono hszY)
  have kYT := blk_below hbYT kY
  have kbT := blk_below hbYT kbY
  have kpT := blk_below hbYT kpY
  have kRT := blk_below hbYT kRY
  have hbPT : Below P U T := Below.trans hbUY (hbYT.mono (Nat.le_of_lt hPY))
  have hlP := blk_lt kYT
  have hbl := blk_lt kbY
  have hpl := blk_lt kpY
  have hRl := blk_lt kRY
  clear cb0 cb1 cb2 cb3 cb4 cb5 cb6 cb7 cb8 cb9 cb10 cb11 cb12 cb13 cb14 cb15 cb16 cb17 cb18 cb19 oY oB kY kbY kpY kRY hbUY hbYT hb2 hbVY hbwY
  generalize U2.heap.size = S2 at *
  have hszT := hbwT.size
  have oYT := blk_older kYT
  have obT := blk_older kbT
  have opT := blk_older kpT
  have oS := blk_older kS
  obtain ⟨cb0, cb1, cb2, cb3, cb4, cb5, cb6, cb7, cb8, cb9, cb10, cb11, cb12, cb13, cb14, cb15, cb16, cb17, cb18, cb19⟩ := bd_cells kbT
  have cp0 : T.cell? ⟨w.heap.size + 1, 0, none⟩ = some (.int .i64 px) := blk_cell kpT 0
  have cp1 : T.cell? ⟨w.heap.size + 1, 1, none⟩ = some (.int .i64 py) := blk_cell kpT 1
  have s2 : T.cell? ⟨S2, 2, none⟩ = some (.int .i64 b.av) := blk_cell kS 2
  have s3 : T.cell? ⟨S2, 3, none⟩ = some (.int .i64 IM) := blk_cell kS 3
  have s4 : T.cell? ⟨S2, 4, none⟩ = some (.int .i64 II) := blk_cell kS 4
  obtain ⟨dT0, dT1, dT2, dT3, dT4, dT5, dT6, dT7, dT8, dT9, dT10, dT11, dT12, dT13, dT14, dT15, dT16, dT17, dT18, dT19⟩ := bd_cells kYT
  have fT5 := blk_free kYT 5
  have fT6 := blk_free kYT 6
  have fT7 := blk_free kYT 7
  have fT17 := blk_free kYT 17
  have fT18 := blk_free kYT 18
  try simp only [Act.put]
  refine wp_region_gw_tail 8 (by kernel_rfl) (by kernel_rfl) ?_
  simp only [List.take_succ_cons, List.take_zero, List.drop_succ_cons, List.drop_zero]
  repeat (first | go_big_quiet_step ((first | (go_at_call 155; with_reducible_and_instances exact gw_call (cSc _)) | (go_at_call 74; with_reducible_and_instances exact gw_call (cAd _)))))
  refine wpQuiet_nil ?_
  intro w1 hw1
  obtain ⟨q, rfl⟩ := hw1
  go_upto_region 6 with fail
  refine wp_region_gw_tail 8 (by kernel_rfl) (by kernel_rfl) ?_
  simp only [List.take_succ_cons, List.take_zero, List.drop_succ_cons, List.drop_zero]
  repeat (first | go_big_quiet_step ((first | (go_at_call 151; with_reducible_and_instances exact gw_call (cMu _)) | (go_at_call 150; with_reducible_and_instances exact gw_call (cAa _)))))
  refine wpQuiet_nil ?_
  intro w1 hw1
  obtain ⟨q, rfl⟩ := hw1
  go_upto_region 9 with fail
  refine wp_named ?_
  intro Z hZ
  have kZ : blk Z P (bdc { b9 with vx := X, vy := Y0, av := A0, asl := false, idl := 0 }).toArray 29 := by rw [hZ, ← bdc_awk]; exact (by apply blk_of; (repeat (first | with_reducible exact kYT | with_reducible apply blk_drew | with_reducible apply blk_gw | with_reducible apply blk_alloc | with_reducible apply blk_set | ((with_reducible apply blk_other); focus omega))); (first | rfl | simp))
  have kRZ : blk Z (w.heap.size + 1 + 1) #[.int .i64 0, .int .i64 0, .int .i64 0, .int .i64 0, .int .i64 0, .int .i64 0, .int .i64 0, .int .i64 0, .int .i64 0, .int .i64 0, .int .i64 0, .int .i64 0, .int .i64 0, .int .i64 0, .bool false, .bool false, .bool false, .bool false, .int .i64 0, .slice none 0 0] 29 := by rw [hZ]; exact (by apply blk_of; (repeat (first | with_reducible exact kRT | with_reducible apply blk_drew | with_reducible apply blk_gw | with_reducible apply blk_alloc | with_reducible apply blk_set | ((with_reducible apply blk_other); focus omega))); (first | rfl | simp))
  have hbZ : Below w.heap.size w Z := by rw [hZ]; exact bBel
  have hbPZ : Below P U Z := by rw [hZ]; exact bBel
  have hNZ := hN.to (hPH.out.symm ▸ hbPZ)
  clear hZ hbPZ hN hbPT kYT kRT kbT kpT kS cb0 cb1 cb2 cb3 cb4 cb5 cb6 cb7 cb8 cb9 cb10 cb11 cb12 cb13 cb14 cb15 cb16 cb17 cb18 cb19 dT0 dT1 dT2 dT3 dT4 dT5 dT6 dT7 dT8 dT9 dT10 dT11 dT12 dT13 dT14 dT15 dT16 dT17 dT18 dT19 cp0 cp1 s2 s3 s4 fT5 fT6 fT7 fT17 fT18 oYT obT opT oS cSc cMu cAd cAa
  have hszZ := hbZ.size
  have hs : Hid (bd0 (clB { b9 with vx := X, vy := Y0, av := A0, asl := false, idl := 0 }) = bd0 (psB b px py a)) := hcB.out _ hs9.out
  have hok9 : okL { b9 with vx := X, vy := Y0, av := A0, asl := false, idl := 0 } := (show okL b9 from okL_eq hs9.out hoH.out)
  have hfx : Hid (({ b9 with vx := X, vy := Y0, av := A0, asl := false, idl := 0 } : Bdy).A = b9.A ∧ ({ b9 with vx := X, vy := Y0, av := A0, asl := false, idl := 0 } : Bdy).fs = b9.fs ∧ ({ b9 with vx := X, vy := Y0, av := A0, asl := false, idl := 0 } : Bdy).cap = b9.cap) := ⟨rfl, rfl, rfl⟩
  generalize ({ b9 with vx := X, vy := Y0, av := A0, asl := false, idl := 0 } : Bdy) = c9 at *
  rw [← hfx.out.1, ← hfx.out.2.1, ← hfx.out.2.2] at hNZ
  have hIn9 := new_in hNZ
  have cV := fun w' h => pcl_b c9 w' hok9 h
  clear hok9
  have oZ := blk_older kZ
  have hRlZ := blk_lt kRZ
  try simp only [Act.put]
  go_wp2_with (first
    | (refine wpList_load_mid rfl 29 _ rfl P 0 rfl _ _ (rng_blk23 kZ) Tryz.underlying29 rfl (bd_sizeC c9) ?_)
    | (go_at_call 34; refine Calls.mono (cV Z hIn9) ?_; rintro e U9 ⟨⟨d9, rfl, hd9, hN9⟩, hb9⟩; have kRU := blk_below hb9 kRZ; have hbwU : Below w.heap.size w U9 := Below.trans hbZ (hb9.mono hszZ))
    | (refine wpList_store_wide rfl 29 _ _ rfl (w.heap.size + 1 + 1) (bdc d9) rfl rfl _ _ kRU (by kernel_rfl) (bd_sizeC _) (bd_all _) ?_; intro E kE hbE koE hzE))
  refine bodyPost_ret (v := .agg (bdc d9).toArray) (res_wide Tryz.results84 rfl _ (rng_blk23 kE) Tryz.underlying29 rfl (bd_sizeC _)) rfl ⟨⟨d9, rfl, (hd9.out.trans hs.out), ?_⟩, hbE _ _ (by omega) hbwU⟩
  exact (hN9.keep fun g c t hg hk => koE g c t (by omega) hk).weaken (by omega)

set_option maxRecDepth 100000 in
set_option maxHeartbeats 16000000 in
theorem pang_b (b : Bdy) (a : Int) (w : World) (ho : okL b) (hIn : BdIn w b) : Calls Tryz.prog 32 #[.agg (bdc b).toArray, .int .i64 a] w (BdQ w (psB b 0 0 a)) := by
  have cP := fun w' h => push_b b 0 0 a w' ho h
  clear ho
  go_enter Tryz.func32, Tryz.ntmps32
  go_upto_region 1 with fail
  refine wp_named ?_
  intro V hV
  have kb : blk V (w.heap.size) (bdc b).toArray 29 := by rw [hV]; exact bBkn
  have kR : blk V (w.heap.size + 1) #[.int .i64 0, .int .i64 0, .int .i64 0, .int .i64 0, .int .i64 0, .int .i64 0, .int .i64 0, .int .i64 0, .int .i64 0, .int .i64 0, .int .i64 0, .int .i64 0, .int .i64 0, .int .i64 0, .bool false, .bool false, .bool false, .bool false, .int .i64 0, .slice none 0 0] 29 := by rw [hV]; exact bBkn
  have hbV : Below w.heap.size w V := by rw [hV]; exact bBel
  clear hV
  have hszV := hbV.size
  have ob := blk_older kb
  obtain ⟨cb0, cb1, cb2, cb3, cb4, cb5, cb6, cb7, cb8, cb9, cb10, cb11, cb12, cb13, cb14, cb15, cb16, cb17, cb18, cb19⟩ := bd_cells kb
  have oR := blk_older kR
  have hInV : BdIn V b := hIn.to hbV
  have hQb : Hid (∀ w', Below V.heap.size V w' → w'.rangeAt (w.heap.size) 0 (bdc b)) := fun w' h' => rng_blk23 (blk_below h' kb)
  have hlR := blk_lt kR
  go_wp2_with (first | (refine wpList_load_g (by rfl) 29 _ rfl (w.heap.size) 0 rfl _ _ (hQb.out _ bBel) Tryz.underlying29 rfl (bd_sizeC b) ?_) | (go_at_call 84; refine Calls.mono (cP V hInV) ?_; rintro e U9 ⟨⟨d9, rfl, hd9, hN9⟩, hb9⟩; have kRU := blk_below hb9 kR; have hbwU : Below w.heap.size w U9 := Below.trans hbV (hb9.mono hszV)) | (refine wpList_store_wide rfl 29 _ _ rfl (w.heap.size + 1) (bdc d9) rfl rfl _ _ kRU (by kernel_rfl) (bd_sizeC _) (bd_all _) ?_; intro E kE hbE koE hzE))
  refine bodyPost_ret (v := .agg (bdc d9).toArray) (res_wide Tryz.results32 rfl _ (rng_blk23 kE) Tryz.underlying29 rfl (bd_sizeC _)) rfl ⟨⟨d9, rfl, hd9.out, ?_⟩, hbE _ _ (by omega) hbwU⟩
  exact (hN9.keep fun g c t hg hk => koE g c t (by omega) hk).weaken (by omega)

set_option maxRecDepth 100000 in
set_option maxHeartbeats 16000000 in
theorem pimp_b (b : Bdy) (px py qx qy : Int) (w : World) (ho : okL b) (hIn : BdIn w b) : Calls Tryz.prog 30 #[.agg (bdc b).toArray, .agg #[.int .i64 px, .int .i64 py], .agg #[.int .i64 qx, .int .i64 qy]] w (BdQ w (imB b px py qx qy)) := by
  unfold imB
  have cA := fun w' h => parm_b b px py w' ho h
  generalize sub px (wcx b) = X at *
  generalize sub py (wcy b) = Y0 at *
  have cX := fun w' => cross_b X Y0 qx qy w'
  generalize cross X Y0 qx qy = a at *
  have cP := fun w' h => push_b b qx qy a w' ho h
  clear ho
  go_enter Tryz.func30, Tryz.ntmps30
  go_upto_region 1 with fail
  refine wp_named ?_
  intro V hV
  have kb : blk V (w.heap.size) (bdc b).toArray 29 := by rw [hV]; exact bBkn
  have kp : blk V (w.heap.size + 1) #[.int .i64 px, .int .i64 py] 24 := by rw [hV]; exact bBkn
  have kq : blk V (w.heap.size + 1 + 1) #[.int .i64 qx, .int .i64 qy] 24 := by rw [hV]; exact bBkn
  have kR : blk V (w.heap.size + 1 + 1 + 1) #[.int .i64 0, .int .i64 0, .int .i64 0, .int .i64 0, .int .i64 0, .int .i64 0, .int .i64 0, .int .i64 0, .int .i64 0, .int .i64 0, .int .i64 0, .int .i64 0, .int .i64 0, .int .i64 0, .bool false, .bool false, .bool false, .bool false, .int .i64 0, .slice none 0 0] 29 := by rw [hV]; exact bBkn
  have hbV : Below w.heap.size w V := by rw [hV]; exact bBel
  clear hV
  have hszV := hbV.size
  have ob := blk_older kb
  obtain ⟨cb0, cb1, cb2, cb3, cb4, cb5, cb6, cb7, cb8, cb9, cb10, cb11, cb12, cb13, cb14, cb15, cb16, cb17, cb18, cb19⟩ := bd_cells kb
  have op := blk_older kp
  have cp0 := blk_cell kp 0
  have cp1 := blk_cell kp 1
  have oq := blk_older kq
  have cq0 := blk_cell kq 0
  have cq1 := blk_cell kq 1
  have oR := blk_older kR
  have hInV : BdIn V b := hIn.to hbV
  have hRb : ∀ w', (∃ q, w' = gw V q) → w'.rangeAt _ 0 (bdc b) := fun w' h' => by
    obtain ⟨q, rfl⟩ := h'
    exact rng_blk23 (blk_gw kb)
  have hlR := blk_lt kR
  refine wp_region_gw_tail 7 (by kernel_rfl) (by kernel_rfl) ?_
  simp only [List.take_succ_cons, List.take_zero, List.drop_succ_cons, List.drop_zero]
  repeat (first | (refine wpQuiet_load23 (by rfl) 29 _ rfl w.heap.size 0 rfl (bdc b) _ hRb Tryz.underlying29 rfl (bd_sizeC b) ?_; simp only [Act.put, List.setIfInBounds_toArray, List.set_cons_zero, List.set_cons_succ]) | go_big_quiet_step ((first | (go_at_call 76; with_reducible_and_instances exact gw_call (cA _ (BdIn.to hInV bBel))) | (go_at_call 85; with_reducible_and_instances exact gw_call (cX _)))))
  refine wpQuiet_nil ?_
  intro w1 hw1
  obtain ⟨q, rfl⟩ := hw1
  have hInG := hInV.to (below_gw V q)
  have kRG : blk (gw V q) (w.heap.size + 1 + 1 + 1) #[.int .i64 0, .int .i64 0, .int .i64 0, .int .i64 0, .int .i64 0, .int .i64 0, .int .i64 0, .int .i64 0, .int .i64 0, .int .i64 0, .int .i64 0, .int .i64 0, .int .i64 0, .int .i64 0, .bool false, .bool false, .bool false, .bool false, .int .i64 0, .slice none 0 0] 29 := blk_gw kR
  go_wp2_with (first | (go_at_call 84; refine Calls.mono (cP _ hInG) ?_; rintro e U9 ⟨⟨d9, rfl, hd9, hN9⟩, hb9⟩; have kRU := blk_below hb9 kRG; have hszG : w.heap.size ≤ (gw V q).heap.size := Nat.le_trans hszV (below_gw V q).size; have hbwU : Below w.heap.size w U9 := Below.trans (Below.trans hbV ((below_gw V q).mono hszV)) (hb9.mono hszG); have hlG : w.heap.size + 1 + 1 + 1 < (gw V q).heap.size := blk_lt kRG) | (refine wpList_store_wide rfl 29 _ _ rfl (w.heap.size + 1 + 1 + 1) (bdc d9) rfl rfl _ _ kRU (by kernel_rfl) (bd_sizeC _) (bd_all _) ?_; intro E kE hbE koE hzE))
  refine bodyPost_ret (v := .agg (bdc d9).toArray) (res_wide Tryz.results30 rfl _ (rng_blk23 kE) Tryz.underlying29 rfl (bd_sizeC _)) rfl ⟨⟨d9, rfl, hd9.out, ?_⟩, hbE _ _ (by omega) hbwU⟩
  exact (hN9.keep fun g c t hg hk => koE g c t (by omega) hk).weaken (by omega)


end Go.Proofs.YtdmcdicphohlfaaGreat
