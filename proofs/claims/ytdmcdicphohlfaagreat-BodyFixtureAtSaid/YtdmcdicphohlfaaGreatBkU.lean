/- Chapter 23: the example, walked. -/
import Derived.Test.YtdmcdicphohlfaaGreatBkS
import Derived.Test.YtdmcdicphohlfaaGreatBkT
set_option linter.unusedVariables false
set_option linter.unusedSimpArgs false
namespace Go.Proofs.YtdmcdicphohlfaaGreat
open Go.RowKit Fx Go.Maps

theorem bl_then {B : Nat} {a b c : World} (h2 : Below B b c) (h1 : Below B a b) : Below B a c := h1.trans h2
theorem bd0_v {a c : Bdy} (h : bd0 a = bd0 c) : a.vx = c.vx ∧ a.vy = c.vy ∧ a.av = c.av := ⟨(by show (bd0 a).vx = (bd0 c).vx; rw [h]), (by show (bd0 a).vy = (bd0 c).vy; rw [h]), (by show (bd0 a).av = (bd0 c).av; rw [h])⟩

set_option maxRecDepth 100000 in
set_option maxHeartbeats 64000000 in
theorem example23_b (w : World) : Calls Tryz.prog 12 #[] w fun e w' => e = .returned (.bool true) ∧ Below w.heap.size w w' := by
  go_enter Tryz.func12, Tryz.ntmps12
  go_upto_region 2 with (first | (go_at_call 50; refine Calls.mono (disk_b _) ?_; rintro e U ⟨⟨b, rfl, hbq, hIn⟩, hbU⟩) | (refine list_nm23 ?_; intro T0 hT0; have kX : blk T0 (U.heap.size) #[.int .i64 0, .int .i64 0, .int .i64 0, .int .i64 0, .int .i64 0, .int .i64 0, .int .i64 0, .int .i64 0, .int .i64 0, .int .i64 0, .int .i64 0, .int .i64 0, .int .i64 0, .int .i64 0, .bool false, .bool false, .bool false, .bool false, .int .i64 0, .slice none 0 0] 29 := (by rw [hT0]; exact blk_new _ _ _); have hbT0 : Below U.heap.size U T0 := (by rw [hT0]; exact bBel); clear hT0; refine wpList_store_wide rfl 29 _ _ rfl (U.heap.size) (bdc b) rfl rfl _ _ kX (by kernel_rfl) (bd_sizeC b) (bd_all b) ?_; intro T kT hbT koT hzT; clear hzT))
  have hszU := hbU.size
  have hbUT : Below U.heap.size U T := hbT _ _ (Nat.le_refl _) hbT0
  have hbwT : Below w.heap.size w T := Below.trans hbU (hbUT.mono hszU)
  have hInT := hIn.to hbUT
  have hlT := blk_lt kT
  clear hbT koT hbT0 kX hIn hbUT hbU
  generalize U.heap.size = B1 at *
  have hszT := hbwT.size
  have hob : Hid (okL b) := okL_eq hbq.out dk_okL
  have hv0 : bdV b = 0 := by rw [bdV_eq hbq.out]; exact dk_val
  have hw1 : wcx b = 5 := by rw [wcx_eq hbq.out]; exact dk_wc.1
  have hw2 : wcy b = 0 := by rw [wcy_eq hbq.out]; exact dk_wc.2
  have hU0 : bxs23 b b.fs.length = ⟨-65531, -65536, 65541, 65536⟩ := by rw [bxs23_eq hbq.out]; exact dk_bnd
  have hlen : b.fs.length = 1 := map_len (bd0_fs hbq.out)
  have hf0 : fxat b 5 0 = 0 := by rw [fxat_eq hbq.out]; exact dk_at
  have hi := imB_eq hbq.out 5 0 205888 0
  have hiH := show Hid _ from hi
  have cW := fun w' h => pwc_b b w' hob.out h
  rw [hw1, hw2] at cW
  have cI := fun w' h => pimp_b b 5 0 205888 0 w' hob.out h
  have cB := fun w' h => pbd_b b w' hob.out h
  have hdl : decide (0 < b.fs.length) = true := by rw [hlen]; rfl
  rw [hU0, hdl] at cB
  dsimp only at cB
  have cV := fun w' h => pval_b b w' hob.out h
  rw [hv0] at cV
  have cF := fun w' h => pfa_b b 5 0 w' hob.out h
  rw [hf0] at cF
  have cC := fun w' h => pcloq_b b w' hob.out h
  have cZ : ∀ w', Calls Tryz.prog 13 #[.agg #[.int .i64 0, .int .i64 0, .int .i64 0, .int .i64 0, .int .i64 0, .int .i64 0, .int .i64 0, .int .i64 0, .int .i64 0, .int .i64 0, .int .i64 0, .int .i64 0, .int .i64 0, .int .i64 0, .bool false, .bool false, .bool false, .bool false, .int .i64 0, .slice none 0 0]] w' fun e w'' => e = .returned (.int .i64 10) ∧ Below w'.heap.size w' w'' := fun w' => by
    have h := pval_b zeB w' ⟨by decide, fun f hf => by cases hf⟩ ⟨.inl rfl, fun _ => rfl, Nat.le_refl _, by decide⟩
    rw [ze_val] at h
    exact h
  clear hi hv0 hw1 hw2 hU0 hlen hf0 hdl
  have oT := blk_older kT
  have hRb : ∀ w', (∃ q, w' = gw T q) → w'.rangeAt B1 0 (bdc b) := fun w' h' => by
    obtain ⟨q, rfl⟩ := h'
    exact rng_blk23 (blk_gw kT)
  try simp only [Act.put]
  go_upto_region 2 with fail
  refine wp_mix 6 [0, 0, 2, 0, 15, 0, 63] [] [0, 1, 2, 3, 4, 5] (by kernel_rfl) (by kernel_rfl) ?_
  repeat (first
    | (refine mix_skip (by rfl) (by rfl) (by rfl) (by rfl) ?_)
    | (refine mix_early (by rfl) (by rfl) (by rfl) ?_; refine wpQuiet_load23 (by rfl) 29 _ rfl (B1) 0 rfl (bdc b) _ hRb Tryz.underlying29 rfl (bd_sizeC b) ?_; with_reducible refine wpQuiet_nil ?_; simp only [Act.put, List.setIfInBounds_toArray, List.set_cons_zero, List.set_cons_succ])
    | (refine mix_early (by rfl) (by rfl) (by rfl) ?_; go_big_quiet_step (fail); with_reducible refine wpQuiet_nil ?_)
    | (refine mix_late (by rfl) (by rfl) (by rfl) ?_; go_big_quiet_step (fail); with_reducible refine wpQuiet_nil ?_)
    | (refine mix_call (by rfl) (by rfl) (by rfl) ?_; intro pM Qs hQs; go_wp2_with (first | (go_at_call 21; with_reducible_and_instances refine Calls.mono (gw_at (cW _ (BdIn.to hInT bBel))) ?_; rintro e w1 ⟨rfl, q, rfl⟩) | (go_at_call 30; refine Calls.mono (cI _ (BdIn.to hInT bBel)) ?_; rintro e UI ⟨⟨s9, rfl, hs9, hNs⟩, hbI⟩; have hbTI : Below T.heap.size T UI := bl_then (hbI.mono (by first | (simp; done) | (simp; omega))) bBel)); refine hQs _ _ bBel ?_))
  refine mix_make #[.int .i64 0, .int .i64 0, .int .i64 0, .int .i64 0, .int .i64 0, .int .i64 0, .int .i64 0, .int .i64 0, .int .i64 0, .int .i64 0, .int .i64 0, .int .i64 0, .int .i64 0, .int .i64 0, .bool false, .bool false, .bool false, .bool false, .int .i64 0, .slice none 0 0] 29 none (by rfl) (by rfl) (by rfl) (by rfl) (fun w => by simp [go_sem, mval]) ?_
  intro B2 wb hbb kB hS5
  have hTB : T.heap.size ≤ B2 := by simp at hS5; omega
  have hbTw : Below T.heap.size T wb := Below.trans hbTI (hbb.mono hbTI.size)
  clear hbb hS5 hbTI hNs hbI hRb
  simp only [mval]
  refine mix_end ?_
  intro pE
  simp only [List.drop_succ_cons, List.drop_zero]
  have kBE : blk (gw wb pE) B2 #[.int .i64 0, .int .i64 0, .int .i64 0, .int .i64 0, .int .i64 0, .int .i64 0, .int .i64 0, .int .i64 0, .int .i64 0, .int .i64 0, .int .i64 0, .int .i64 0, .int .i64 0, .int .i64 0, .bool false, .bool false, .bool false, .bool false, .int .i64 0, .slice none 0 0] 29 := blk_gw kB
  have hbTE : Below T.heap.size T (gw wb pE) := Below.trans hbTw ((below_gw wb pE).mono hbTw.size)
  go_upto_region 3 with (refine wpList_store_wide rfl 29 _ _ rfl (B2) (bdc s9) rfl rfl _ _ kBE (by kernel_rfl) (bd_sizeC s9) (bd_all s9) ?_; intro Y kY hbY koY hzY)
  have hbTY : Below T.heap.size T Y := hbY _ _ hTB hbTE
  have kTY := blk_below hbTY kT
  have hInY := hInT.to hbTY
  have hbwY : Below w.heap.size w Y := Below.trans hbwT (hbTY.mono hszT)
  clear hbY koY hzY kBE hbTE hbTw kB kT hInT oT cI cW
  have hszY := hbwY.size
  have cW := fun w' h => pwc_b b w' hob.out h
  rw [show wcx b = 5 from by rw [wcx_eq hbq.out]; exact dk_wc.1, show wcy b = 0 from by rw [wcy_eq hbq.out]; exact dk_wc.2] at cW
  have oTY := blk_older kTY
  have oY := blk_older kY
  have hQY : Hid (∀ w', Below Y.heap.size Y w' → w'.rangeAt B1 0 (bdc b)) := fun w' h' => rng_blk23 (blk_below h' kTY)
  try simp only [Act.put]
  go_upto_region 4 with (first | (refine wpList_load_g (by rfl) 29 _ rfl B1 0 rfl _ _ (hQY.out _ bBel) Tryz.underlying29 rfl (bd_sizeC b) ?_) | (go_at_call 17; refine Calls.mono (cB Y hInY) ?_; rintro e U3 ⟨rfl, hb3⟩))
  have hz3 := hb3.size
  refine wp_named ?_
  intro Z hZ
  have kX : blk Z U3.heap.size #[.int .i64 (-65531), .int .i64 (-65536), .int .i64 65541, .int .i64 65536] 45 := by rw [hZ]; exact bBkn
  have hbYZ : Below Y.heap.size Y Z := by rw [hZ]; exact bBel
  clear hZ hQY
  have hbwZ : Below w.heap.size w Z := Below.trans hbwY (hbYZ.mono hszY)
  have kbZ := blk_below hbYZ kTY
  have ksZ := blk_below hbYZ kY
  have hInZ := hInY.to hbYZ
  clear hbYZ kTY kY hInY oTY oY hb3 cB hbwY hbTY hTB
  generalize U3.heap.size = B3 at *
  have hszZ := hbwZ.size
  have obZ := blk_older kbZ
  have osZ := blk_older ksZ
  have oxZ := blk_older kX
  obtain ⟨-, -, -, -, -, d5, d6, d7, -, -, -, -, -, -, -, -, -, -, -, -⟩ := bd_cells ksZ
  have x0 : Z.cell? ⟨B3, 0, none⟩ = some (.int .i64 (-65531)) := blk_cell kX 0
  have x1 : Z.cell? ⟨B3, 1, none⟩ = some (.int .i64 (-65536)) := blk_cell kX 1
  have x2 : Z.cell? ⟨B3, 2, none⟩ = some (.int .i64 65541) := blk_cell kX 2
  have x3 : Z.cell? ⟨B3, 3, none⟩ = some (.int .i64 65536) := blk_cell kX 3
  have hsi := hs9.out.trans hiH.out
  obtain ⟨e5, e6', e7'⟩ := bd0_v hsi
  have e6 : s9.vy = 0 := e6'.trans dk_imp.2.2.1
  have e7 : s9.av = 0 := e7'.trans dk_imp.2.2.2
  have hv1 := dk_imp.1
  have hv2 := dk_imp.2.1
  rw [← e5] at hv1 hv2
  rw [e6] at d6
  rw [e7] at d7
  clear e5 e6 e7 e6' e7' hsi hs9 hiH ksZ
  generalize s9.vx = VX at *
  have hRb : ∀ w', (∃ q, w' = gw Z q) → w'.rangeAt B1 0 (bdc b) := fun w' h' => by
    obtain ⟨q, rfl⟩ := h'
    exact rng_blk23 (blk_gw kbZ)
  try simp only [Act.put]
  refine wp_mix 60 [0, 1, 3, 7, 15, 31, 15, 127, 255, 511, 1023, 2047, 4095, 8191, 16383, 32767, 65535, 131071, 262143, 524287, 1048575, 2097151, 4194303, 8388607, 16777215, 33554431, 67108863, 134217727, 268435455, 536870911, 1073741823, 2147483647, 4294967295, 8589934591, 17179869183, 34359738367, 68719476735, 68719476735, 68719476735, 481036337151, 1099511627775, 2199023255551, 4398046511103, 8796093022207, 8796093022207, 35184372088831, 70368744177663, 140737488355327, 281474976710655, 562949953421311, 562949953421311, 1688849860263935, 4503599627370495, 9007199254740991, 18014398509481983, 36028797018963967, 72057594037927935, 144115188075855871, 288230376151711743, 576460752303423487] [4, 12, 18, 24, 29, 36, 43, 49, 50] [0, 1, 2, 3, 4, 5, 6, 7, 8, 9, 10, 11, 12, 13, 14, 15, 16, 17, 18, 19, 20, 21, 22, 23, 24, 25, 26, 27, 28, 29, 30, 31, 32, 33, 34, 35, 36, 37, 38, 39, 40, 41, 42, 43, 44, 45, 46, 47, 48, 49, 50, 51, 52, 53, 54, 55, 56, 57, 58, 59] (by kernel_rfl) (by kernel_rfl) ?_
  repeat (first
    | (refine mix_skip (by rfl) (by rfl) (by rfl) (by rfl) ?_)
    | (refine mix_early (by rfl) (by rfl) (by rfl) ?_; refine wpQuiet_load23 (by rfl) 29 _ rfl (B1) 0 rfl (bdc b) _ hRb Tryz.underlying29 rfl (bd_sizeC b) ?_; with_reducible refine wpQuiet_nil ?_; simp only [Act.put, List.setIfInBounds_toArray, List.set_cons_zero, List.set_cons_succ])
    | (refine mix_early (by rfl) (by rfl) (by rfl) ?_; go_big_quiet_step (fail); with_reducible refine wpQuiet_nil ?_)
    | (refine mix_late (by rfl) (by rfl) (by rfl) ?_; refine wpQuiet_load23 (by rfl) 29 _ rfl B1 0 rfl (bdc b) _ (fun w' h' => by obtain ⟨q, rfl⟩ := h'; exact rng_blk23 (t := 29) (by repeat (first | exact kbZ | apply blk_gw))) Tryz.underlying29 rfl (bd_sizeC b) ?_; with_reducible refine wpQuiet_nil ?_; simp only [Act.put, List.setIfInBounds_toArray, List.set_cons_zero, List.set_cons_succ])
    | (refine mix_late (by rfl) (by rfl) (by rfl) ?_; go_big_quiet_step (fail); with_reducible refine wpQuiet_nil ?_)
    | (refine mix_call (by rfl) (by rfl) (by rfl) ?_; intro pM Qs hQs; go_wp2_with (first | (go_at_call 13; with_reducible_and_instances refine Calls.mono (gw_at (cV _ (BdIn.to hInZ bBel))) ?_; rintro e w1 ⟨rfl, q, rfl⟩) | (go_at_call 13; with_reducible_and_instances refine Calls.mono (gw_at (cZ _)) ?_; rintro e w1 ⟨rfl, q, rfl⟩) | (go_at_call 21; with_reducible_and_instances refine Calls.mono (gw_at (cW _ (BdIn.to hInZ bBel))) ?_; rintro e w1 ⟨rfl, q, rfl⟩) | (go_at_call 27; with_reducible_and_instances refine Calls.mono (gw_at (cF _ (BdIn.to hInZ bBel))) ?_; rintro e w1 ⟨rfl, q, rfl⟩) | (go_at_call 41; refine Calls.mono (cC _ (BdIn.to hInZ bBel)) ?_; rintro e UC ⟨⟨c9, rfl, hsc, hNc⟩, hbC⟩; have hbZC : Below Z.heap.size Z UC := bl_then (hbC.mono (by first | (simp; done) | (simp; omega))) bBel; have hszC := hbZC.size; have hbwC : Below w.heap.size w UC := Below.trans hbwZ (hbZC.mono hszZ); have hszwC := hbwC.size; have hInC := new_in hNc; have cEq := fun w' h1 h2 => peq_b b c9 w' hob.out (okL_eq hsc.out hob.out) true ⟨fun _ => hsc.out.symm, fun _ => rfl⟩ h1 h2) | (go_at_call 36; with_reducible_and_instances refine Calls.mono (gw_at (cEq _ (BdIn.to hInZ bBel) (BdIn.to hInC bBel))) ?_; rintro e w1 ⟨rfl, q, rfl⟩)); refine hQs _ _ bBel ?_))
  refine mix_end ?_
  intro pE
  simp only [List.drop_succ_cons, List.drop_zero]
  go_wp2_with fail
  go_ret
  exact ⟨rfl, bBel⟩


end Go.Proofs.YtdmcdicphohlfaaGreat
