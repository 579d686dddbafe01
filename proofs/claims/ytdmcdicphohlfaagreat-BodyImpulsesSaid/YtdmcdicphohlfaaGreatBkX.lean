/- Chapter 23: BodyImpulses. -/
import Derived.Test.YtdmcdicphohlfaaGreatBkU
import Derived.Test.YtdmcdicphohlfaaGreatBkR
import Derived.Test.YtdmcdicphohlfaaGreatBkL
import Derived.Test.YtdmcdicphohlfaaGreatBkJ
set_option linter.unusedVariables false
set_option linter.unusedSimpArgs false
namespace Go.Proofs.YtdmcdicphohlfaaGreat
open Go.RowKit Fx Go.Maps

theorem psB_fs (b : Bdy) (x y a : Int) : (psB b x y a).fs = b.fs ∧ (psB b x y a).A = b.A ∧ (psB b x y a).cap = b.cap := by unfold psB; split <;> exact ⟨rfl, rfl, rfl⟩
theorem psB_in {w : World} {b : Bdy} (x y a : Int) (h : BdIn w b) : BdIn w (psB b x y a) := by
  obtain ⟨e1, e2, e3⟩ := psB_fs b x y a
  unfold BdIn; rw [e1, e2, e3]; exact h
theorem psB_ok {b : Bdy} (x y a : Int) (h : okL b) : okL (psB b x y a) := by unfold okL; rw [(psB_fs b x y a).1]; exact h

set_option maxRecDepth 100000 in
set_option maxHeartbeats 64000000 in
theorem walk_BodyImpulses (b : Bdy) (px py qx qy : Int) (a : Int) (w : World) (hB : BdArg w b) : Calls Tryz.prog 5 #[.agg (bdc b).toArray, .agg #[.int .i64 px, .int .i64 py], .agg #[.int .i64 qx, .int .i64 qy], .int .i64 a] w fun e w' => e = .returned (.bool true) ∧ Below w.heap.size w w' := by
  have hb := hB.2
  clear hB
  have cX := fun w' => example23_b w'
  by_cases hs : smB b
  rotate_left
  · have cS := fun w' h => rsm_b b w' h false (by simp [hs])
    clear hs
    go_enter Tryz.func5, Tryz.ntmps5
    go_upto_region 1 with fail
    refine wp_named ?_
    intro V hV
    have kb : blk V (w.heap.size) (bdc b).toArray 29 := by rw [hV]; exact bBkn
    have kp : blk V (w.heap.size + 1) #[.int .i64 px, .int .i64 py] 24 := by rw [hV]; exact bBkn
    have kq : blk V (w.heap.size + 1 + 1) #[.int .i64 qx, .int .i64 qy] 24 := by rw [hV]; exact bBkn
    have hbV : Below w.heap.size w V := by rw [hV]; exact bBel
    clear hV
    have hszV := hbV.size
    have ob := blk_older kb
    obtain ⟨cb0, cb1, cb2, cb3, cb4, cb5, cb6, cb7, cb8, cb9, cb10, cb11, cb12, cb13, cb14, cb15, cb16, cb17, cb18, cb19⟩ := bd_cells kb
    have op := blk_older kp
    have cp0 := blk_cell kp 0
    have cp1 := blk_cell kp 1
    have oq := blk_older kq
    have cq0 := blk_cell kq 0
    have cq1 := blk_cell kq 1
    have hQb : Hid (∀ w', Below V.heap.size V w' → w'.rangeAt (w.heap.size) 0 (bdc b)) := fun w' h' => rng_blk23 (blk_below h' kb)
    go_wp2_with (first | (refine wpList_load_g (by rfl) 29 _ rfl (w.heap.size) 0 rfl _ _ (hQb.out _ bBel) Tryz.underlying29 rfl (bd_sizeC b) ?_) | (go_at_call 11; with_reducible_and_instances refine Calls.mono (gw_at (cS _ (BdIn.to hb bBel))) ?_; rintro e w1 ⟨rfl, q, rfl⟩) | (go_at_call 12; with_reducible_and_instances refine Calls.mono (gw_at (cX _)) ?_; rintro e w1 ⟨rfl, q, rfl⟩))
    go_ret
    exact ⟨rfl, bBel⟩
  have cS := fun w' h => rsm_b b w' h true (by simp [hs])
  have ho : okL b := ⟨by have := hs.1; omega, fun f hf => by have := hs.2 f hf; omega⟩
  have hoH : Hid (okL b) := ho
  clear ho
  clear hs
  have cI := fun w' h => pimp_b b px py qx qy w' hoH.out h
  have cJ := fun w' h => rimp_b b px py qx qy w' hoH.out h
  have cA := fun w' h => pang_b b a w' hoH.out h
  have cB := fun w' h => rang_b b a w' hoH.out h
  have cC := fun w' h => pcl_b b w' hoH.out h
  have cD := fun w' => rcl_b b w'
  have hoD1 : Hid (okL (imB b px py qx qy)) := psB_ok _ _ _ hoH.out
  have hoD2 : Hid (okL (psB b 0 0 a)) := psB_ok _ _ _ hoH.out
  have hoD3 : Hid (okL (clB b)) := hoH.out
  have hiD1 : Hid (∀ w', BdIn w' b → BdIn w' (imB b px py qx qy)) := fun w' h => psB_in _ _ _ h
  have hiD2 : Hid (∀ w', BdIn w' b → BdIn w' (psB b 0 0 a)) := fun w' h => psB_in _ _ _ h
  have hiD3 : Hid (∀ w', BdIn w' b → BdIn w' (clB b)) := fun w' h => h
  generalize imB b px py qx qy = D1 at *
  generalize psB b 0 0 a = D2 at *
  generalize clB b = D3 at *
  go_enter Tryz.func5, Tryz.ntmps5
  go_upto_region 1 with fail
  refine wp_named ?_
  intro V hV
  have kb : blk V (w.heap.size) (bdc b).toArray 29 := by rw [hV]; exact bBkn
  have kp : blk V (w.heap.size + 1) #[.int .i64 px, .int .i64 py] 24 := by rw [hV]; exact bBkn
  have kq : blk V (w.heap.size + 1 + 1) #[.int .i64 qx, .int .i64 qy] 24 := by rw [hV]; exact bBkn
  have hbV : Below w.heap.size w V := by rw [hV]; exact bBel
  clear hV
  have hszV := hbV.size
  have ob := blk_older kb
  obtain ⟨cb0, cb1, cb2, cb3, cb4, cb5, cb6, cb7, cb8, cb9, cb10, cb11, cb12, cb13, cb14, cb15, cb16, cb17, cb18, cb19⟩ := bd_cells kb
  have op := blk_older kp
  have cp0 := blk_cell kp 0
  have cp1 := blk_cell kp 1
  have oq := blk_older kq
  have cq0 := blk_cell kq 0
  have cq1 := blk_cell kq 1
  have hQb : Hid (∀ w', Below V.heap.size V w' → w'.rangeAt (w.heap.size) 0 (bdc b)) := fun w' h' => rng_blk23 (blk_below h' kb)
  go_upto_region 3 with (first | (refine wpList_load_g (by rfl) 29 _ rfl (w.heap.size) 0 rfl _ _ (hQb.out _ bBel) Tryz.underlying29 rfl (bd_sizeC b) ?_) | (go_at_call 11; with_reducible_and_instances refine Calls.mono (gw_at (cS _ (BdIn.to hb bBel))) ?_; rintro e w1 ⟨rfl, q, rfl⟩))
  refine wp_named ?_
  intro W hW
  have kbW : blk W w.heap.size (bdc b).toArray 29 := by rw [hW]; exact blk_gw kb
  have kpW : blk W (w.heap.size + 1) #[.int .i64 px, .int .i64 py] 24 := by rw [hW]; exact blk_gw kp
  have kqW : blk W (w.heap.size + 1 + 1) #[.int .i64 qx, .int .i64 qy] 24 := by rw [hW]; exact blk_gw kq
  have hbW : Below w.heap.size w W := by rw [hW]; exact bBel
  clear hW hQb kb kp kq hbV cb0 cb1 cb2 cb3 cb4 cb5 cb6 cb7 cb8 cb9 cb10 cb11 cb12 cb13 cb14 cb15 cb16 cb17 cb18 cb19 cp0 cp1 cq0 cq1 ob op oq
  have hszW := hbW.size
  have hInW := hb.to hbW
  have hRb : ∀ w', (∃ q, w' = gw W q) → w'.rangeAt w.heap.size 0 (bdc b) := fun w' h' => by
    obtain ⟨q, rfl⟩ := h'
    exact rng_blk23 (blk_gw kbW)
  have obW := blk_older kbW
  have opW := blk_older kpW
  have oqW := blk_older kqW
  have cp0 : W.cell? ⟨w.heap.size + 1, 0, none⟩ = some (.int .i64 px) := blk_cell kpW 0
  have cp1 : W.cell? ⟨w.heap.size + 1, 1, none⟩ = some (.int .i64 py) := blk_cell kpW 1
  have cq0 : W.cell? ⟨w.heap.size + 1 + 1, 0, none⟩ = some (.int .i64 qx) := blk_cell kqW 0
  have cq1 : W.cell? ⟨w.heap.size + 1 + 1, 1, none⟩ = some (.int .i64 qy) := blk_cell kqW 1
  try simp only [Act.put]
  refine wp_mix 29 [0, 0, 0, 7, 0, 0, 0, 127, 255, 511, 1023, 1023, 4095, 1023, 1023, 32767, 65535, 131071, 262143, 524287, 1048575, 524287, 4194303, 8388607, 16777215, 33554431, 67108863, 134217727, 268435455] [10, 19] [0, 1, 2, 3, 4, 5, 6, 7, 8, 9, 10, 11, 12, 13, 14, 15, 16, 17, 18, 19, 20, 21, 22, 23, 24, 25, 26, 27, 28] (by kernel_rfl) (by kernel_rfl) ?_
  repeat (first
    | (refine mix_skip (by rfl) (by rfl) (by rfl) (by rfl) ?_)
    | (refine mix_early (by rfl) (by rfl) (by rfl) ?_; refine wpQuiet_load23 (by rfl) 29 _ rfl (w.heap.size) 0 rfl (bdc b) _ hRb Tryz.underlying29 rfl (bd_sizeC b) ?_; with_reducible refine wpQuiet_nil ?_; simp only [Act.put, List.setIfInBounds_toArray, List.set_cons_zero, List.set_cons_succ])
    | (refine mix_early (by rfl) (by rfl) (by rfl) ?_; go_big_quiet_step (fail); with_reducible refine wpQuiet_nil ?_)
    | (refine mix_late (by rfl) (by rfl) (by rfl) ?_; refine wpQuiet_load23 (by rfl) 29 _ rfl (w.heap.size) 0 rfl (bdc b) _ (fun w' h' => by obtain ⟨q, rfl⟩ := h'; exact rng_blk23 (t := 29) (blk_below (w := W) bBel kbW)) Tryz.underlying29 rfl (bd_sizeC b) ?_; with_reducible refine wpQuiet_nil ?_; simp only [Act.put, List.setIfInBounds_toArray, List.set_cons_zero, List.set_cons_succ])
    | (refine mix_late (by rfl) (by rfl) (by rfl) ?_; go_big_quiet_step (fail); with_reducible refine wpQuiet_nil ?_)
    | (refine mix_call (by rfl) (by rfl) (by rfl) ?_; intro pM Qs hQs; go_wp2_with (first | (go_at_call 30; refine Calls.mono (cI _ (BdIn.to hInW bBel)) ?_; rintro e U1 ⟨⟨d1, rfl, hd1, hN1⟩, hb1⟩; have hbW1 : Below W.heap.size W U1 := bl_then (hb1.mono (by first | (simp; done) | (simp; omega))) bBel; have hsz1 := hbW1.size; have hbw1 : Below w.heap.size w U1 := Below.trans hbW (hbW1.mono hszW); have hszw1 := hbw1.size; have hInd1 := new_in hN1; have cE1 := fun w' h1 h2 => req23_b d1 D1 w' (okL_eq hd1.out hoD1.out) hoD1.out true ⟨fun _ => hd1.out, fun _ => rfl⟩ h1 h2; clear hN1) | (go_at_call 31; with_reducible_and_instances refine Calls.mono (gw_at (cJ _ (BdIn.to hInW bBel))) ?_; rintro e w1 ⟨rfl, q, rfl⟩) | (go_at_call 32; refine Calls.mono (cA _ (BdIn.to hInW bBel)) ?_; rintro e U2 ⟨⟨d2, rfl, hd2, hN2⟩, hb2⟩; have hbW2 : Below W.heap.size W U2 := bl_then (hb2.mono (by first | (simp; done) | (simp; omega))) bBel; have hsz2 := hbW2.size; have hbw2 : Below w.heap.size w U2 := Below.trans hbW (hbW2.mono hszW); have hszw2 := hbw2.size; have hInd2 := new_in hN2; have cE2 := fun w' h1 h2 => req23_b d2 D2 w' (okL_eq hd2.out hoD2.out) hoD2.out true ⟨fun _ => hd2.out, fun _ => rfl⟩ h1 h2; clear hN2) | (go_at_call 33; with_reducible_and_instances refine Calls.mono (gw_at (cB _ (BdIn.to hInW bBel))) ?_; rintro e w1 ⟨rfl, q, rfl⟩) | (go_at_call 34; refine Calls.mono (cC _ (BdIn.to hInW bBel)) ?_; rintro e U3 ⟨⟨d3, rfl, hd3, hN3⟩, hb3⟩; have hbW3 : Below W.heap.size W U3 := bl_then (hb3.mono (by first | (simp; done) | (simp; omega))) bBel; have hsz3 := hbW3.size; have hbw3 : Below w.heap.size w U3 := Below.trans hbW (hbW3.mono hszW); have hszw3 := hbw3.size; have hInd3 := new_in hN3; have cE3 := fun w' h1 h2 => req23_b d3 D3 w' (okL_eq hd3.out hoD3.out) hoD3.out true ⟨fun _ => hd3.out, fun _ => rfl⟩ h1 h2; clear hN3) | (go_at_call 35; with_reducible_and_instances refine Calls.mono (gw_at (cD _)) ?_; rintro e w1 ⟨rfl, q, rfl⟩) | (go_at_call 29; with_reducible_and_instances refine Calls.mono (gw_at (cE3 _ (BdIn.to hInd3 bBel) (hiD3.out _ (BdIn.to hInW bBel)))) ?_; rintro e w1 ⟨rfl, q, rfl⟩) | (go_at_call 29; with_reducible_and_instances refine Calls.mono (gw_at (cE2 _ (BdIn.to hInd2 bBel) (hiD2.out _ (BdIn.to hInW bBel)))) ?_; rintro e w1 ⟨rfl, q, rfl⟩) | (go_at_call 29; with_reducible_and_instances refine Calls.mono (gw_at (cE1 _ (BdIn.to hInd1 bBel) (hiD1.out _ (BdIn.to hInW bBel)))) ?_; rintro e w1 ⟨rfl, q, rfl⟩) | (go_at_call 12; with_reducible_and_instances refine Calls.mono (gw_at (cX _)) ?_; rintro e w1 ⟨rfl, q, rfl⟩)); refine hQs _ _ bBel ?_))
  refine mix_end ?_
  intro pE
  simp only [List.drop_succ_cons, List.drop_zero]
  go_wp2_with fail
  go_ret
  exact ⟨rfl, bBel⟩


end Go.Proofs.YtdmcdicphohlfaaGreat
