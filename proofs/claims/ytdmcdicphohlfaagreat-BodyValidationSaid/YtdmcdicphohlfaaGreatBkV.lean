/- Chapter 23: BodyValidation. -/
import Derived.Test.YtdmcdicphohlfaaGreatBkU
import Derived.Test.YtdmcdicphohlfaaGreatBkK
set_option linter.unusedVariables false
set_option linter.unusedSimpArgs false
namespace Go.Proofs.YtdmcdicphohlfaaGreat
open Go.RowKit Fx Go.Maps

set_option maxRecDepth 100000 in
set_option maxHeartbeats 16000000 in
theorem walk_BodyValidation (b : Bdy) (f : Fxr) (w : World) (hB : BdArg w b) (hf : FxIn w f) : Calls Tryz.prog 3 #[.agg (bdc b).toArray, .agg (fxc f).toArray] w fun e w' => e = .returned (.bool true) ∧ Below w.heap.size w w' := by
  have hb := hB.2
  clear hB
  have cX := fun w' => example23_b w'
  by_cases hs : smB b
  rotate_left
  · have cS := fun w' h => rsm_b b w' h false (by simp [hs])
    clear hs
    go_enter Tryz.func3, Tryz.ntmps3
    go_upto_region 1 with fail
    refine wp_named ?_
    intro V hV
    have kb : blk V (w.heap.size) (bdc b).toArray 29 := by rw [hV]; exact bBkn
    have kf : blk V (w.heap.size + 1) (fxc f).toArray 35 := by rw [hV]; exact bBkn
    have hbV : Below w.heap.size w V := by rw [hV]; exact bBel
    clear hV
    have hszV := hbV.size
    have ob := blk_older kb
    obtain ⟨cb0, cb1, cb2, cb3, cb4, cb5, cb6, cb7, cb8, cb9, cb10, cb11, cb12, cb13, cb14, cb15, cb16, cb17, cb18, cb19⟩ := bd_cells kb
    have of := blk_older kf
    obtain ⟨cf0, cf1, cf2, cf3, cf4, cf5, cf6, cf7, cf8, cf9⟩ := fx_cells kf
    have hQb : Hid (∀ w', Below V.heap.size V w' → w'.rangeAt (w.heap.size) 0 (bdc b)) := fun w' h' => rng_blk23 (blk_below h' kb)
    go_wp2_with (first | (refine wpList_load_g (by rfl) 29 _ rfl (w.heap.size) 0 rfl _ _ (hQb.out _ bBel) Tryz.underlying29 rfl (bd_sizeC b) ?_) | (go_at_call 11; with_reducible_and_instances refine Calls.mono (gw_at (cS _ (BdIn.to hb bBel))) ?_; rintro e w1 ⟨rfl, q, rfl⟩) | (go_at_call 12; with_reducible_and_instances refine Calls.mono (gw_at (cX _)) ?_; rintro e w1 ⟨rfl, q, rfl⟩))
    go_ret
    exact ⟨rfl, bBel⟩
  have cS := fun w' h => rsm_b b w' h true (by simp [hs])
  have ho : okL b := ⟨by have := hs.1; omega, fun f hf => by have := hs.2 f hf; omega⟩
  have hoH : Hid (okL b) := ho
  clear ho
  clear hs
  by_cases h20 : 20 < f.ps.length
  · have h20I : (20 : Int) < (f.ps.length : Int) := by omega
    clear hf
    go_enter Tryz.func3, Tryz.ntmps3
    go_upto_region 1 with fail
    refine wp_named ?_
    intro V hV
    have kb : blk V (w.heap.size) (bdc b).toArray 29 := by rw [hV]; exact bBkn
    have kf : blk V (w.heap.size + 1) (fxc f).toArray 35 := by rw [hV]; exact bBkn
    have hbV : Below w.heap.size w V := by rw [hV]; exact bBel
    clear hV
    have hszV := hbV.size
    have ob := blk_older kb
    obtain ⟨cb0, cb1, cb2, cb3, cb4, cb5, cb6, cb7, cb8, cb9, cb10, cb11, cb12, cb13, cb14, cb15, cb16, cb17, cb18, cb19⟩ := bd_cells kb
    have of := blk_older kf
    obtain ⟨cf0, cf1, cf2, cf3, cf4, cf5, cf6, cf7, cf8, cf9⟩ := fx_cells kf
    have hQb : Hid (∀ w', Below V.heap.size V w' → w'.rangeAt (w.heap.size) 0 (bdc b)) := fun w' h' => rng_blk23 (blk_below h' kb)
    go_wp2_with (first | (refine wpList_load_g (by rfl) 29 _ rfl (w.heap.size) 0 rfl _ _ (hQb.out _ bBel) Tryz.underlying29 rfl (bd_sizeC b) ?_) | (go_at_call 11; with_reducible_and_instances refine Calls.mono (gw_at (cS _ (BdIn.to hb bBel))) ?_; rintro e w1 ⟨rfl, q, rfl⟩) | (go_at_call 12; with_reducible_and_instances refine Calls.mono (gw_at (cX _)) ?_; rintro e w1 ⟨rfl, q, rfl⟩))
    go_ret
    exact ⟨rfl, bBel⟩
  have h20I : ¬ (20 : Int) < (f.ps.length : Int) := by omega
  have hp := hf.1
  have cV := fun w' h => pval_b b w' hoH.out h
  have cW := fun w' h => rval23_b b w' hoH.out h
  have cF := fun w' h => pvf_b f w' (by omega) hf.2.2.1 h
  have cG := fun w' h => rvf_b f w' (by omega) h
  clear hf
  generalize bdV b = D at *
  generalize fxV f = E at *
  go_enter Tryz.func3, Tryz.ntmps3
  go_upto_region 1 with fail
  refine wp_named ?_
  intro V hV
  have kb : blk V (w.heap.size) (bdc b).toArray 29 := by rw [hV]; exact bBkn
  have kf : blk V (w.heap.size + 1) (fxc f).toArray 35 := by rw [hV]; exact bBkn
  have hbV : Below w.heap.size w V := by rw [hV]; exact bBel
  clear hV
  have hszV := hbV.size
  have ob := blk_older kb
  obtain ⟨cb0, cb1, cb2, cb3, cb4, cb5, cb6, cb7, cb8, cb9, cb10, cb11, cb12, cb13, cb14, cb15, cb16, cb17, cb18, cb19⟩ := bd_cells kb
  have of := blk_older kf
  obtain ⟨cf0, cf1, cf2, cf3, cf4, cf5, cf6, cf7, cf8, cf9⟩ := fx_cells kf
  have hQb : Hid (∀ w', Below V.heap.size V w' → w'.rangeAt (w.heap.size) 0 (bdc b)) := fun w' h' => rng_blk23 (blk_below h' kb)
  go_upto_region 3 with (first | (refine wpList_load_g (by rfl) 29 _ rfl (w.heap.size) 0 rfl _ _ (hQb.out _ bBel) Tryz.underlying29 rfl (bd_sizeC b) ?_) | (go_at_call 11; with_reducible_and_instances refine Calls.mono (gw_at (cS _ (BdIn.to hb bBel))) ?_; rintro e w1 ⟨rfl, q, rfl⟩))
  refine wp_named ?_
  intro W hW
  have kbW : blk W w.heap.size (bdc b).toArray 29 := by rw [hW]; exact blk_gw kb
  have kfW : blk W (w.heap.size + 1) (fxc f).toArray 35 := by rw [hW]; exact blk_gw kf
  have hbW : Below w.heap.size w W := by rw [hW]; exact bBel
  clear hW hQb kb kf hbV
  have hszW := hbW.size
  have hRb : ∀ w', (∃ q, w' = gw W q) → w'.rangeAt _ 0 (bdc b) := fun w' h' => by
    obtain ⟨q, rfl⟩ := h'
    exact rng_blk23 (blk_gw kbW)
  have hRf : ∀ w', (∃ q, w' = gw W q) → w'.rangeAt _ 0 (fxc f) := fun w' h' => by
    obtain ⟨q, rfl⟩ := h'
    exact rng_blk23 (blk_gw kfW)
  have oW := blk_older kbW
  have oF := blk_older kfW
  try simp only [Act.put]
  refine wp_region_gw (by kernel_rfl) (by kernel_rfl) ?_
  repeat (first | (refine wpQuiet_load23 (by rfl) 29 _ rfl (w.heap.size) 0 rfl (bdc b) _ hRb Tryz.underlying29 rfl (bd_sizeC b) ?_; simp only [Act.put, List.setIfInBounds_toArray, List.set_cons_zero, List.set_cons_succ]) | (refine wpQuiet_load23 (by rfl) 35 _ rfl (w.heap.size + 1) 0 rfl (fxc f) _ hRf Tryz.underlying35 rfl (fx_sizeC f) ?_; simp only [Act.put, List.setIfInBounds_toArray, List.set_cons_zero, List.set_cons_succ]) | go_big_quiet_step ((first | (go_at_call 13; with_reducible_and_instances exact gw_call (cV _ (BdIn.to hb bBel))) | (go_at_call 14; with_reducible_and_instances exact gw_call (cW _ (BdIn.to hb bBel))) | (go_at_call 15; with_reducible_and_instances exact gw_call (cF _ (Pts.to hp bBel))) | (go_at_call 16; with_reducible_and_instances exact gw_call (cG _ (Pts.to hp bBel))) | (go_at_call 12; with_reducible_and_instances exact gw_call (cX _)))))
  refine wpQuiet_nil ?_
  intro w1 hw1
  obtain ⟨q, rfl⟩ := hw1
  go_wp2_with fail
  go_ret
  exact ⟨rfl, bBel⟩


end Go.Proofs.YtdmcdicphohlfaaGreat
