/- Chapter 23: BodyImpulseValid. -/
import Derived.Test.YtdmcdicphohlfaaGreatBkU
import Derived.Test.YtdmcdicphohlfaaGreatBkJ
import Derived.Test.YtdmcdicphohlfaaGreatBkT
set_option linter.unusedVariables false
set_option linter.unusedSimpArgs false
namespace Go.Proofs.YtdmcdicphohlfaaGreat
open Go.RowKit Fx Go.Maps

theorem psB_okY {b : Bdy} (x y a : Int) (h : okL b) : okL (psB b x y a) := by
  have e : (psB b x y a).fs = b.fs := by unfold psB; split <;> rfl
  unfold okL; rw [e]; exact h

set_option maxRecDepth 100000 in
set_option maxHeartbeats 64000000 in
theorem walk_BodyImpulseValid (b : Bdy) (px py qx qy : Int) (a : Int) (w : World) (hB : BdArg w b) : Calls Tryz.prog 6 #[.agg (bdc b).toArray, .agg #[.int .i64 px, .int .i64 py], .agg #[.int .i64 qx, .int .i64 qy], .int .i64 a] w fun e w' => e = .returned (.bool true) ∧ Below w.heap.size w w' := by
  have hb := hB.2
  clear hB
  have cX := fun w' => example23_b w'
  by_cases hs : smB b
  rotate_left
  · have cS := fun w' h => rsm_b b w' h false (by simp [hs])
    clear hs
    go_enter Tryz.func6, Tryz.ntmps6
    go_upto_region 1 with fail
    refine wp_named ?_
    intro V hV
    have kb : blk V (w.heap.size) (bdc b).toArray 29 := by rw [hV]; exact bBkn
    have kp : blk V (w.heap.size + 1) #[.int .i64 px, .int .i64 py] 24 := by rw [hV]; exact bBkn
    have kq : blk V (w.heap.size + 1 + 1) #[.int .i64 qx, .int .i64 qy] 24 := by rw [hV]; exact bBkn
    have hbV : Below w.heap.size w V := by rw [hV]; exact bBel
    clear hV
    have hszV := hbV.size
    have ob := blk_older kb
    obtain ⟨cb0, cb1, cb2, cb3, cb4, cb5, cb6, cb7, cb8, cb9, cb10, cb11, cb12, cb13, cb14, cb15, cb16, cb17, cb18, cb19⟩ := bd_cells kb
    have op := blk_older kp
    have cp0 := blk_cell kp 0
    have cp1 := blk_cell kp 1
    have oq := blk_older kq
    have cq0 := blk_cell kq 0
    have cq1 := blk_cell kq 1
    have hQb : Hid (∀ w', Below V.heap.size V w' → w'.rangeAt (w.heap.size) 0 (bdc b)) := fun w' h' => rng_blk23 (blk_below h' kb)
    go_wp2_with (first | (refine wpList_load_g (by rfl) 29 _ rfl (w.heap.size) 0 rfl _ _ (hQb.out _ bBel) Tryz.underlying29 rfl (bd_sizeC b) ?_) | (go_at_call 11; with_reducible_and_instances refine Calls.mono (gw_at (cS _ (BdIn.to hb bBel))) ?_; rintro e w1 ⟨rfl, q, rfl⟩) | (go_at_call 12; with_reducible_and_instances refine Calls.mono (gw_at (cX _)) ?_; rintro e w1 ⟨rfl, q, rfl⟩))
    go_ret
    exact ⟨rfl, bBel⟩
  have cS := fun w' h => rsm_b b w' h true (by simp [hs])
  have ho : okL b := ⟨by have := hs.1; omega, fun f hf => by have := hs.2 f hf; omega⟩
  have hoH : Hid (okL b) := ho
  clear ho
  clear hs
  have cI := fun w' h => pimp_b b px py qx qy w' hoH.out h
  have cA := fun w' h => pang_b b a w' hoH.out h
  have cC := fun w' h => pcl_b b w' hoH.out h
  have cV := fun w' h => pval_b b w' hoH.out h
  have cD0 : Hid (bdV b = 0 → clB b = b) := fun h => clB_id h
  have hoD1 : Hid (okL (imB b px py qx qy)) := psB_okY _ _ _ hoH.out
  have hoD2 : Hid (okL (psB b 0 0 a)) := psB_okY _ _ _ hoH.out
  have n1 : Hid (¬ b.k = 3 → imB b px py qx qy = b) := fun h => psB_no _ _ _ h
  have n2 : Hid (¬ b.k = 3 → psB b 0 0 a = b) := fun h => psB_no _ _ _ h
  have v1 : Hid (bdV b = 0 → bdV (imB b px py qx qy) = 0 ∧ (imB b px py qx qy).asl = false ∧ (imB b px py qx qy).px = b.px ∧ (imB b px py qx qy).py = b.py ∧ (imB b px py qx qy).pa = b.pa) := fun h => ⟨psB_val _ _ _ h, psB_asl _ _ _ h, psB_place _ _ _ _⟩
  have v2 : Hid (bdV b = 0 → bdV (psB b 0 0 a) = 0 ∧ (psB b 0 0 a).asl = false) := fun h => ⟨psB_val _ _ _ h, psB_asl _ _ _ h⟩
  generalize imB b px py qx qy = D1 at *
  generalize psB b 0 0 a = D2 at *
  generalize clB b = D3 at *
  generalize bdV b = V0 at *
  go_enter Tryz.func6, Tryz.ntmps6
  go_upto_region 1 with fail
  refine wp_named ?_
  intro V hV
  have kb : blk V (w.heap.size) (bdc b).toArray 29 := by rw [hV]; exact bBkn
  have kp : blk V (w.heap.size + 1) #[.int .i64 px, .int .i64 py] 24 := by rw [hV]; exact bBkn
  have kq : blk V (w.heap.size + 1 + 1) #[.int .i64 qx, .int .i64 qy] 24 := by rw [hV]; exact bBkn
  have hbV : Below w.heap.size w V := by rw [hV]; exact bBel
  clear hV
  have hszV := hbV.size
  have ob := blk_older kb
  obtain ⟨cb0, cb1, cb2, cb3, cb4, cb5, cb6, cb7, cb8, cb9, cb10, cb11, cb12, cb13, cb14, cb15, cb16, cb17, cb18, cb19⟩ := bd_cells kb
  have op := blk_older kp
  have cp0 := blk_cell kp 0
  have cp1 := blk_cell kp 1
  have oq := blk_older kq
  have cq0 := blk_cell kq 0
  have cq1 := blk_cell kq 1
  have hQb : Hid (∀ w', Below V.heap.size V w' → w'.rangeAt (w.heap.size) 0 (bdc b)) := fun w' h' => rng_blk23 (blk_below h' kb)
  go_upto_region 3 with (first | (refine wpList_load_g (by rfl) 29 _ rfl (w.heap.size) 0 rfl _ _ (hQb.out _ bBel) Tryz.underlying29 rfl (bd_sizeC b) ?_) | (go_at_call 11; with_reducible_and_instances refine Calls.mono (gw_at (cS _ (BdIn.to hb bBel))) ?_; rintro e w1 ⟨rfl, q, rfl⟩))
  refine wp_named ?_
  intro W hW
  have kbW : blk W w.heap.size (bdc b).toArray 29 := by rw [hW]; exact blk_gw kb
  have kpW : blk W (w.heap.size + 1) #[.int .i64 px, .int .i64 py] 24 := by rw [hW]; exact blk_gw kp
  have kqW : blk W (w.heap.size + 1 + 1) #[.int .i64 qx, .int .i64 qy] 24 := by rw [hW]; exact blk_gw kq
  have hbW : Below w.heap.size w W := by rw [hW]; exact bBel
  clear hW hQb kb kp kq hbV cb0 cb1 cb2 cb3 cb4 cb5 cb6 cb7 cb8 cb9 cb10 cb11 cb12 cb13 cb14 cb15 cb16 cb17 cb18 cb19 cp0 cp1 cq0 cq1 ob op oq
  have hszW := hbW.size
  have hInW := hb.to hbW
  have hRb : ∀ w', (∃ q, w' = gw W q) → w'.rangeAt (w.heap.size) 0 (bdc b) := fun w' h' => by
    obtain ⟨q, rfl⟩ := h'
    exact rng_blk23 (blk_gw kbW)
  have obW := blk_older kbW
  have opW := blk_older kpW
  have oqW := blk_older kqW
  have cp0 : W.cell? ⟨w.heap.size + 1, 0, none⟩ = some (.int .i64 px) := blk_cell kpW 0
  have cp1 : W.cell? ⟨w.heap.size + 1, 1, none⟩ = some (.int .i64 py) := blk_cell kpW 1
  have cq0 : W.cell? ⟨w.heap.size + 1 + 1, 0, none⟩ = some (.int .i64 qx) := blk_cell kqW 0
  have cq1 : W.cell? ⟨w.heap.size + 1 + 1, 1, none⟩ = some (.int .i64 qy) := blk_cell kqW 1
  try simp only [Act.put]
  refine wp_mix 9 [0, 0, 0, 7, 0, 0, 63, 0, 0, 511, 1023] [] [0, 1, 2, 3, 4, 5, 6, 7, 8] (by kernel_rfl) (by kernel_rfl) ?_
  repeat (first
    | (refine mix_skip (by rfl) (by rfl) (by rfl) (by rfl) ?_)
    | (refine mix_early (by rfl) (by rfl) (by rfl) ?_; refine wpQuiet_load23 (by rfl) 29 _ rfl (w.heap.size) 0 rfl (bdc b) _ hRb Tryz.underlying29 rfl (bd_sizeC b) ?_; with_reducible refine wpQuiet_nil ?_; simp only [Act.put, List.setIfInBounds_toArray, List.set_cons_zero, List.set_cons_succ])
    | (refine mix_early (by rfl) (by rfl) (by rfl) ?_; go_big_quiet_step (fail); with_reducible refine wpQuiet_nil ?_)
    | (refine mix_late (by rfl) (by rfl) (by rfl) ?_; refine wpQuiet_load23 (by rfl) 29 _ rfl (w.heap.size) 0 rfl (bdc b) _ (fun w' h' => by obtain ⟨q, rfl⟩ := h'; exact rng_blk23 (t := 29) (blk_below (w := W) bBel kbW)) Tryz.underlying29 rfl (bd_sizeC b) ?_; with_reducible refine wpQuiet_nil ?_; simp only [Act.put, List.setIfInBounds_toArray, List.set_cons_zero, List.set_cons_succ])
    | (refine mix_late (by rfl) (by rfl) (by rfl) ?_; go_big_quiet_step (fail); with_reducible refine wpQuiet_nil ?_)
    | (refine mix_call (by rfl) (by rfl) (by rfl) ?_; intro pM Qs hQs; go_wp2_with (first | (go_at_call 30; refine Calls.mono (cI _ (BdIn.to hInW bBel)) ?_; rintro e U1 ⟨⟨s1, rfl, hs1, hN1⟩, hb1⟩; obtain ⟨G1, hG1⟩ : ∃ G, G = (gw W pM).heap.size := ⟨_, rfl⟩; rw [← hG1] at hN1; have hbWU1 : Below W.heap.size W U1 := bl_then (hb1.mono (by first | (simp; done) | (simp; omega))) bBel; have hszU1 := hbWU1.size) | (go_at_call 32; refine Calls.mono (cA _ (BdIn.to hInW bBel)) ?_; rintro e U2 ⟨⟨s2, rfl, hs2, hN2⟩, hb2⟩; obtain ⟨G2, hG2⟩ : ∃ G, G = (gw U1 pM).heap.size := ⟨_, rfl⟩; rw [← hG2] at hN2; have hbWU2 : Below W.heap.size W U2 := bl_then (hb2.mono (by first | (simp; done) | (simp; omega))) bBel; have hszU2 := hbWU2.size)); refine hQs _ _ bBel ?_))
  refine mix_make #[.int .i64 0, .int .i64 0, .int .i64 0, .int .i64 0, .int .i64 0, .int .i64 0, .int .i64 0, .int .i64 0, .int .i64 0, .int .i64 0, .int .i64 0, .int .i64 0, .int .i64 0, .int .i64 0, .bool false, .bool false, .bool false, .bool false, .int .i64 0, .slice none 0 0] 29 none (by rfl) (by rfl) (by rfl) (by rfl) (fun w => by simp [go_sem, mval]) ?_
  intro B1 wb1 hbb1 kB1 hS1
  simp only [mval]
  refine mix_make #[.int .i64 0, .int .i64 0, .int .i64 0, .int .i64 0, .int .i64 0, .int .i64 0, .int .i64 0, .int .i64 0, .int .i64 0, .int .i64 0, .int .i64 0, .int .i64 0, .int .i64 0, .int .i64 0, .bool false, .bool false, .bool false, .bool false, .int .i64 0, .slice none 0 0] 29 none (by rfl) (by rfl) (by rfl) (by rfl) (fun w => by simp [go_sem, mval]) ?_
  intro B2 wb2 hbb2 kB2 hS2
  simp only [mval]
  refine mix_end ?_
  intro pE
  simp only [List.drop_succ_cons, List.drop_zero]
  have hz1 := hb1.size
  have hz2 := hb2.size
  have hzb1 := hbb1.size
  have hzb2 := hbb2.size
  have hW1 : W.heap.size ≤ U1.heap.size := by simp at hz1; omega
  have hW2 : U1.heap.size ≤ U2.heap.size := by simp at hz2; omega
  have hB1W : W.heap.size ≤ B1 := by simp at hS1; omega
  have hB2W : W.heap.size ≤ B2 := by simp at hS2; omega
  have hne : B1 ≠ B2 := by intro e; subst e; simp at hS2
  --FACTS
  have f1 : ∀ g, G1 ≤ g → g < U1.heap.size → B1 ≠ g ∧ B2 ≠ g := fun g h1 h2 => by
    refine ⟨fun e => ?_, fun e => ?_⟩ <;> subst e <;> simp at hS1 hS2 hG1 hG2 <;> omega
  have f2 : ∀ g, G2 ≤ g → g < U2.heap.size → B1 ≠ g ∧ B2 ≠ g := fun g h1 h2 => by
    refine ⟨fun e => ?_, fun e => ?_⟩ <;> subst e <;> simp at hS1 hS2 hG1 hG2 <;> omega
  obtain ⟨T, hT⟩ : ∃ T, T = gw wb2 pE := ⟨_, rfl⟩
  have hA2 : Below U2.heap.size U2 T := by rw [hT]; exact Below.trans hbb1 ((Below.trans hbb2 ((below_gw wb2 pE).mono hbb2.size)).mono hbb1.size)
  have hU12 : Below U1.heap.size U1 U2 := bl_then (hb2.mono (by first | (simp; done) | (simp; omega))) bBel
  have hA1 : Below U1.heap.size U1 T := Below.trans hU12 (hA2.mono hU12.size)
  have hWU : Below W.heap.size W U1 := bl_then (hb1.mono (by first | (simp; done) | (simp; omega))) bBel
  have hAW : Below W.heap.size W T := Below.trans hWU (hA1.mono hWU.size)
  have kA : blk T B1 #[.int .i64 0, .int .i64 0, .int .i64 0, .int .i64 0, .int .i64 0, .int .i64 0, .int .i64 0, .int .i64 0, .int .i64 0, .int .i64 0, .int .i64 0, .int .i64 0, .int .i64 0, .int .i64 0, .bool false, .bool false, .bool false, .bool false, .int .i64 0, .slice none 0 0] 29 := by rw [hT]; exact blk_gw (blk_below hbb2 kB1)
  have kB : blk T B2 #[.int .i64 0, .int .i64 0, .int .i64 0, .int .i64 0, .int .i64 0, .int .i64 0, .int .i64 0, .int .i64 0, .int .i64 0, .int .i64 0, .int .i64 0, .int .i64 0, .int .i64 0, .int .i64 0, .bool false, .bool false, .bool false, .bool false, .int .i64 0, .slice none 0 0] 29 := by rw [hT]; exact blk_gw kB2
  have st1 : Hid (∀ w', (∀ g c t, B1 ≠ g → B2 ≠ g → blk T g c t → blk w' g c t) → BdIn w' s1) := fun w' hk => new_in (hN1.keep fun g c t hg k => hk _ _ _ (f1 g hg (blk_lt k)).1 (f1 g hg (blk_lt k)).2 (blk_below hA1 k))
  have st2 : Hid (∀ w', (∀ g c t, B1 ≠ g → B2 ≠ g → blk T g c t → blk w' g c t) → BdIn w' s2) := fun w' hk => new_in (hN2.keep fun g c t hg k => hk _ _ _ (f2 g hg (blk_lt k)).1 (f2 g hg (blk_lt k)).2 (blk_below hA2 k))
  rw [← hT]
  clear hN1 hN2 f1 f2 hbWU1 hbWU2 hszU1 hszU2 hS1 hS2 hb1 hb2 hbb1 hbb2 kB1 kB2 hz1 hz2 hzb1 hzb2 hA1 hA2 hWU hU12 hT hG1 hG2 hW1 hW2 cI cA cp0 cp1 cq0 cq1 opW oqW obW kpW kqW hRb
  go_upto_region 4 with (first | (refine wpList_store_wide rfl 29 _ _ rfl B1 (bdc s1) rfl rfl _ _ kA (by kernel_rfl) (bd_sizeC s1) (bd_all s1) ?_; intro Y1 kY1 hbY1 koY1 hzY1; clear hzY1) | (refine wpList_store_wide rfl 29 _ _ rfl B2 (bdc s2) rfl rfl _ _ (koY1 _ _ _ hne kB) (by kernel_rfl) (bd_sizeC s2) (bd_all s2) ?_; intro X k2X hbX2 koX2 hzX; clear hzX))
  have k1X : blk X B1 (bdc s1).toArray 29 := koX2 _ _ _ hne.symm kY1
  have hbWX : Below W.heap.size W X := hbX2 _ _ hB2W (hbY1 _ _ hB1W hAW)
  have hin1 : BdIn X s1 := st1.out _ fun g c t h1 h2 k => koX2 _ _ _ h2 (koY1 _ _ _ h1 k)
  have hin2 : BdIn X s2 := st2.out _ fun g c t h1 h2 k => koX2 _ _ _ h2 (koY1 _ _ _ h1 k)
  have kbX := blk_below hbWX kbW
  have hInX := hInW.to hbWX
  have hbX : Below w.heap.size w X := Below.trans hbW (hbWX.mono hszW)
  have hszX := hbX.size
  clear st1 st2 koX2 koY1 hbX2 hbY1 kY1 kA kB hAW hbWX kbW hInW hbW hszW hB1W hB2W
  have ok1 : Hid (okL s1) := okL_eq hs1.out hoD1.out
  have ok2 : Hid (okL s2) := okL_eq hs2.out hoD2.out
  have obX := blk_older kbX
  have o1X := blk_older k1X
  have o2X := blk_older k2X
  obtain ⟨-, cb1, -, -, -, -, -, -, -, -, -, -, -, -, -, -, -, -, -, -⟩ := bd_cells kbX
  have hQb : Hid (∀ w', Below X.heap.size X w' → w'.rangeAt (w.heap.size) 0 (bdc b)) := fun w' h' => rng_blk23 (blk_below h' kbX)
  have hQ1 : Hid (∀ w', Below X.heap.size X w' → w'.rangeAt (B1) 0 (bdc s1)) := fun w' h' => rng_blk23 (blk_below h' k1X)
  have hQ2 : Hid (∀ w', Below X.heap.size X w' → w'.rangeAt (B2) 0 (bdc s2)) := fun w' h' => rng_blk23 (blk_below h' k2X)
  by_cases h3 : b.k = 3
  · have cE1 : ¬ b.k = 3 → ∀ w', BdIn w' s1 → BdIn w' b → Calls Tryz.prog 36 #[.agg (bdc s1).toArray, .agg (bdc b).toArray] w' fun e w'' => e = .returned (.bool true) ∧ Below w'.heap.size w' w'' := fun h w' h1 h2 => peq_b s1 b w' ok1.out hoH.out true ⟨fun _ => by rw [hs1.out, n1.out h], fun _ => rfl⟩ h1 h2
    have cE2 : ¬ b.k = 3 → ∀ w', BdIn w' s2 → BdIn w' b → Calls Tryz.prog 36 #[.agg (bdc s2).toArray, .agg (bdc b).toArray] w' fun e w'' => e = .returned (.bool true) ∧ Below w'.heap.size w' w'' := fun h w' h1 h2 => peq_b s2 b w' ok2.out hoH.out true ⟨fun _ => by rw [hs2.out, n2.out h], fun _ => rfl⟩ h1 h2
    try rw [h3] at cb1
    have hk3 : (b.k != 3) = !decide (b.k = 3) := by simp [bne, h3]
    first | rw [decide_eq_true h3] at hk3 | rw [decide_eq_false h3] at hk3
    simp only [Bool.not_true, Bool.not_false] at hk3
    try simp only [Act.put]
    go_upto_region 6 with fail
    by_cases hv : V0 = 0
    rotate_left
    · clear n1 n2 v1 v2 cC cD0
      go_wp2_with (first | (refine wpList_load_g (by rfl) 29 _ rfl (w.heap.size) 0 rfl _ _ (hQb.out _ bBel) Tryz.underlying29 rfl (bd_sizeC b) ?_) | (refine wpList_load_g (by rfl) 29 _ rfl (B1) 0 rfl _ _ (hQ1.out _ bBel) Tryz.underlying29 rfl (bd_sizeC s1) ?_) | (refine wpList_load_g (by rfl) 29 _ rfl (B2) 0 rfl _ _ (hQ2.out _ bBel) Tryz.underlying29 rfl (bd_sizeC s2) ?_) | (go_at_call 13; with_reducible_and_instances refine Calls.mono (gw_at (cV _ (BdIn.to hInX bBel))) ?_; rintro e w1 ⟨rfl, q, rfl⟩) | (go_at_call 12; with_reducible_and_instances refine Calls.mono (gw_at (cX _)) ?_; rintro e w1 ⟨rfl, q, rfl⟩))
      go_ret
      exact ⟨rfl, bBel⟩
    rw [hv] at cV
    go_upto_region 8 with (first | (refine wpList_load_g (by rfl) 29 _ rfl (w.heap.size) 0 rfl _ _ (hQb.out _ bBel) Tryz.underlying29 rfl (bd_sizeC b) ?_) | (refine wpList_load_g (by rfl) 29 _ rfl (B1) 0 rfl _ _ (hQ1.out _ bBel) Tryz.underlying29 rfl (bd_sizeC s1) ?_) | (refine wpList_load_g (by rfl) 29 _ rfl (B2) 0 rfl _ _ (hQ2.out _ bBel) Tryz.underlying29 rfl (bd_sizeC s2) ?_) | (go_at_call 13; with_reducible_and_instances refine Calls.mono (gw_at (cV _ (BdIn.to hInX bBel))) ?_; rintro e w1 ⟨rfl, q, rfl⟩))
    refine wp_named ?_
    intro Z hZ
    have kbZ : blk Z w.heap.size (bdc b).toArray 29 := by rw [hZ]; repeat (first | exact kbX | apply blk_gw)
    have k1Z : blk Z B1 (bdc s1).toArray 29 := by rw [hZ]; repeat (first | exact k1X | apply blk_gw)
    have k2Z : blk Z B2 (bdc s2).toArray 29 := by rw [hZ]; repeat (first | exact k2X | apply blk_gw)
    have hbXZ : Below X.heap.size X Z := by rw [hZ]; exact bBel
    clear hZ hQb hQ1 hQ2 obX o1X o2X cb1
    have hbZ : Below w.heap.size w Z := Below.trans hbX (hbXZ.mono hszX)
    have hszZ := hbZ.size
    have hInZ := hInX.to hbXZ
    have hin1Z := hin1.to hbXZ
    have hin2Z := hin2.to hbXZ
    clear hbXZ hInX hin1 hin2 kbX k1X k2X cE1 cE2 n1 n2 hbX hszX
    have d1 := v1.out hv
    have d2 := v2.out hv
    have z1 : bdV s1 = 0 := by rw [bdV_eq hs1.out]; exact d1.1
    have z2 : bdV s2 = 0 := by rw [bdV_eq hs2.out]; exact d2.1
    have cV1 := fun w' h => pval_b s1 w' ok1.out h
    have cV2 := fun w' h => pval_b s2 w' ok2.out h
    rw [z1] at cV1
    rw [z2] at cV2
    have a1 : s1.asl = false := (congrArg Bdy.asl hs1.out).trans d1.2.1
    have a2 : s2.asl = false := (congrArg Bdy.asl hs2.out).trans d2.2
    have p1 : s1.px = b.px := (congrArg Bdy.px hs1.out).trans d1.2.2.1
    have p2 : s1.py = b.py := (congrArg Bdy.py hs1.out).trans d1.2.2.2.1
    have p3 : s1.pa = b.pa := (congrArg Bdy.pa hs1.out).trans d1.2.2.2.2
    have eT := fun W => (eq_tr23 b.px b.py b.pa b.px b.py b.pa W).trans (show _ = Result.ok (Value.bool true) W by simp)
    have hclb : Hid (D3 = b) := cD0.out hv
    have hXb : Hid (∀ w', Below Z.heap.size Z w' → w'.cell? ⟨w.heap.size, 2, none⟩ = some (.int .i64 b.px) ∧ w'.cell? ⟨w.heap.size, 3, none⟩ = some (.int .i64 b.py) ∧ w'.cell? ⟨w.heap.size, 4, none⟩ = some (.int .i64 b.pa)) := fun w' h => by
      obtain ⟨-, -, x2, x3, x4, -, -, -, -, -, -, -, -, -, -, -, -, -, -, -⟩ := bd_cells (blk_below h kbZ)
      exact ⟨x2, x3, x4⟩
    have hX1 : Hid (∀ w', Below Z.heap.size Z w' → w'.cell? ⟨B1, 2, none⟩ = some (.int .i64 b.px) ∧ w'.cell? ⟨B1, 3, none⟩ = some (.int .i64 b.py) ∧ w'.cell? ⟨B1, 4, none⟩ = some (.int .i64 b.pa) ∧ w'.cell? ⟨B1, 17, none⟩ = some (.bool false)) := fun w' h => by
      obtain ⟨-, -, x2, x3, x4, -, -, -, -, -, -, -, -, -, -, -, -, x17, -, -⟩ := bd_cells (blk_below h k1Z)
      rw [a1] at x17
      rw [p1] at x2
      rw [p2] at x3
      rw [p3] at x4
      exact ⟨x2, x3, x4, x17⟩
    have hX2 : Hid (∀ w', Below Z.heap.size Z w' → w'.cell? ⟨B2, 17, none⟩ = some (.bool false)) := fun w' h => by
      obtain ⟨-, -, -, -, -, -, -, -, -, -, -, -, -, -, -, -, -, x17, -, -⟩ := bd_cells (blk_below h k2Z)
      rw [a2] at x17
      exact x17
    obtain ⟨cb2, cb3, cb4⟩ := hXb.out Z (Below.refl _ _)
    obtain ⟨x2, x3, x4, x17⟩ := hX1.out Z (Below.refl _ _)
    have y17 := hX2.out Z (Below.refl _ _)
    have obZ := blk_older kbZ
    have o1Z := blk_older k1Z
    have o2Z := blk_older k2Z
    have hRb : ∀ w', (∃ q, w' = gw Z q) → w'.rangeAt (w.heap.size) 0 (bdc b) := fun w' h' => by
      obtain ⟨q, rfl⟩ := h'
      exact rng_blk23 (blk_gw kbZ)
    have hR1 : ∀ w', (∃ q, w' = gw Z q) → w'.rangeAt (B1) 0 (bdc s1) := fun w' h' => by
      obtain ⟨q, rfl⟩ := h'
      exact rng_blk23 (blk_gw k1Z)
    have hR2 : ∀ w', (∃ q, w' = gw Z q) → w'.rangeAt (B2) 0 (bdc s2) := fun w' h' => by
      obtain ⟨q, rfl⟩ := h'
      exact rng_blk23 (blk_gw k2Z)
    clear d1 d2 z1 z2 a1 a2 p1 p2 p3 v1 v2 cD0 hv
    try simp only [Act.put]
    refine wp_mix 35 [0, 1, 3, 7, 15, 31, 63, 127, 255, 511, 1023, 511, 4095, 8191, 16383, 32767, 65535, 32767, 163839, 524287, 1048575, 2097151, 4194303, 8388607, 16777215, 33554431, 67108863, 134217727, 268435455, 536870911, 1073741823, 2147483647, 4294967295, 8589934591, 17179869183] [4, 9, 16, 18, 23, 28] [0, 1, 2, 3, 4, 5, 6, 7, 8, 9, 10, 11, 12, 13, 14, 15, 16, 17, 18, 19, 20, 21, 22, 23, 24, 25, 26, 27, 28, 29, 30, 31, 32, 33, 34] (by kernel_rfl) (by kernel_rfl) ?_
    repeat (first
      | (refine mix_skip (by rfl) (by rfl) (by rfl) (by rfl) ?_)
      | (refine mix_early (by rfl) (by rfl) (by rfl) ?_; refine wpQuiet_load23 (by rfl) 29 _ rfl (w.heap.size) 0 rfl (bdc b) _ hRb Tryz.underlying29 rfl (bd_sizeC b) ?_; with_reducible refine wpQuiet_nil ?_; simp only [Act.put, List.setIfInBounds_toArray, List.set_cons_zero, List.set_cons_succ])
      | (refine mix_early (by rfl) (by rfl) (by rfl) ?_; refine wpQuiet_load23 (by rfl) 29 _ rfl (B1) 0 rfl (bdc s1) _ hR1 Tryz.underlying29 rfl (bd_sizeC s1) ?_; with_reducible refine wpQuiet_nil ?_; simp only [Act.put, List.setIfInBounds_toArray, List.set_cons_zero, List.set_cons_succ])
      | (refine mix_early (by rfl) (by rfl) (by rfl) ?_; refine wpQuiet_load23 (by rfl) 29 _ rfl (B2) 0 rfl (bdc s2) _ hR2 Tryz.underlying29 rfl (bd_sizeC s2) ?_; with_reducible refine wpQuiet_nil ?_; simp only [Act.put, List.setIfInBounds_toArray, List.set_cons_zero, List.set_cons_succ])
      | (refine mix_early (by rfl) (by rfl) (by rfl) ?_; go_big_quiet_step (fail); with_reducible refine wpQuiet_nil ?_)
      | (refine mix_late (by rfl) (by rfl) (by rfl) ?_; refine wpQuiet_load23 (by rfl) 29 _ rfl (w.heap.size) 0 rfl (bdc b) _ (fun w' h' => by obtain ⟨q, rfl⟩ := h'; exact rng_blk23 (t := 29) (blk_below (w := Z) bBel kbZ)) Tryz.underlying29 rfl (bd_sizeC b) ?_; with_reducible refine wpQuiet_nil ?_; simp only [Act.put, List.setIfInBounds_toArray, List.set_cons_zero, List.set_cons_succ])
      | (refine mix_late (by rfl) (by rfl) (by rfl) ?_; refine wpQuiet_load23 (by rfl) 29 _ rfl (B1) 0 rfl (bdc s1) _ (fun w' h' => by obtain ⟨q, rfl⟩ := h'; exact rng_blk23 (t := 29) (blk_below (w := Z) bBel k1Z)) Tryz.underlying29 rfl (bd_sizeC s1) ?_; with_reducible refine wpQuiet_nil ?_; simp only [Act.put, List.setIfInBounds_toArray, List.set_cons_zero, List.set_cons_succ])
      | (refine mix_late (by rfl) (by rfl) (by rfl) ?_; refine wpQuiet_load23 (by rfl) 29 _ rfl (B2) 0 rfl (bdc s2) _ (fun w' h' => by obtain ⟨q, rfl⟩ := h'; exact rng_blk23 (t := 29) (blk_below (w := Z) bBel k2Z)) Tryz.underlying29 rfl (bd_sizeC s2) ?_; with_reducible refine wpQuiet_nil ?_; simp only [Act.put, List.setIfInBounds_toArray, List.set_cons_zero, List.set_cons_succ])
      | (refine mix_late (by rfl) (by rfl) (by rfl) ?_; go_big_quiet_step (fail); with_reducible refine wpQuiet_nil ?_)
      | (refine mix_call (by rfl) (by rfl) (by rfl) ?_; intro pM Qs hQs; go_wp2_with (first | (go_at_call 13; with_reducible_and_instances refine Calls.mono (gw_at (cV1 _ (BdIn.to hin1Z bBel))) ?_; rintro e w1 ⟨rfl, q, rfl⟩) | (go_at_call 13; with_reducible_and_instances refine Calls.mono (gw_at (cV2 _ (BdIn.to hin2Z bBel))) ?_; rintro e w1 ⟨rfl, q, rfl⟩) | (go_at_call 34; refine Calls.mono (cC _ (BdIn.to hInZ bBel)) ?_; rintro e U3 ⟨⟨s3, rfl, hs3, hN3⟩, hb3⟩; have hbZ3 : Below Z.heap.size Z U3 := bl_then (hb3.mono (by first | (simp; done) | (simp; omega))) bBel; have hsz3 := hbZ3.size; have hbw3 : Below w.heap.size w U3 := Below.trans hbZ (hbZ3.mono hszZ); have hszw3 := hbw3.size; have hInd3 := new_in hN3; have cE3 := fun w' h1 h2 => peq_b s3 b w' (okL_eq hs3.out (show okL D3 from by rw [hclb.out]; exact hoH.out)) hoH.out true ⟨fun _ => by rw [hs3.out, hclb.out], fun _ => rfl⟩ h1 h2; clear hN3; obtain ⟨u2, u3, u4⟩ := hXb.out U3 hbZ3; obtain ⟨v2, v3, v4, v17⟩ := hX1.out U3 hbZ3; have z17 := hX2.out U3 hbZ3; have oU0 := blk_older (blk_below hbZ3 kbZ); have oU1 := blk_older (blk_below hbZ3 k1Z); have oU2 := blk_older (blk_below hbZ3 k2Z)) | (go_at_call 36; with_reducible_and_instances refine Calls.mono (gw_at (cE3 _ (BdIn.to hInd3 bBel) (BdIn.to hInZ bBel))) ?_; rintro e w1 ⟨rfl, q, rfl⟩) | (go_at_call 12; with_reducible_and_instances refine Calls.mono (gw_at (cX _)) ?_; rintro e w1 ⟨rfl, q, rfl⟩)); refine hQs _ _ bBel ?_))
    refine mix_end ?_
    intro pE
    simp only [List.drop_succ_cons, List.drop_zero]
    go_wp2_with fail
    go_ret
    exact ⟨rfl, bBel⟩
  · have cE1 : ¬ b.k = 3 → ∀ w', BdIn w' s1 → BdIn w' b → Calls Tryz.prog 36 #[.agg (bdc s1).toArray, .agg (bdc b).toArray] w' fun e w'' => e = .returned (.bool true) ∧ Below w'.heap.size w' w'' := fun h w' h1 h2 => peq_b s1 b w' ok1.out hoH.out true ⟨fun _ => by rw [hs1.out, n1.out h], fun _ => rfl⟩ h1 h2
    have cE2 : ¬ b.k = 3 → ∀ w', BdIn w' s2 → BdIn w' b → Calls Tryz.prog 36 #[.agg (bdc s2).toArray, .agg (bdc b).toArray] w' fun e w'' => e = .returned (.bool true) ∧ Below w'.heap.size w' w'' := fun h w' h1 h2 => peq_b s2 b w' ok2.out hoH.out true ⟨fun _ => by rw [hs2.out, n2.out h], fun _ => rfl⟩ h1 h2
    try rw [h3] at cb1
    have hk3 : (b.k != 3) = !decide (b.k = 3) := by simp [bne, h3]
    first | rw [decide_eq_true h3] at hk3 | rw [decide_eq_false h3] at hk3
    simp only [Bool.not_true, Bool.not_false] at hk3
    try simp only [Act.put]
    go_upto_region 6 with (first | (refine wpList_load_g (by first | (rw [hk3]; rfl) | rfl) 29 _ rfl (w.heap.size) 0 rfl _ _ (hQb.out _ bBel) Tryz.underlying29 rfl (bd_sizeC b) ?_) | (refine wpList_load_g (by first | (rw [hk3]; rfl) | rfl) 29 _ rfl (B1) 0 rfl _ _ (hQ1.out _ bBel) Tryz.underlying29 rfl (bd_sizeC s1) ?_) | (refine wpList_load_g (by first | (rw [hk3]; rfl) | rfl) 29 _ rfl (B2) 0 rfl _ _ (hQ2.out _ bBel) Tryz.underlying29 rfl (bd_sizeC s2) ?_) | (go_at_call 36; with_reducible_and_instances refine Calls.mono (gw_at (cE1 h3 _ (BdIn.to hin1 bBel) (BdIn.to hInX bBel))) ?_; rintro e w1 ⟨rfl, q, rfl⟩) | (go_at_call 36; with_reducible_and_instances refine Calls.mono (gw_at (cE2 h3 _ (BdIn.to hin2 bBel) (BdIn.to hInX bBel))) ?_; rintro e w1 ⟨rfl, q, rfl⟩))
    by_cases hv : V0 = 0
    rotate_left
    · clear n1 n2 v1 v2 cC cD0
      go_wp2_with (first | (refine wpList_load_g (by rfl) 29 _ rfl (w.heap.size) 0 rfl _ _ (hQb.out _ bBel) Tryz.underlying29 rfl (bd_sizeC b) ?_) | (refine wpList_load_g (by rfl) 29 _ rfl (B1) 0 rfl _ _ (hQ1.out _ bBel) Tryz.underlying29 rfl (bd_sizeC s1) ?_) | (refine wpList_load_g (by rfl) 29 _ rfl (B2) 0 rfl _ _ (hQ2.out _ bBel) Tryz.underlying29 rfl (bd_sizeC s2) ?_) | (go_at_call 13; with_reducible_and_instances refine Calls.mono (gw_at (cV _ (BdIn.to hInX bBel))) ?_; rintro e w1 ⟨rfl, q, rfl⟩) | (go_at_call 12; with_reducible_and_instances refine Calls.mono (gw_at (cX _)) ?_; rintro e w1 ⟨rfl, q, rfl⟩))
      go_ret
      exact ⟨rfl, bBel⟩
    rw [hv] at cV
    go_upto_region 8 with (first | (refine wpList_load_g (by rfl) 29 _ rfl (w.heap.size) 0 rfl _ _ (hQb.out _ bBel) Tryz.underlying29 rfl (bd_sizeC b) ?_) | (refine wpList_load_g (by rfl) 29 _ rfl (B1) 0 rfl _ _ (hQ1.out _ bBel) Tryz.underlying29 rfl (bd_sizeC s1) ?_) | (refine wpList_load_g (by rfl) 29 _ rfl (B2) 0 rfl _ _ (hQ2.out _ bBel) Tryz.underlying29 rfl (bd_sizeC s2) ?_) | (go_at_call 13; with_reducible_and_instances refine Calls.mono (gw_at (cV _ (BdIn.to hInX bBel))) ?_; rintro e w1 ⟨rfl, q, rfl⟩))
    refine wp_named ?_
    intro Z hZ
    have kbZ : blk Z w.heap.size (bdc b).toArray 29 := by rw [hZ]; repeat (first | exact kbX | apply blk_gw)
    have k1Z : blk Z B1 (bdc s1).toArray 29 := by rw [hZ]; repeat (first | exact k1X | apply blk_gw)
    have k2Z : blk Z B2 (bdc s2).toArray 29 := by rw [hZ]; repeat (first | exact k2X | apply blk_gw)
    have hbXZ : Below X.heap.size X Z := by rw [hZ]; exact bBel
    clear hZ hQb hQ1 hQ2 obX o1X o2X cb1
    have hbZ : Below w.heap.size w Z := Below.trans hbX (hbXZ.mono hszX)
    have hszZ := hbZ.size
    have hInZ := hInX.to hbXZ
    have hin1Z := hin1.to hbXZ
    have hin2Z := hin2.to hbXZ
    clear hbXZ hInX hin1 hin2 kbX k1X k2X cE1 cE2 n1 n2 hbX hszX
    have d1 := v1.out hv
    have d2 := v2.out hv
    have z1 : bdV s1 = 0 := by rw [bdV_eq hs1.out]; exact d1.1
    have z2 : bdV s2 = 0 := by rw [bdV_eq hs2.out]; exact d2.1
    have cV1 := fun w' h => pval_b s1 w' ok1.out h
    have cV2 := fun w' h => pval_b s2 w' ok2.out h
    rw [z1] at cV1
    rw [z2] at cV2
    have a1 : s1.asl = false := (congrArg Bdy.asl hs1.out).trans d1.2.1
    have a2 : s2.asl = false := (congrArg Bdy.asl hs2.out).trans d2.2
    have p1 : s1.px = b.px := (congrArg Bdy.px hs1.out).trans d1.2.2.1
    have p2 : s1.py = b.py := (congrArg Bdy.py hs1.out).trans d1.2.2.2.1
    have p3 : s1.pa = b.pa := (congrArg Bdy.pa hs1.out).trans d1.2.2.2.2
    have eT := fun W => (eq_tr23 b.px b.py b.pa b.px b.py b.pa W).trans (show _ = Result.ok (Value.bool true) W by simp)
    have hclb : Hid (D3 = b) := cD0.out hv
    have hXb : Hid (∀ w', Below Z.heap.size Z w' → w'.cell? ⟨w.heap.size, 2, none⟩ = some (.int .i64 b.px) ∧ w'.cell? ⟨w.heap.size, 3, none⟩ = some (.int .i64 b.py) ∧ w'.cell? ⟨w.heap.size, 4, none⟩ = some (.int .i64 b.pa)) := fun w' h => by
      obtain ⟨-, -, x2, x3, x4, -, -, -, -, -, -, -, -, -, -, -, -, -, -, -⟩ := bd_cells (blk_below h kbZ)
      exact ⟨x2, x3, x4⟩
    have hX1 : Hid (∀ w', Below Z.heap.size Z w' → w'.cell? ⟨B1, 2, none⟩ = some (.int .i64 b.px) ∧ w'.cell? ⟨B1, 3, none⟩ = some (.int .i64 b.py) ∧ w'.cell? ⟨B1, 4, none⟩ = some (.int .i64 b.pa) ∧ w'.cell? ⟨B1, 17, none⟩ = some (.bool false)) := fun w' h => by
      obtain ⟨-, -, x2, x3, x4, -, -, -, -, -, -, -, -, -, -, -, -, x17, -, -⟩ := bd_cells (blk_below h k1Z)
      rw [a1] at x17
      rw [p1] at x2
      rw [p2] at x3
      rw [p3] at x4
      exact ⟨x2, x3, x4, x17⟩
    have hX2 : Hid (∀ w', Below Z.heap.size Z w' → w'.cell? ⟨B2, 17, none⟩ = some (.bool false)) := fun w' h => by
      obtain ⟨-, -, -, -, -, -, -, -, -, -, -, -, -, -, -, -, -, x17, -, -⟩ := bd_cells (blk_below h k2Z)
      rw [a2] at x17
      exact x17
    obtain ⟨cb2, cb3, cb4⟩ := hXb.out Z (Below.refl _ _)
    obtain ⟨x2, x3, x4, x17⟩ := hX1.out Z (Below.refl _ _)
    have y17 := hX2.out Z (Below.refl _ _)
    have obZ := blk_older kbZ
    have o1Z := blk_older k1Z
    have o2Z := blk_older k2Z
    have hRb : ∀ w', (∃ q, w' = gw Z q) → w'.rangeAt (w.heap.size) 0 (bdc b) := fun w' h' => by
      obtain ⟨q, rfl⟩ := h'
      exact rng_blk23 (blk_gw kbZ)
    have hR1 : ∀ w', (∃ q, w' = gw Z q) → w'.rangeAt (B1) 0 (bdc s1) := fun w' h' => by
      obtain ⟨q, rfl⟩ := h'
      exact rng_blk23 (blk_gw k1Z)
    have hR2 : ∀ w', (∃ q, w' = gw Z q) → w'.rangeAt (B2) 0 (bdc s2) := fun w' h' => by
      obtain ⟨q, rfl⟩ := h'
      exact rng_blk23 (blk_gw k2Z)
    clear d1 d2 z1 z2 a1 a2 p1 p2 p3 v1 v2 cD0 hv
    try simp only [Act.put]
    refine wp_mix 35 [0, 1, 3, 7, 15, 31, 63, 127, 255, 511, 1023, 511, 4095, 8191, 16383, 32767, 65535, 32767, 163839, 524287, 1048575, 2097151, 4194303, 8388607, 16777215, 33554431, 67108863, 134217727, 268435455, 536870911, 1073741823, 2147483647, 4294967295, 8589934591, 17179869183] [4, 9, 16, 18, 23, 28] [0, 1, 2, 3, 4, 5, 6, 7, 8, 9, 10, 11, 12, 13, 14, 15, 16, 17, 18, 19, 20, 21, 22, 23, 24, 25, 26, 27, 28, 29, 30, 31, 32, 33, 34] (by kernel_rfl) (by kernel_rfl) ?_
    repeat (first
      | (refine mix_skip (by rfl) (by rfl) (by rfl) (by rfl) ?_)
      | (refine mix_early (by rfl) (by rfl) (by rfl) ?_; refine wpQuiet_load23 (by rfl) 29 _ rfl (w.heap.size) 0 rfl (bdc b) _ hRb Tryz.underlying29 rfl (bd_sizeC b) ?_; with_reducible refine wpQuiet_nil ?_; simp only [Act.put, List.setIfInBounds_toArray, List.set_cons_zero, List.set_cons_succ])
      | (refine mix_early (by rfl) (by rfl) (by rfl) ?_; refine wpQuiet_load23 (by rfl) 29 _ rfl (B1) 0 rfl (bdc s1) _ hR1 Tryz.underlying29 rfl (bd_sizeC s1) ?_; with_reducible refine wpQuiet_nil ?_; simp only [Act.put, List.setIfInBounds_toArray, List.set_cons_zero, List.set_cons_succ])
      | (refine mix_early (by rfl) (by rfl) (by rfl) ?_; refine wpQuiet_load23 (by rfl) 29 _ rfl (B2) 0 rfl (bdc s2) _ hR2 Tryz.underlying29 rfl (bd_sizeC s2) ?_; with_reducible refine wpQuiet_nil ?_; simp only [Act.put, List.setIfInBounds_toArray, List.set_cons_zero, List.set_cons_succ])
      | (refine mix_early (by rfl) (by rfl) (by rfl) ?_; go_big_quiet_step (fail); with_reducible refine wpQuiet_nil ?_)
      | (refine mix_late (by rfl) (by rfl) (by rfl) ?_; refine wpQuiet_load23 (by rfl) 29 _ rfl (w.heap.size) 0 rfl (bdc b) _ (fun w' h' => by obtain ⟨q, rfl⟩ := h'; exact rng_blk23 (t := 29) (blk_below (w := Z) bBel kbZ)) Tryz.underlying29 rfl (bd_sizeC b) ?_; with_reducible refine wpQuiet_nil ?_; simp only [Act.put, List.setIfInBounds_toArray, List.set_cons_zero, List.set_cons_succ])
      | (refine mix_late (by rfl) (by rfl) (by rfl) ?_; refine wpQuiet_load23 (by rfl) 29 _ rfl (B1) 0 rfl (bdc s1) _ (fun w' h' => by obtain ⟨q, rfl⟩ := h'; exact rng_blk23 (t := 29) (blk_below (w := Z) bBel k1Z)) Tryz.underlying29 rfl (bd_sizeC s1) ?_; with_reducible refine wpQuiet_nil ?_; simp only [Act.put, List.setIfInBounds_toArray, List.set_cons_zero, List.set_cons_succ])
      | (refine mix_late (by rfl) (by rfl) (by rfl) ?_; refine wpQuiet_load23 (by rfl) 29 _ rfl (B2) 0 rfl (bdc s2) _ (fun w' h' => by obtain ⟨q, rfl⟩ := h'; exact rng_blk23 (t := 29) (blk_below (w := Z) bBel k2Z)) Tryz.underlying29 rfl (bd_sizeC s2) ?_; with_reducible refine wpQuiet_nil ?_; simp only [Act.put, List.setIfInBounds_toArray, List.set_cons_zero, List.set_cons_succ])
      | (refine mix_late (by rfl) (by rfl) (by rfl) ?_; go_big_quiet_step (fail); with_reducible refine wpQuiet_nil ?_)
      | (refine mix_call (by rfl) (by rfl) (by rfl) ?_; intro pM Qs hQs; go_wp2_with (first | (go_at_call 13; with_reducible_and_instances refine Calls.mono (gw_at (cV1 _ (BdIn.to hin1Z bBel))) ?_; rintro e w1 ⟨rfl, q, rfl⟩) | (go_at_call 13; with_reducible_and_instances refine Calls.mono (gw_at (cV2 _ (BdIn.to hin2Z bBel))) ?_; rintro e w1 ⟨rfl, q, rfl⟩) | (go_at_call 34; refine Calls.mono (cC _ (BdIn.to hInZ bBel)) ?_; rintro e U3 ⟨⟨s3, rfl, hs3, hN3⟩, hb3⟩; have hbZ3 : Below Z.heap.size Z U3 := bl_then (hb3.mono (by first | (simp; done) | (simp; omega))) bBel; have hsz3 := hbZ3.size; have hbw3 : Below w.heap.size w U3 := Below.trans hbZ (hbZ3.mono hszZ); have hszw3 := hbw3.size; have hInd3 := new_in hN3; have cE3 := fun w' h1 h2 => peq_b s3 b w' (okL_eq hs3.out (show okL D3 from by rw [hclb.out]; exact hoH.out)) hoH.out true ⟨fun _ => by rw [hs3.out, hclb.out], fun _ => rfl⟩ h1 h2; clear hN3; obtain ⟨u2, u3, u4⟩ := hXb.out U3 hbZ3; obtain ⟨v2, v3, v4, v17⟩ := hX1.out U3 hbZ3; have z17 := hX2.out U3 hbZ3; have oU0 := blk_older (blk_below hbZ3 kbZ); have oU1 := blk_older (blk_below hbZ3 k1Z); have oU2 := blk_older (blk_below hbZ3 k2Z)) | (go_at_call 36; with_reducible_and_instances refine Calls.mono (gw_at (cE3 _ (BdIn.to hInd3 bBel) (BdIn.to hInZ bBel))) ?_; rintro e w1 ⟨rfl, q, rfl⟩) | (go_at_call 12; with_reducible_and_instances refine Calls.mono (gw_at (cX _)) ?_; rintro e w1 ⟨rfl, q, rfl⟩)); refine hQs _ _ bBel ?_))
    refine mix_end ?_
    intro pE
    simp only [List.drop_succ_cons, List.drop_zero]
    go_wp2_with fail
    go_ret
    exact ⟨rfl, bBel⟩


end Go.Proofs.YtdmcdicphohlfaaGreat
