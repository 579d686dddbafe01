/- Chapter 23: Bounds, the program's and the reference's. -/
import Derived.Test.YtdmcdicphohlfaaGreatBkG
import Derived.Test.YtdmcdicphohlfaaGreatBkE
set_option linter.unusedVariables false
set_option linter.unusedSimpArgs false
namespace Go.Proofs.YtdmcdicphohlfaaGreat
open Go.RowKit Fx Go.Maps

theorem bxs23_nil {b : Bdy} (h : b.fs.length = 0) : bxs23 b b.fs.length = Bx.zero := by
  have e : b.fs = [] := List.eq_nil_of_length_eq_zero h
  unfold bxs23; rw [e]; rfl

set_option maxRecDepth 100000 in
set_option maxHeartbeats 32000000 in
theorem pbd_b (b : Bdy) (w : World) (ho : okL b) (h : BdIn w b) : Calls Tryz.prog 17 #[.agg (bdc b).toArray] w fun e w' => e = .returned (.tuple #[.agg #[.int .i64 (bxs23 b b.fs.length).x0, .int .i64 (bxs23 b b.fs.length).y0, .int .i64 (bxs23 b b.fs.length).x1, .int .i64 (bxs23 b b.fs.length).y1], .bool (decide (0 < b.fs.length))]) ∧ Below w.heap.size w w' := by
  have hpos0 : b.fs.length ≤ b.cap := h.2.2.1
  have hll : b.fs.length ≤ 1000000 := ho.1
  by_cases h0 : b.fs.length = 0
  · have hU := bxs23_nil h0
    have hdec : decide (0 < b.fs.length) = false := decide_eq_false (by omega)
    rw [hU, hdec]
    have h0b : ((b.fs.length : Int) == 0) = true := by rw [beq_iff_eq]; omega
    have h0I : (b.fs.length : Int) = 0 := by omega
    simp only [Bx.zero]
    clear h ho hU
    go_enter Tryz.func17, Tryz.ntmps17
    go_upto_region 1 with fail
    refine wp_named ?_
    intro V hV
    have kb : blk V (w.heap.size) (bdc b).toArray 29 := by rw [hV]; exact bBkn
    have kR : blk V (w.heap.size + 1) #[.int .i64 0, .int .i64 0, .int .i64 0, .int .i64 0] 45 := by rw [hV]; exact bBkn
    have hbV : Below w.heap.size w V := by rw [hV]; exact bBel
    clear hV
    have hszV := hbV.size
    have ob := blk_older kb
    obtain ⟨cb0, cb1, cb2, cb3, cb4, cb5, cb6, cb7, cb8, cb9, cb10, cb11, cb12, cb13, cb14, cb15, cb16, cb17, cb18, cb19⟩ := bd_cells kb
    have oR := blk_older kR
    have ckR_0 := blk_cell kR 0
    have fkR_0 := blk_free kR 0
    have ckR_1 := blk_cell kR 1
    have fkR_1 := blk_free kR 1
    have ckR_2 := blk_cell kR 2
    have fkR_2 := blk_free kR 2
    have ckR_3 := blk_cell kR 3
    have fkR_3 := blk_free kR 3
    go_wp2_with fail
    refine post_named ?_
    intro Z hZ
    have kZ : blk Z (w.heap.size + 1) #[.int .i64 0, .int .i64 0, .int .i64 0, .int .i64 0] 45 := by rw [hZ]; exact (by apply blk_of; (repeat (first | with_reducible exact kR | with_reducible apply blk_drew | with_reducible apply blk_gw | with_reducible apply blk_alloc | with_reducible apply blk_set | ((with_reducible apply blk_other); focus omega))); (first | rfl | simp))
    have hbZ : Below w.heap.size w Z := by rw [hZ]; exact bBel
    clear hZ
    have ckZ_0 := blk_cell kZ 0
    have ckZ_1 := blk_cell kZ 1
    have ckZ_2 := blk_cell kZ 2
    have ckZ_3 := blk_cell kZ 3
    exact bodyPost_ret (v := .tuple #[.agg #[.int .i64 0, .int .i64 0, .int .i64 0, .int .i64 0], .bool false]) (by simp [results, Tryz.results17, go_sem, ckZ_0, ckZ_1, ckZ_2, ckZ_3]) rfl ⟨rfl, hbZ⟩
  have hpos : 0 < b.fs.length := by omega
  by_cases hcap : b.cap = 1
  focus
    have hn1 : b.fs.length = 1 := by omega
    have i1 : ¬ (0 : Int) < ((b.fs.length - 1 : Nat) : Int) := by omega
    have h0b : ((b.fs.length : Int) == 0) = false := by rw [beq_eq_false_iff_ne]; omega
    have hdec : decide (0 < b.fs.length) = true := decide_eq_true (by omega)
    rw [hdec]
    obtain ⟨U, hU⟩ : ∃ U, bxs23 b b.fs.length = U := ⟨_, rfl⟩
    rw [hU]
    have hUH : Hid (bxs23 b b.fs.length = U) := hU
    clear hU
    obtain ⟨U0, U1, U2, U3⟩ := U
    dsimp only
    go_enter Tryz.func17, Tryz.ntmps17
    go_upto_region 1 with fail
    refine wp_named ?_
    intro V hV
    have kb : blk V (w.heap.size) (bdc b).toArray 29 := by rw [hV]; exact bBkn
    have kR : blk V (w.heap.size + 1) #[.int .i64 0, .int .i64 0, .int .i64 0, .int .i64 0] 45 := by rw [hV]; exact bBkn
    have hbV : Below w.heap.size w V := by rw [hV]; exact bBel
    clear hV
    have hszV := hbV.size
    have ob := blk_older kb
    obtain ⟨cb0, cb1, cb2, cb3, cb4, cb5, cb6, cb7, cb8, cb9, cb10, cb11, cb12, cb13, cb14, cb15, cb16, cb17, cb18, cb19⟩ := bd_cells kb
    have oR := blk_older kR
    have ckR_0 := blk_cell kR 0
    have fkR_0 := blk_free kR 0
    have ckR_1 := blk_cell kR 1
    have fkR_1 := blk_free kR 1
    have ckR_2 := blk_cell kR 2
    have fkR_2 := blk_free kR 2
    have ckR_3 := blk_cell kR 3
    have fkR_3 := blk_free kR 3
    have hF : Fxs V b.A b.fs := (h.to hbV).1
    clear h
    obtain ⟨A0, hA0⟩ : ∃ A0, b.A = A0 := ⟨_, rfl⟩
    rw [hA0] at hF cb19
    have hA0H : Hid (b.A = A0) := hA0
    clear hA0
    obtain ⟨b2, off2, rfl, hq0, hr0⟩ := fxs_at23 hF hpos
    obtain ⟨og, hr⟩ := hr0 V (Below.refl _ _)
    simp only [Nat.zero_mul, Nat.add_zero] at hr
    obtain ⟨d0, d1, d2, -, -, -, -, -, -, -⟩ := fx_range hr
    have hfx1 : Hid (bxs23 b 1 = fbd b b.fs[0]) := bxs23_one hpos
    have cB0 : ∀ w', Pts w' b.fs[0].A b.fs[0].ps → Calls Tryz.prog 64 #[.agg #[.int .i64 b.fs[0].K, .int .i64 b.fs[0].R, .slice b.fs[0].A b.fs[0].ps.length b.fs[0].cap], .agg #[.int .i64 b.px, .int .i64 b.py, .int .i64 b.pa]] w' fun e w'' => e = .returned (.agg #[.int .i64 (fbd b b.fs[0]).x0, .int .i64 (fbd b b.fs[0]).y0, .int .i64 (fbd b b.fs[0]).x1, .int .i64 (fbd b b.fs[0]).y1]) ∧ Below w'.heap.size w' w'' := fun w' h => ybnd_b _ _ _ _ _ _ _ _ (ho.2 _ (List.getElem_mem hpos)) w' h hq0.2.2.2.1
    have hP0 := hq0.2.1
    clear hr hr0 hq0
    generalize fbd b b.fs[0] = e0 at *
    generalize b.fs[0].K = K0 at *
    generalize b.fs[0].R = R0 at *
    generalize b.fs[0].A = A1 at *
    generalize b.fs[0].cap = c1 at *
    generalize b.fs[0].ps = p1 at *
    obtain ⟨x0, x1, x2, x3⟩ := e0
    dsimp only at cB0
    have hposI : (0 : Int) < (b.fs.length : Int) := by omega
    have hl1 : (1 : Int) ≤ (b.fs.length : Int) := by omega
    have hk1 : (1 : Int) ≤ (b.cap : Int) := by omega
    have hk2 : (b.fs.length : Int) ≤ (b.cap : Int) := by omega
    go_upto_region 3 with fail
    refine wp_mix 9 [0, 1, 3, 7, 15, 0, 32, 127, 0, 511] [] [0, 1, 2, 3, 4, 5, 6, 7, 8] (by kernel_rfl) (by kernel_rfl) ?_
    first
      | (repeat (first | (refine mix_skip (by rfl) (by rfl) (by rfl) (by rfl) ?_) | (refine mix_early (by rfl) (by rfl) (by rfl) ?_; go_big_quiet_step (fail); with_reducible refine wpQuiet_nil ?_) | (refine mix_late (by rfl) (by rfl) (by rfl) ?_; go_big_quiet_step (fail); with_reducible refine wpQuiet_nil ?_) | (refine mix_call (by rfl) (by rfl) (by rfl) ?_; intro pM Qs hQs; go_wp2_with (go_at_call 64; with_reducible_and_instances refine Calls.mono (gw_at (cB0 _ (Pts.to hP0 bBel))) ?_; rintro e w1 ⟨rfl, q, rfl⟩); refine hQs _ _ bBel ?_)))
      | (repeat (first | (refine mix_skip (by rfl) (by rfl) (by rfl) (by rfl) ?_) | (refine mix_early (by rfl) (by rfl) (by rfl) ?_; go_big_quiet_step (fail); with_reducible refine wpQuiet_nil ?_) | (refine mix_late (by rfl) (by rfl) (by rfl) ?_; go_big_quiet_step (fail); with_reducible refine wpQuiet_nil ?_) | (refine mix_call (by rfl) (by rfl) (by rfl) ?_; intro pM Qs hQs; go_wp2_with (go_at_call 64; with_reducible_and_instances refine Calls.mono (gw_at (cB0 _ (Pts.to hP0 bBel))) ?_; rintro e w1 ⟨rfl, q, rfl⟩); refine hQs _ _ bBel ?_)))
    refine mix_make #[.int .i64 0, .int .i64 0, .int .i64 0, .int .i64 0] 45 none (by rfl) (by rfl) (by rfl) (by rfl) (fun w => by simp [go_sem, mval]) ?_
    intro bB wb hbb kB hS5
    obtain ⟨qb, rfl⟩ := gw_of_below hbb
    have hnB : V.heap.size ≤ bB := by simp at hS5; omega
    clear hbb hS5
    simp only [mval]
    first
      | (refine mix_end ?_
         intro pE
         simp only [List.drop_succ_cons, List.drop_zero])
      | (refine mix_end ?_
         intro pE
         simp only [List.drop_succ_cons, List.drop_zero])
    have cB_0 := blk_cell kB 0
    have cB_1 := blk_cell kB 1
    have cB_2 := blk_cell kB 2
    have cB_3 := blk_cell kB 3
    have fB_0 := blk_free kB 0
    have fB_1 := blk_free kB 1
    have fB_2 := blk_free kB 2
    have fB_3 := blk_free kB 3
    have oB := blk_older kB
    go_wp2_with fail
    refine wp_named ?_
    intro W hW
    have k5 : blk W bB #[.int .i64 x0, .int .i64 x1, .int .i64 x2, .int .i64 x3] 45 := by rw [hW]; exact (by apply blk_of; (repeat (first | with_reducible exact kB | with_reducible apply blk_drew | with_reducible apply blk_gw | with_reducible apply blk_alloc | with_reducible apply blk_set | ((with_reducible apply blk_other); focus omega))); (first | rfl | simp))
    have hbVW : Below V.heap.size V W := by rw [hW]; exact bBel
    clear hW kB cB_0 cB_1 cB_2 cB_3 fB_0 fB_1 fB_2 fB_3 oB
    have hszW := hbVW.size
    clear d0 d1 d2 cB0 hP0
    have hUe := hUH.out
    rw [hn1, hfx1.out] at hUe
    obtain ⟨rfl, rfl, rfl, rfl⟩ : x0 = U0 ∧ x1 = U1 ∧ x2 = U2 ∧ x3 = U3 := by cases hUe; exact ⟨rfl, rfl, rfl, rfl⟩
    have kRR := blk_below hbVW kR
    have hbwW : Below w.heap.size w W := Below.trans hbV (hbVW.mono hszV)
    have hlR := blk_lt kR
    clear hUe hUH hfx1 hn1
    have ck5_0 := blk_cell k5 0
    have ck5_1 := blk_cell k5 1
    have ck5_2 := blk_cell k5 2
    have ck5_3 := blk_cell k5 3
    have o5 := blk_older k5
    have oRR := blk_older kRR
    have cr0 := blk_cell kRR 0
    have cr1 := blk_cell kRR 1
    have cr2 := blk_cell kRR 2
    have cr3 := blk_cell kRR 3
    have fr0 := blk_free kRR 0
    have fr1 := blk_free kRR 1
    have fr2 := blk_free kRR 2
    have fr3 := blk_free kRR 3
    clear ckR_0 ckR_1 ckR_2 ckR_3 fkR_0 fkR_1 fkR_2 fkR_3 oR
    go_loopw [24] (fun i wr => i = .int .i64 0 ∧ wr = W) (fun i _ => 0)
    case atStart => exact ⟨rfl, rfl⟩
    case round =>
      obtain ⟨rfl, hwr⟩ := hrel
      subst hwr
      go_wp2_with fail
      refine post_named ?_
      intro Z hZ
      have kZ : blk Z (w.heap.size + 1) #[.int .i64 x0, .int .i64 x1, .int .i64 x2, .int .i64 x3] 45 := by rw [hZ]; exact (by apply blk_of; (repeat (first | with_reducible exact kRR | with_reducible apply blk_drew | with_reducible apply blk_gw | with_reducible apply blk_alloc | with_reducible apply blk_set | ((with_reducible apply blk_other); focus omega))); (first | rfl | simp))
      have hbZ : Below w.heap.size w Z := by rw [hZ]; exact bBel
      clear hZ
      have ckZ_0 := blk_cell kZ 0
      have ckZ_1 := blk_cell kZ 1
      have ckZ_2 := blk_cell kZ 2
      have ckZ_3 := blk_cell kZ 3
      exact bodyPost_ret (v := .tuple #[.agg #[.int .i64 x0, .int .i64 x1, .int .i64 x2, .int .i64 x3], .bool true]) (by simp [results, Tryz.results17, go_sem, ckZ_0, ckZ_1, ckZ_2, ckZ_3]) rfl ⟨rfl, hbZ⟩
  have h0b : ((b.fs.length : Int) == 0) = false := by rw [beq_eq_false_iff_ne]; omega
  have hdec : decide (0 < b.fs.length) = true := decide_eq_true (by omega)
  rw [hdec]
  obtain ⟨U, hU⟩ : ∃ U, bxs23 b b.fs.length = U := ⟨_, rfl⟩
  rw [hU]
  have hUH : Hid (bxs23 b b.fs.length = U) := hU
  clear hU
  obtain ⟨U0, U1, U2, U3⟩ := U
  dsimp only
  go_enter Tryz.func17, Tryz.ntmps17
  go_upto_region 1 with fail
  refine wp_named ?_
  intro V hV
  have kb : blk V (w.heap.size) (bdc b).toArray 29 := by rw [hV]; exact bBkn
  have kR : blk V (w.heap.size + 1) #[.int .i64 0, .int .i64 0, .int .i64 0, .int .i64 0] 45 := by rw [hV]; exact bBkn
  have hbV : Below w.heap.size w V := by rw [hV]; exact bBel
  clear hV
  have hszV := hbV.size
  have ob := blk_older kb
  obtain ⟨cb0, cb1, cb2, cb3, cb4, cb5, cb6, cb7, cb8, cb9, cb10, cb11, cb12, cb13, cb14, cb15, cb16, cb17, cb18, cb19⟩ := bd_cells kb
  have oR := blk_older kR
  have ckR_0 := blk_cell kR 0
  have fkR_0 := blk_free kR 0
  have ckR_1 := blk_cell kR 1
  have fkR_1 := blk_free kR 1
  have ckR_2 := blk_cell kR 2
  have fkR_2 := blk_free kR 2
  have ckR_3 := blk_cell kR 3
  have fkR_3 := blk_free kR 3
  have hF : Fxs V b.A b.fs := (h.to hbV).1
  clear h
  obtain ⟨A0, hA0⟩ : ∃ A0, b.A = A0 := ⟨_, rfl⟩
  rw [hA0] at hF cb19
  have hA0H : Hid (b.A = A0) := hA0
  clear hA0
  obtain ⟨b2, off2, rfl, hq0, hr0⟩ := fxs_at23 hF hpos
  obtain ⟨og, hr⟩ := hr0 V (Below.refl _ _)
  simp only [Nat.zero_mul, Nat.add_zero] at hr
  obtain ⟨d0, d1, d2, -, -, -, -, -, -, -⟩ := fx_range hr
  have hfx1 : Hid (bxs23 b 1 = fbd b b.fs[0]) := bxs23_one hpos
  have cB0 : ∀ w', Pts w' b.fs[0].A b.fs[0].ps → Calls Tryz.prog 64 #[.agg #[.int .i64 b.fs[0].K, .int .i64 b.fs[0].R, .slice b.fs[0].A b.fs[0].ps.length b.fs[0].cap], .agg #[.int .i64 b.px, .int .i64 b.py, .int .i64 b.pa]] w' fun e w'' => e = .returned (.agg #[.int .i64 (fbd b b.fs[0]).x0, .int .i64 (fbd b b.fs[0]).y0, .int .i64 (fbd b b.fs[0]).x1, .int .i64 (fbd b b.fs[0]).y1]) ∧ Below w'.heap.size w' w'' := fun w' h => ybnd_b _ _ _ _ _ _ _ _ (ho.2 _ (List.getElem_mem hpos)) w' h hq0.2.2.2.1
  have hP0 := hq0.2.1
  clear hr hr0 hq0
  generalize fbd b b.fs[0] = e0 at *
  generalize b.fs[0].K = K0 at *
  generalize b.fs[0].R = R0 at *
  generalize b.fs[0].A = A1 at *
  generalize b.fs[0].cap = c1 at *
  generalize b.fs[0].ps = p1 at *
  obtain ⟨x0, x1, x2, x3⟩ := e0
  dsimp only at cB0
  have hposI : (0 : Int) < (b.fs.length : Int) := by omega
  have hl1 : (1 : Int) ≤ (b.fs.length : Int) := by omega
  have hk1 : (1 : Int) ≤ (b.cap : Int) := by omega
  have hk2 : (b.fs.length : Int) ≤ (b.cap : Int) := by omega
  go_upto_region 3 with fail
  refine wp_mix 9 [0, 1, 3, 7, 15, 0, 32, 127, 0, 511] [] [0, 1, 2, 3, 4, 5, 6, 7, 8] (by kernel_rfl) (by kernel_rfl) ?_
  first
    | (repeat (first | (refine mix_skip (by rfl) (by rfl) (by rfl) (by rfl) ?_) | (refine mix_early (by rfl) (by rfl) (by rfl) ?_; go_big_quiet_step (fail); with_reducible refine wpQuiet_nil ?_) | (refine mix_late (by rfl) (by rfl) (by rfl) ?_; go_big_quiet_step (fail); with_reducible refine wpQuiet_nil ?_) | (refine mix_call (by rfl) (by rfl) (by rfl) ?_; intro pM Qs hQs; go_wp2_with (go_at_call 64; with_reducible_and_instances refine Calls.mono (gw_at (cB0 _ (Pts.to hP0 bBel))) ?_; rintro e w1 ⟨rfl, q, rfl⟩); refine hQs _ _ bBel ?_)))
    | (repeat (first | (refine mix_skip (by rfl) (by rfl) (by rfl) (by rfl) ?_) | (refine mix_early (by rfl) (by rfl) (by rfl) ?_; go_big_quiet_step (fail); with_reducible refine wpQuiet_nil ?_) | (refine mix_late (by rfl) (by rfl) (by rfl) ?_; go_big_quiet_step (fail); with_reducible refine wpQuiet_nil ?_) | (refine mix_call (by rfl) (by rfl) (by rfl) ?_; intro pM Qs hQs; go_wp2_with (go_at_call 64; with_reducible_and_instances refine Calls.mono (gw_at (cB0 _ (Pts.to hP0 bBel))) ?_; rintro e w1 ⟨rfl, q, rfl⟩); refine hQs _ _ bBel ?_)))
  refine mix_make #[.int .i64 0, .int .i64 0, .int .i64 0, .int .i64 0] 45 none (by rfl) (by rfl) (by rfl) (by rfl) (fun w => by simp [go_sem, mval]) ?_
  intro bB wb hbb kB hS5
  obtain ⟨qb, rfl⟩ := gw_of_below hbb
  have hnB : V.heap.size ≤ bB := by simp at hS5; omega
  clear hbb hS5
  simp only [mval]
  first
    | (refine mix_end ?_
       intro pE
       simp only [List.drop_succ_cons, List.drop_zero])
    | (refine mix_end ?_
       intro pE
       simp only [List.drop_succ_cons, List.drop_zero])
  have cB_0 := blk_cell kB 0
  have cB_1 := blk_cell kB 1
  have cB_2 := blk_cell kB 2
  have cB_3 := blk_cell kB 3
  have fB_0 := blk_free kB 0
  have fB_1 := blk_free kB 1
  have fB_2 := blk_free kB 2
  have fB_3 := blk_free kB 3
  have oB := blk_older kB
  go_wp2_with fail
  refine wp_named ?_
  intro W hW
  have k5 : blk W bB #[.int .i64 x0, .int .i64 x1, .int .i64 x2, .int .i64 x3] 45 := by rw [hW]; exact (by apply blk_of; (repeat (first | with_reducible exact kB | with_reducible apply blk_drew | with_reducible apply blk_gw | with_reducible apply blk_alloc | with_reducible apply blk_set | ((with_reducible apply blk_other); focus omega))); (first | rfl | simp))
  have hbVW : Below V.heap.size V W := by rw [hW]; exact bBel
  clear hW kB cB_0 cB_1 cB_2 cB_3 fB_0 fB_1 fB_2 fB_3 oB
  have hszW := hbVW.size
  clear d0 d1 d2 cB0 hP0
  have hbwW : Below w.heap.size w W := Below.trans hbV (hbVW.mono hszV)
  clear cb0 cb1 cb2 cb3 cb4 cb5 cb6 cb7 cb8 cb9 cb10 cb11 cb12 cb13 cb14 cb15 cb16 cb17 cb18 cb19 ob oR ckR_0 ckR_1 ckR_2 ckR_3 fkR_0 fkR_1 fkR_2 fkR_3
  go_loopw [24] (fun i wr => ∃ k : Nat, k + 1 ≤ b.fs.length ∧ i = .int .i64 (k : Int) ∧ blk wr bB #[.int .i64 (bxs23 b (k + 1)).x0, .int .i64 (bxs23 b (k + 1)).y0, .int .i64 (bxs23 b (k + 1)).x1, .int .i64 (bxs23 b (k + 1)).y1] 45 ∧ Below V.heap.size V wr) (fun i _ => b.fs.length - (intOf i).toNat)
  case atStart => exact ⟨0, by omega, rfl, by show blk W bB #[.int .i64 (bxs23 b 1).x0, .int .i64 (bxs23 b 1).y0, .int .i64 (bxs23 b 1).x1, .int .i64 (bxs23 b 1).y1] _; rw [hfx1.out]; exact k5, hbVW⟩
  case round =>
    obtain ⟨k, hk, rfl, h5, hbR⟩ := hrel
    have hszR := hbR.size
    have hbwR : Below w.heap.size w wr := Below.trans hbV (hbR.mono hszV)
    have kbR := blk_below hbR kb
    have kRR := blk_below hbR kR
    have hlR := blk_lt kR
    obtain ⟨cR0, cR1, cR2, cR3, cR4, cR5, cR6, cR7, cR8, cR9, cR10, cR11, cR12, cR13, cR14, cR15, cR16, cR17, cR18, cR19⟩ := bd_cells kbR
    have oBR := blk_older kbR
    rw [hA0H.out] at cR19
    have o5 := blk_older h5
    have oRR := blk_older kRR
    by_cases hlt : k + 1 < b.fs.length
    · obtain ⟨b3, off3, hb3, hq, hr0⟩ := fxs_at23 hF hlt
      obtain ⟨rfl, rfl⟩ : b2 = b3 ∧ off2 = off3 := by cases hb3; exact ⟨rfl, rfl⟩
      obtain ⟨og3, hr⟩ := hr0 wr hbR
      have hst : Hid (bxs23 b (k + 1 + 1) = Bx.uni (bxs23 b (k + 1)) (fbd b b.fs[k + 1])) := bxs23_succ hlt (by omega)
      have cBk : ∀ w', Pts w' b.fs[k + 1].A b.fs[k + 1].ps → Calls Tryz.prog 64 #[.agg #[.int .i64 b.fs[k + 1].K, .int .i64 b.fs[k + 1].R, .slice b.fs[k + 1].A b.fs[k + 1].ps.length b.fs[k + 1].cap], .agg #[.int .i64 b.px, .int .i64 b.py, .int .i64 b.pa]] w' fun e w'' => e = .returned (.agg #[.int .i64 (fbd b b.fs[k + 1]).x0, .int .i64 (fbd b b.fs[k + 1]).y0, .int .i64 (fbd b b.fs[k + 1]).x1, .int .i64 (fbd b b.fs[k + 1]).y1]) ∧ Below w'.heap.size w' w'' := fun w' h => ybnd_b _ _ _ _ _ _ _ _ (ho.2 _ (List.getElem_mem hlt)) w' h hq.2.2.2.1
      have hPk := Pts.to hq.2.1 hbR
      clear hr0 hq hfx1 hUH hb3
      generalize bxs23 b (k + 1) = y at *
      obtain ⟨y0, y1, y2, y3⟩ := y
      dsimp only at h5 hst
      have ck5_0 := blk_cell h5 0
      have ck5_1 := blk_cell h5 1
      have ck5_2 := blk_cell h5 2
      have ck5_3 := blk_cell h5 3
      have fk5_0 := blk_free h5 0
      have fk5_1 := blk_free h5 1
      have fk5_2 := blk_free h5 2
      have fk5_3 := blk_free h5 3
      generalize fbd b b.fs[k + 1] = g at *
      obtain ⟨g0, g1, g2, g3⟩ := g
      dsimp only at cBk
      have cU := fun w' => xuni_b y0 y1 y2 y3 g0 g1 g2 g3 w'
      generalize Bx.uni ⟨y0, y1, y2, y3⟩ ⟨g0, g1, g2, g3⟩ = u at *
      obtain ⟨t0, t1, t2, t3⟩ := u
      dsimp only at cU
      generalize b.fs[k + 1] = f at *
      have hrH : Hid (wr.rangeAt b2 (off2 + 10 + k * 10) (fxc f)) := by
        have e : off2 + (k + 1) * 10 = off2 + 10 + k * 10 := by omega
        rw [e] at hr; exact hr
      have i1 : (k : Int) < ((b.fs.length - 1 : Nat) : Int) := by omega
      have hltI : (k : Int) + 1 < (b.fs.length : Int) := by omega
      clear hr
      go_upto_region 7 with (first
        | (refine wpList_load_mid rfl 35 _ rfl b2 (off2 + 10 + k * 10) rfl _ _ hrH.out Tryz.underlying35 rfl (fx_sizeC f) ?_)
        | (refine list_nm23 ?_; intro T0 hT0; have kX : blk T0 (wr.heap.size) #[.int .i64 0, .int .i64 0, .slice none 0 0, .int .i64 0, .int .i64 0, .int .i64 0, .bool false, .int .i64 0, .int .i64 0, .int .i64 0] 35 := (by rw [hT0]; exact blk_new _ _ _); have hbT0 : Below wr.heap.size wr T0 := (by rw [hT0]; exact bBel); clear hT0; refine wpList_store_wide rfl 35 _ _ rfl (wr.heap.size) (fxc f) rfl rfl _ _ kX (by kernel_rfl) (fx_sizeC f) (fx_all f) ?_; intro T kT hbT koT hzT; clear hzT))
      have hbRT : Below wr.heap.size wr T := hbT _ _ (Nat.le_refl _) hbT0
      have h5T := blk_below hbRT h5
      have kbT := blk_below hbRT kbR
      have hl5 := blk_lt h5
      have hPT := Pts.to hPk hbRT
      have hbVT : Below V.heap.size V T := Below.trans hbR (hbRT.mono hszR)
      have hszT := hbVT.size
      clear hbT koT hbT0 cR0 cR1 cR2 cR3 cR4 cR5 cR6 cR7 cR8 cR9 cR10 cR11 cR12 cR13 cR14 cR15 cR16 cR17 cR18 cR19 ck5_0 ck5_1 ck5_2 ck5_3 fk5_0 fk5_1 fk5_2 fk5_3 o5 oBR oRR og3
      have oT := blk_older kT
      have o5T := blk_older h5T
      have obT := blk_older kbT
      obtain ⟨cb0, cb1, cb2, cb3, cb4, cb5, cb6, cb7, cb8, cb9, cb10, cb11, cb12, cb13, cb14, cb15, cb16, cb17, cb18, cb19⟩ := bd_cells kbT
      obtain ⟨dT0, dT1, dT2, dT3, dT4, dT5, dT6, dT7, dT8, dT9⟩ := fx_cells kT
      have ck5_0 := blk_cell h5T 0
      have ck5_1 := blk_cell h5T 1
      have ck5_2 := blk_cell h5T 2
      have ck5_3 := blk_cell h5T 3
      have fk5_0 := blk_free h5T 0
      have fk5_1 := blk_free h5T 1
      have fk5_2 := blk_free h5T 2
      have fk5_3 := blk_free h5T 3
      try simp only [Act.put]
      refine wp_region_gw_tail 7 (by kernel_rfl) (by kernel_rfl) ?_
      simp only [List.take_succ_cons, List.take_zero, List.drop_succ_cons, List.drop_zero]
      repeat (first | go_big_quiet_step ((first | (go_at_call 64; with_reducible_and_instances exact gw_call (cBk _ (Pts.to hPT bBel))) | (go_at_call 65; with_reducible_and_instances exact gw_call (cU _)))))
      refine wpQuiet_nil ?_
      intro w1 hw1
      obtain ⟨q, rfl⟩ := hw1
      go_wp2_with fail
      refine ⟨⟨k + 1, by omega, by go_num, ?_, bBel⟩, by (try go_num); simp [intOf]; (try omega)⟩
      rw [hst.out]
      exact (by apply blk_of; (repeat (first | with_reducible exact h5T | with_reducible apply blk_drew | with_reducible apply blk_gw | with_reducible apply blk_alloc | with_reducible apply blk_set | ((with_reducible apply blk_other); focus omega))); (first | rfl | simp))
    · have hke : k + 1 = b.fs.length := by omega
      have hUe := hUH.out
      rw [← hke] at hUe
      generalize bxs23 b (k + 1) = y at *
      obtain ⟨y0, y1, y2, y3⟩ := y
      dsimp only at h5
      obtain ⟨rfl, rfl, rfl, rfl⟩ : y0 = U0 ∧ y1 = U1 ∧ y2 = U2 ∧ y3 = U3 := by cases hUe; exact ⟨rfl, rfl, rfl, rfl⟩
      have ck5_0 := blk_cell h5 0
      have ck5_1 := blk_cell h5 1
      have ck5_2 := blk_cell h5 2
      have ck5_3 := blk_cell h5 3
      have cr0 := blk_cell kRR 0
      have cr1 := blk_cell kRR 1
      have cr2 := blk_cell kRR 2
      have cr3 := blk_cell kRR 3
      have fr0 := blk_free kRR 0
      have fr1 := blk_free kRR 1
      have fr2 := blk_free kRR 2
      have fr3 := blk_free kRR 3
      have i1 : ¬ (k : Int) < ((b.fs.length - 1 : Nat) : Int) := by omega
      have hkeH : k + 1 ≤ b.fs.length ∧ b.fs.length ≤ k + 1 := by omega
      clear hUe hUH hke hfx1
      go_wp2_with fail
      refine post_named ?_
      intro Z hZ
      have kZ : blk Z (w.heap.size + 1) #[.int .i64 y0, .int .i64 y1, .int .i64 y2, .int .i64 y3] 45 := by rw [hZ]; exact (by apply blk_of; (repeat (first | with_reducible exact kRR | with_reducible apply blk_drew | with_reducible apply blk_gw | with_reducible apply blk_alloc | with_reducible apply blk_set | ((with_reducible apply blk_other); focus omega))); (first | rfl | simp))
      have hbZ : Below w.heap.size w Z := by rw [hZ]; exact bBel
      clear hZ
      have ckZ_0 := blk_cell kZ 0
      have ckZ_1 := blk_cell kZ 1
      have ckZ_2 := blk_cell kZ 2
      have ckZ_3 := blk_cell kZ 3
      exact bodyPost_ret (v := .tuple #[.agg #[.int .i64 y0, .int .i64 y1, .int .i64 y2, .int .i64 y3], .bool true]) (by simp [results, Tryz.results17, go_sem, ckZ_0, ckZ_1, ckZ_2, ckZ_3]) rfl ⟨rfl, hbZ⟩

end Go.Proofs.YtdmcdicphohlfaaGreat
