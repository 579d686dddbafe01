/- Chapter 23: mass data, centers and velocities, the program's and the reference's. -/
import Derived.Test.YtdmcdicphohlfaaGreatBkB
set_option linter.unusedVariables false
set_option linter.unusedSimpArgs false
namespace Go.Proofs.YtdmcdicphohlfaaGreat
open Go.RowKit Fx Go.Maps

def okL (b : Bdy) : Prop := b.fs.length ≤ 1000000 ∧ ∀ f ∈ b.fs, f.ps.length ≤ 1000000
theorem wpQuiet_load23 {P : Program} {ops : Array Oper} {C : World → Prop} {Q : Act → Prop} {o : Oper} {rest : List Oper} {a : Act} (hg : Region.wanted o (yielded ops a.tmps) = true) (ty : TypeId) (x : Operand) (ho : o.op = .load ty x)
    (b off : Nat) (hx : a.eval x = .pointer (some ⟨b, off, none⟩)) (cs : List Value) (d : TypeDesc) (hc : ∀ w, C w → w.rangeAt b off cs)
    (hu : P.underlying ty = some d) (hd : d.isRow = true) (hi : (P.info? ty).map (·.size) = some cs.length) (h : wpQuiet P ops C Q rest (a.put o.dst (.agg cs.toArray))) : wpQuiet P ops C Q (o :: rest) a := by
  unfold wpQuiet
  rw [if_pos hg]
  exact quiet_load_mid ty x ho b off hx cs d hc hu hd hi h

set_option maxRecDepth 100000 in
set_option maxHeartbeats 16000000 in
theorem pmd_b (b : Bdy) (w : World) (ho : okL b) (h : BdIn w b) : Calls Tryz.prog 19 #[.agg (bdc b).toArray] w fun e w' => e = .returned (.agg #[.int .i64 (ofF b.fs).m, .int .i64 (ofF b.fs).x, .int .i64 (ofF b.fs).y, .int .i64 (ofF b.fs).i]) ∧ Below w.heap.size w w' := by
  have cM := fun w' h => yoff_b b.A b.cap b.fs ho.1 ho.2 w' h
  have hF := h.1
  clear ho h
  generalize (ofF b.fs).m = mm at *
  generalize (ofF b.fs).x = mx at *
  generalize (ofF b.fs).y = my at *
  generalize (ofF b.fs).i = mi at *
  go_enter Tryz.func19, Tryz.ntmps19
  go_upto_region 1 with fail
  refine wp_named ?_
  intro V hV
  have kb : blk V (w.heap.size) (bdc b).toArray 29 := by rw [hV]; exact bBkn
  have kR : blk V (w.heap.size + 1) #[.int .i64 0, .int .i64 0, .int .i64 0, .int .i64 0] 49 := by rw [hV]; exact bBkn
  have hbV : Below w.heap.size w V := by rw [hV]; exact bBel
  clear hV
  have hszV := hbV.size
  have ob := blk_older kb
  obtain ⟨cb0, cb1, cb2, cb3, cb4, cb5, cb6, cb7, cb8, cb9, cb10, cb11, cb12, cb13, cb14, cb15, cb16, cb17, cb18, cb19⟩ := bd_cells kb
  have oR := blk_older kR
  have ckR_0 := blk_cell kR 0
  have fkR_0 := blk_free kR 0
  have ckR_1 := blk_cell kR 1
  have fkR_1 := blk_free kR 1
  have ckR_2 := blk_cell kR 2
  have fkR_2 := blk_free kR 2
  have ckR_3 := blk_cell kR 3
  have fkR_3 := blk_free kR 3
  go_wp2_with (first | (go_at_call 68; with_reducible_and_instances refine Calls.mono (gw_at (cM _ (Fxs.to hF bBel))) ?_; rintro e w1 ⟨rfl, q, rfl⟩))
  refine post_named ?_
  intro Z hZ
  have kZ : blk Z (w.heap.size + 1) #[.int .i64 mm, .int .i64 mx, .int .i64 my, .int .i64 mi] 49 := by rw [hZ]; exact (by apply blk_of; (repeat (first | with_reducible exact kR | with_reducible apply blk_drew | with_reducible apply blk_gw | with_reducible apply blk_alloc | with_reducible apply blk_set | ((with_reducible apply blk_other); focus omega))); (first | rfl | simp))
  have hbZ : Below w.heap.size w Z := by rw [hZ]; exact bBel
  clear hZ
  have ckZ_0 := blk_cell kZ 0
  have ckZ_1 := blk_cell kZ 1
  have ckZ_2 := blk_cell kZ 2
  have ckZ_3 := blk_cell kZ 3
  exact bodyPost_ret (v := .agg #[.int .i64 mm, .int .i64 mx, .int .i64 my, .int .i64 mi]) (by simp [results, Tryz.results19, go_sem, ckZ_0, ckZ_1, ckZ_2, ckZ_3]) rfl ⟨rfl, hbZ⟩

set_option maxRecDepth 100000 in
set_option maxHeartbeats 16000000 in
theorem rmd_b (b : Bdy) (w : World) (ho : okL b) (h : BdIn w b) : Calls Tryz.prog 20 #[.agg (bdc b).toArray] w fun e w' => e = .returned (.agg #[.int .i64 (ofF b.fs).m, .int .i64 (ofF b.fs).x, .int .i64 (ofF b.fs).y, .int .i64 (ofF b.fs).i]) ∧ Below w.heap.size w w' := by
  have cM := fun w' h => roff_b b.A b.cap b.fs ho.1 ho.2 w' h
  have hF := h.1
  clear ho h
  generalize (ofF b.fs).m = mm at *
  generalize (ofF b.fs).x = mx at *
  generalize (ofF b.fs).y = my at *
  generalize (ofF b.fs).i = mi at *
  go_enter Tryz.func20, Tryz.ntmps20
  go_upto_region 1 with fail
  refine wp_named ?_
  intro V hV
  have kb : blk V (w.heap.size) (bdc b).toArray 29 := by rw [hV]; exact bBkn
  have kR : blk V (w.heap.size + 1) #[.int .i64 0, .int .i64 0, .int .i64 0, .int .i64 0] 49 := by rw [hV]; exact bBkn
  have hbV : Below w.heap.size w V := by rw [hV]; exact bBel
  clear hV
  have hszV := hbV.size
  have ob := blk_older kb
  obtain ⟨cb0, cb1, cb2, cb3, cb4, cb5, cb6, cb7, cb8, cb9, cb10, cb11, cb12, cb13, cb14, cb15, cb16, cb17, cb18, cb19⟩ := bd_cells kb
  have oR := blk_older kR
  have ckR_0 := blk_cell kR 0
  have fkR_0 := blk_free kR 0
  have ckR_1 := blk_cell kR 1
  have fkR_1 := blk_free kR 1
  have ckR_2 := blk_cell kR 2
  have fkR_2 := blk_free kR 2
  have ckR_3 := blk_cell kR 3
  have fkR_3 := blk_free kR 3
  go_wp2_with (first | (go_at_call 69; with_reducible_and_instances refine Calls.mono (gw_at (cM _ (Fxs.to hF bBel))) ?_; rintro e w1 ⟨rfl, q, rfl⟩))
  refine post_named ?_
  intro Z hZ
  have kZ : blk Z (w.heap.size + 1) #[.int .i64 mm, .int .i64 mx, .int .i64 my, .int .i64 mi] 49 := by rw [hZ]; exact (by apply blk_of; (repeat (first | with_reducible exact kR | with_reducible apply blk_drew | with_reducible apply blk_gw | with_reducible apply blk_alloc | with_reducible apply blk_set | ((with_reducible apply blk_other); focus omega))); (first | rfl | simp))
  have hbZ : Below w.heap.size w Z := by rw [hZ]; exact bBel
  clear hZ
  have ckZ_0 := blk_cell kZ 0
  have ckZ_1 := blk_cell kZ 1
  have ckZ_2 := blk_cell kZ 2
  have ckZ_3 := blk_cell kZ 3
  exact bodyPost_ret (v := .agg #[.int .i64 mm, .int .i64 mx, .int .i64 my, .int .i64 mi]) (by simp [results, Tryz.results20, go_sem, ckZ_0, ckZ_1, ckZ_2, ckZ_3]) rfl ⟨rfl, hbZ⟩

set_option maxRecDepth 100000 in
set_option maxHeartbeats 16000000 in
theorem pwc_b (b : Bdy) (w : World) (ho : okL b) (h : BdIn w b) : Calls Tryz.prog 21 #[.agg (bdc b).toArray] w fun e w' => e = .returned (.agg #[.int .i64 (wcx b), .int .i64 (wcy b)]) ∧ Below w.heap.size w w' := by
  have cM := fun w' h => pmd_b b w' ho h
  have cT := fun w' => tapp_b b.px b.py b.pa (ofF b.fs).x (ofF b.fs).y w'
  have hIn := h
  clear ho h
  unfold wcx wcy
  generalize (ofF b.fs).m = mm at *
  generalize (ofF b.fs).x = mx at *
  generalize (ofF b.fs).y = my at *
  generalize (ofF b.fs).i = mi at *
  generalize tpx b.px b.pa mx my = X at *
  generalize tpy b.py b.pa mx my = Y at *
  go_enter Tryz.func21, Tryz.ntmps21
  go_upto_region 1 with fail
  refine wp_named ?_
  intro V hV
  have kb : blk V (w.heap.size) (bdc b).toArray 29 := by rw [hV]; exact bBkn
  have kR : blk V (w.heap.size + 1) #[.int .i64 0, .int .i64 0] 24 := by rw [hV]; exact bBkn
  have hbV : Below w.heap.size w V := by rw [hV]; exact bBel
  clear hV
  have hszV := hbV.size
  have ob := blk_older kb
  obtain ⟨cb0, cb1, cb2, cb3, cb4, cb5, cb6, cb7, cb8, cb9, cb10, cb11, cb12, cb13, cb14, cb15, cb16, cb17, cb18, cb19⟩ := bd_cells kb
  have oR := blk_older kR
  have ckR_0 := blk_cell kR 0
  have fkR_0 := blk_free kR 0
  have ckR_1 := blk_cell kR 1
  have fkR_1 := blk_free kR 1
  have hRb : ∀ w', (∃ q, w' = gw V q) → w'.rangeAt _ 0 (bdc b) := fun w' h' => by
    obtain ⟨q, rfl⟩ := h'
    exact rng_blk23 (blk_gw kb)
  refine wp_region_gw_tail 6 (by kernel_rfl) (by kernel_rfl) ?_
  simp only [List.take_succ_cons, List.take_zero, List.drop_succ_cons, List.drop_zero]
  repeat (first | (refine wpQuiet_load23 (by rfl) 29 _ rfl w.heap.size 0 rfl (bdc b) _ hRb Tryz.underlying29 rfl (bd_sizeC b) ?_; simp only [Act.put, List.setIfInBounds_toArray, List.set_cons_zero, List.set_cons_succ]) | go_big_quiet_step ((first | (go_at_call 19; with_reducible_and_instances exact gw_call (cM _ (BdIn.to hIn bBel))) | (go_at_call 70; with_reducible_and_instances exact gw_call (cT _)))))
  refine wpQuiet_nil ?_
  intro w1 hw1
  obtain ⟨q, rfl⟩ := hw1
  go_wp2_with fail
  refine post_named ?_
  intro Z hZ
  have kZ : blk Z (w.heap.size + 1) #[.int .i64 X, .int .i64 Y] 24 := by rw [hZ]; exact (by apply blk_of; (repeat (first | with_reducible exact kR | with_reducible apply blk_drew | with_reducible apply blk_gw | with_reducible apply blk_alloc | with_reducible apply blk_set | ((with_reducible apply blk_other); focus omega))); (first | rfl | simp))
  have hbZ : Below w.heap.size w Z := by rw [hZ]; exact bBel
  clear hZ
  have ckZ_0 := blk_cell kZ 0
  have ckZ_1 := blk_cell kZ 1
  exact bodyPost_ret (v := .agg #[.int .i64 X, .int .i64 Y]) (by simp [results, Tryz.results21, go_sem, ckZ_0, ckZ_1]) rfl ⟨rfl, hbZ⟩

set_option maxRecDepth 100000 in
set_option maxHeartbeats 16000000 in
theorem rwc_b (b : Bdy) (w : World) (ho : okL b) (h : BdIn w b) : Calls Tryz.prog 22 #[.agg (bdc b).toArray] w fun e w' => e = .returned (.agg #[.int .i64 (wcx b), .int .i64 (wcy b)]) ∧ Below w.heap.size w w' := by
  have cM := fun w' h => rmd_b b w' ho h
  have cT := fun w' => rtapp_b b.px b.py b.pa (ofF b.fs).x (ofF b.fs).y w'
  have hIn := h
  clear ho h
  unfold wcx wcy
  generalize (ofF b.fs).m = mm at *
  generalize (ofF b.fs).x = mx at *
  generalize (ofF b.fs).y = my at *
  generalize (ofF b.fs).i = mi at *
  generalize tpx b.px b.pa mx my = X at *
  generalize tpy b.py b.pa mx my = Y at *
  go_enter Tryz.func22, Tryz.ntmps22
  go_upto_region 1 with fail
  refine wp_named ?_
  intro V hV
  have kb : blk V (w.heap.size) (bdc b).toArray 29 := by rw [hV]; exact bBkn
  have kR : blk V (w.heap.size + 1) #[.int .i64 0, .int .i64 0] 24 := by rw [hV]; exact bBkn
  have hbV : Below w.heap.size w V := by rw [hV]; exact bBel
  clear hV
  have hszV := hbV.size
  have ob := blk_older kb
  obtain ⟨cb0, cb1, cb2, cb3, cb4, cb5, cb6, cb7, cb8, cb9, cb10, cb11, cb12, cb13, cb14, cb15, cb16, cb17, cb18, cb19⟩ := bd_cells kb
  have oR := blk_older kR
  have ckR_0 := blk_cell kR 0
  have fkR_0 := blk_free kR 0
  have ckR_1 := blk_cell kR 1
  have fkR_1 := blk_free kR 1
  have hRb : ∀ w', (∃ q, w' = gw V q) → w'.rangeAt _ 0 (bdc b) := fun w' h' => by
    obtain ⟨q, rfl⟩ := h'
    exact rng_blk23 (blk_gw kb)
  refine wp_region_gw_tail 6 (by kernel_rfl) (by kernel_rfl) ?_
  simp only [List.take_succ_cons, List.take_zero, List.drop_succ_cons, List.drop_zero]
  repeat (first | (refine wpQuiet_load23 (by rfl) 29 _ rfl w.heap.size 0 rfl (bdc b) _ hRb Tryz.underlying29 rfl (bd_sizeC b) ?_; simp only [Act.put, List.setIfInBounds_toArray, List.set_cons_zero, List.set_cons_succ]) | go_big_quiet_step ((first | (go_at_call 20; with_reducible_and_instances exact gw_call (cM _ (BdIn.to hIn bBel))) | (go_at_call 71; with_reducible_and_instances exact gw_call (cT _)))))
  refine wpQuiet_nil ?_
  intro w1 hw1
  obtain ⟨q, rfl⟩ := hw1
  go_wp2_with fail
  refine post_named ?_
  intro Z hZ
  have kZ : blk Z (w.heap.size + 1) #[.int .i64 X, .int .i64 Y] 24 := by rw [hZ]; exact (by apply blk_of; (repeat (first | with_reducible exact kR | with_reducible apply blk_drew | with_reducible apply blk_gw | with_reducible apply blk_alloc | with_reducible apply blk_set | ((with_reducible apply blk_other); focus omega))); (first | rfl | simp))
  have hbZ : Below w.heap.size w Z := by rw [hZ]; exact bBel
  clear hZ
  have ckZ_0 := blk_cell kZ 0
  have ckZ_1 := blk_cell kZ 1
  exact bodyPost_ret (v := .agg #[.int .i64 X, .int .i64 Y]) (by simp [results, Tryz.results22, go_sem, ckZ_0, ckZ_1]) rfl ⟨rfl, hbZ⟩

set_option maxRecDepth 100000 in
set_option maxHeartbeats 16000000 in
theorem psb_b (b : Bdy) (w : World) (ho : okL b) (h : BdIn w b) : Calls Tryz.prog 23 #[.agg (bdc b).toArray] w fun e w' => e = .returned (.agg #[.int .i64 b.vx, .int .i64 b.vy, .int .i64 b.av, .int .i64 (ivm b), .int .i64 (ivi b)]) ∧ Below w.heap.size w w' := by
  have cM := fun w' h => pmd_b b w' ho h
  have cI := fun w' => yinv_b (ofF b.fs).m (ofF b.fs).x (ofF b.fs).y (ofF b.fs).i b.k b.fix w'
  have hIn := h
  clear ho h
  unfold ivm ivi
  generalize (ofF b.fs).m = mm at *
  generalize (ofF b.fs).x = mx at *
  generalize (ofF b.fs).y = my at *
  generalize (ofF b.fs).i = mi at *
  generalize invM mm b.k = IM at *
  generalize invI mi b.k b.fix = II at *
  go_enter Tryz.func23, Tryz.ntmps23
  go_upto_region 1 with fail
  refine wp_named ?_
  intro V hV
  have kb : blk V (w.heap.size) (bdc b).toArray 29 := by rw [hV]; exact bBkn
  have kR : blk V (w.heap.size + 1) #[.int .i64 0, .int .i64 0, .int .i64 0, .int .i64 0, .int .i64 0] 53 := by rw [hV]; exact bBkn
  have hbV : Below w.heap.size w V := by rw [hV]; exact bBel
  clear hV
  have hszV := hbV.size
  have ob := blk_older kb
  obtain ⟨cb0, cb1, cb2, cb3, cb4, cb5, cb6, cb7, cb8, cb9, cb10, cb11, cb12, cb13, cb14, cb15, cb16, cb17, cb18, cb19⟩ := bd_cells kb
  have oR := blk_older kR
  have ckR_0 := blk_cell kR 0
  have fkR_0 := blk_free kR 0
  have ckR_1 := blk_cell kR 1
  have fkR_1 := blk_free kR 1
  have ckR_2 := blk_cell kR 2
  have fkR_2 := blk_free kR 2
  have ckR_3 := blk_cell kR 3
  have fkR_3 := blk_free kR 3
  have ckR_4 := blk_cell kR 4
  have fkR_4 := blk_free kR 4
  have hRb : ∀ w', (∃ q, w' = gw V q) → w'.rangeAt _ 0 (bdc b) := fun w' h' => by
    obtain ⟨q, rfl⟩ := h'
    exact rng_blk23 (blk_gw kb)
  refine wp_region_gw (by kernel_rfl) (by kernel_rfl) ?_
  repeat (first | (refine wpQuiet_load23 (by rfl) 29 _ rfl w.heap.size 0 rfl (bdc b) _ hRb Tryz.underlying29 rfl (bd_sizeC b) ?_; simp only [Act.put, List.setIfInBounds_toArray, List.set_cons_zero, List.set_cons_succ]) | go_big_quiet_step ((first | (go_at_call 19; with_reducible_and_instances exact gw_call (cM _ (BdIn.to hIn bBel))) | (go_at_call 72; with_reducible_and_instances exact gw_call (cI _)))))
  refine wpQuiet_nil ?_
  intro w1 hw1
  obtain ⟨q, rfl⟩ := hw1
  go_wp2_with fail
  refine post_named ?_
  intro Z hZ
  have kZ : blk Z (w.heap.size + 1) #[.int .i64 b.vx, .int .i64 b.vy, .int .i64 b.av, .int .i64 IM, .int .i64 II] 53 := by rw [hZ]; exact (by apply blk_of; (repeat (first | with_reducible exact kR | with_reducible apply blk_drew | with_reducible apply blk_gw | with_reducible apply blk_alloc | with_reducible apply blk_set | ((with_reducible apply blk_other); focus omega))); (first | rfl | simp))
  have hbZ : Below w.heap.size w Z := by rw [hZ]; exact bBel
  clear hZ
  have ckZ_0 := blk_cell kZ 0
  have ckZ_1 := blk_cell kZ 1
  have ckZ_2 := blk_cell kZ 2
  have ckZ_3 := blk_cell kZ 3
  have ckZ_4 := blk_cell kZ 4
  exact bodyPost_ret (v := .agg #[.int .i64 b.vx, .int .i64 b.vy, .int .i64 b.av, .int .i64 IM, .int .i64 II]) (by simp [results, Tryz.results23, go_sem, ckZ_0, ckZ_1, ckZ_2, ckZ_3, ckZ_4]) rfl ⟨rfl, hbZ⟩

set_option maxRecDepth 100000 in
set_option maxHeartbeats 16000000 in
theorem rsb_b (b : Bdy) (w : World) (ho : okL b) (h : BdIn w b) : Calls Tryz.prog 24 #[.agg (bdc b).toArray] w fun e w' => e = .returned (.agg #[.int .i64 b.vx, .int .i64 b.vy, .int .i64 b.av, .int .i64 (ivm b), .int .i64 (ivi b)]) ∧ Below w.heap.size w w' := by
  have cM := fun w' h => rmd_b b w' ho h
  have cI := fun w' => rinv_b (ofF b.fs).m (ofF b.fs).x (ofF b.fs).y (ofF b.fs).i b.k b.fix w'
  have hIn := h
  clear ho h
  unfold ivm ivi
  generalize (ofF b.fs).m = mm at *
  generalize (ofF b.fs).x = mx at *
  generalize (ofF b.fs).y = my at *
  generalize (ofF b.fs).i = mi at *
  generalize invM mm b.k = IM at *
  generalize invI mi b.k b.fix = II at *
  go_enter Tryz.func24, Tryz.ntmps24
  go_upto_region 1 with fail
  refine wp_named ?_
  intro V hV
  have kb : blk V (w.heap.size) (bdc b).toArray 29 := by rw [hV]; exact bBkn
  have kR : blk V (w.heap.size + 1) #[.int .i64 0, .int .i64 0, .int .i64 0, .int .i64 0, .int .i64 0] 53 := by rw [hV]; exact bBkn
  have hbV : Below w.heap.size w V := by rw [hV]; exact bBel
  clear hV
  have hszV := hbV.size
  have ob := blk_older kb
  obtain ⟨cb0, cb1, cb2, cb3, cb4, cb5, cb6, cb7, cb8, cb9, cb10, cb11, cb12, cb13, cb14, cb15, cb16, cb17, cb18, cb19⟩ := bd_cells kb
  have oR := blk_older kR
  have ckR_0 := blk_cell kR 0
  have fkR_0 := blk_free kR 0
  have ckR_1 := blk_cell kR 1
  have fkR_1 := blk_free kR 1
  have ckR_2 := blk_cell kR 2
  have fkR_2 := blk_free kR 2
  have ckR_3 := blk_cell kR 3
  have fkR_3 := blk_free kR 3
  have ckR_4 := blk_cell kR 4
  have fkR_4 := blk_free kR 4
  have hRb : ∀ w', (∃ q, w' = gw V q) → w'.rangeAt _ 0 (bdc b) := fun w' h' => by
    obtain ⟨q, rfl⟩ := h'
    exact rng_blk23 (blk_gw kb)
  refine wp_region_gw (by kernel_rfl) (by kernel_rfl) ?_
  repeat (first | (refine wpQuiet_load23 (by rfl) 29 _ rfl w.heap.size 0 rfl (bdc b) _ hRb Tryz.underlying29 rfl (bd_sizeC b) ?_; simp only [Act.put, List.setIfInBounds_toArray, List.set_cons_zero, List.set_cons_succ]) | go_big_quiet_step ((first | (go_at_call 20; with_reducible_and_instances exact gw_call (cM _ (BdIn.to hIn bBel))) | (go_at_call 73; with_reducible_and_instances exact gw_call (cI _)))))
  refine wpQuiet_nil ?_
  intro w1 hw1
  obtain ⟨q, rfl⟩ := hw1
  go_wp2_with fail
  refine post_named ?_
  intro Z hZ
  have kZ : blk Z (w.heap.size + 1) #[.int .i64 b.vx, .int .i64 b.vy, .int .i64 b.av, .int .i64 IM, .int .i64 II] 53 := by rw [hZ]; exact (by apply blk_of; (repeat (first | with_reducible exact kR | with_reducible apply blk_drew | with_reducible apply blk_gw | with_reducible apply blk_alloc | with_reducible apply blk_set | ((with_reducible apply blk_other); focus omega))); (first | rfl | simp))
  have hbZ : Below w.heap.size w Z := by rw [hZ]; exact bBel
  clear hZ
  have ckZ_0 := blk_cell kZ 0
  have ckZ_1 := blk_cell kZ 1
  have ckZ_2 := blk_cell kZ 2
  have ckZ_3 := blk_cell kZ 3
  have ckZ_4 := blk_cell kZ 4
  exact bodyPost_ret (v := .agg #[.int .i64 b.vx, .int .i64 b.vy, .int .i64 b.av, .int .i64 IM, .int .i64 II]) (by simp [results, Tryz.results24, go_sem, ckZ_0, ckZ_1, ckZ_2, ckZ_3, ckZ_4]) rfl ⟨rfl, hbZ⟩

set_option maxRecDepth 100000 in
set_option maxHeartbeats 16000000 in
theorem parm_b (b : Bdy) (px py : Int) (w : World) (ho : okL b) (h : BdIn w b) : Calls Tryz.prog 76 #[.agg (bdc b).toArray, .agg #[.int .i64 px, .int .i64 py]] w fun e w' => e = .returned (.agg #[.int .i64 (sub px (wcx b)), .int .i64 (sub py (wcy b))]) ∧ Below w.heap.size w w' := by
  have cW := fun w' h => pwc_b b w' ho h
  have cS := fun w' => vsub_b px py (wcx b) (wcy b) w'
  have hIn := h
  clear ho h
  generalize wcx b = X at *
  generalize wcy b = Y at *
  generalize sub px X = X2 at *
  generalize sub py Y = Y2 at *
  go_enter Tryz.func76, Tryz.ntmps76
  go_upto_region 1 with fail
  refine wp_named ?_
  intro V hV
  have kb : blk V (w.heap.size) (bdc b).toArray 29 := by rw [hV]; exact bBkn
  have kp : blk V (w.heap.size + 1) #[.int .i64 px, .int .i64 py] 24 := by rw [hV]; exact bBkn
  have kR : blk V (w.heap.size + 1 + 1) #[.int .i64 0, .int .i64 0] 24 := by rw [hV]; exact bBkn
  have hbV : Below w.heap.size w V := by rw [hV]; exact bBel
  clear hV
  have hszV := hbV.size
  have ob := blk_older kb
  obtain ⟨cb0, cb1, cb2, cb3, cb4, cb5, cb6, cb7, cb8, cb9, cb10, cb11, cb12, cb13, cb14, cb15, cb16, cb17, cb18, cb19⟩ := bd_cells kb
  have op := blk_older kp
  have cp0 := blk_cell kp 0
  have cp1 := blk_cell kp 1
  have oR := blk_older kR
  have ckR_0 := blk_cell kR 0
  have fkR_0 := blk_free kR 0
  have ckR_1 := blk_cell kR 1
  have fkR_1 := blk_free kR 1
  have hRb : ∀ w', (∃ q, w' = gw V q) → w'.rangeAt _ 0 (bdc b) := fun w' h' => by
    obtain ⟨q, rfl⟩ := h'
    exact rng_blk23 (blk_gw kb)
  refine wp_region_gw_tail 4 (by kernel_rfl) (by kernel_rfl) ?_
  simp only [List.take_succ_cons, List.take_zero, List.drop_succ_cons, List.drop_zero]
  repeat (first | (refine wpQuiet_load23 (by rfl) 29 _ rfl w.heap.size 0 rfl (bdc b) _ hRb Tryz.underlying29 rfl (bd_sizeC b) ?_; simp only [Act.put, List.setIfInBounds_toArray, List.set_cons_zero, List.set_cons_succ]) | go_big_quiet_step ((first | (go_at_call 21; with_reducible_and_instances exact gw_call (cW _ (BdIn.to hIn bBel))) | (go_at_call 97; with_reducible_and_instances exact gw_call (cS _)))))
  refine wpQuiet_nil ?_
  intro w1 hw1
  obtain ⟨q, rfl⟩ := hw1
  go_wp2_with fail
  refine post_named ?_
  intro Z hZ
  have kZ : blk Z (w.heap.size + 1 + 1) #[.int .i64 X2, .int .i64 Y2] 24 := by rw [hZ]; exact (by apply blk_of; (repeat (first | with_reducible exact kR | with_reducible apply blk_drew | with_reducible apply blk_gw | with_reducible apply blk_alloc | with_reducible apply blk_set | ((with_reducible apply blk_other); focus omega))); (first | rfl | simp))
  have hbZ : Below w.heap.size w Z := by rw [hZ]; exact bBel
  clear hZ
  have ckZ_0 := blk_cell kZ 0
  have ckZ_1 := blk_cell kZ 1
  exact bodyPost_ret (v := .agg #[.int .i64 X2, .int .i64 Y2]) (by simp [results, Tryz.results76, go_sem, ckZ_0, ckZ_1]) rfl ⟨rfl, hbZ⟩

set_option maxRecDepth 100000 in
set_option maxHeartbeats 16000000 in
theorem pva_b (b : Bdy) (px py : Int) (w : World) (ho : okL b) (h : BdIn w b) : Calls Tryz.prog 25 #[.agg (bdc b).toArray, .agg #[.int .i64 px, .int .i64 py]] w fun e w' => e = .returned (.agg #[.int .i64 (add b.vx (-mul b.av (sub py (wcy b)))), .int .i64 (add b.vy (mul b.av (sub px (wcx b))))]) ∧ Below w.heap.size w w' := by
  have cA := fun w' h => parm_b b px py w' ho h
  have hIn := h
  clear ho h
  generalize sub px (wcx b) = X2 at *
  generalize sub py (wcy b) = Y2 at *
  have cC := fun w' => vcs_b b.av X2 Y2 w'
  have cD := fun w' => vadd_b b.vx b.vy (-mul b.av Y2) (mul b.av X2) w'
  generalize add b.vx (-mul b.av Y2) = X3 at *
  generalize add b.vy (mul b.av X2) = Y3 at *
  generalize -mul b.av Y2 = X4 at *
  generalize mul b.av X2 = Y4 at *
  go_enter Tryz.func25, Tryz.ntmps25
  go_upto_region 1 with fail
  refine wp_named ?_
  intro V hV
  have kb : blk V (w.heap.size) (bdc b).toArray 29 := by rw [hV]; exact bBkn
  have kp : blk V (w.heap.size + 1) #[.int .i64 px, .int .i64 py] 24 := by rw [hV]; exact bBkn
  have kR : blk V (w.heap.size + 1 + 1) #[.int .i64 0, .int .i64 0] 24 := by rw [hV]; exact bBkn
  have hbV : Below w.heap.size w V := by rw [hV]; exact bBel
  clear hV
  have hszV := hbV.size
  have ob := blk_older kb
  obtain ⟨cb0, cb1, cb2, cb3, cb4, cb5, cb6, cb7, cb8, cb9, cb10, cb11, cb12, cb13, cb14, cb15, cb16, cb17, cb18, cb19⟩ := bd_cells kb
  have op := blk_older kp
  have cp0 := blk_cell kp 0
  have cp1 := blk_cell kp 1
  have oR := blk_older kR
  have ckR_0 := blk_cell kR 0
  have fkR_0 := blk_free kR 0
  have ckR_1 := blk_cell kR 1
  have fkR_1 := blk_free kR 1
  have hRb : ∀ w', (∃ q, w' = gw V q) → w'.rangeAt _ 0 (bdc b) := fun w' h' => by
    obtain ⟨q, rfl⟩ := h'
    exact rng_blk23 (blk_gw kb)
  refine wp_region_gw_tail 9 (by kernel_rfl) (by kernel_rfl) ?_
  simp only [List.take_succ_cons, List.take_zero, List.drop_succ_cons, List.drop_zero]
  repeat (first | (refine wpQuiet_load23 (by rfl) 29 _ rfl w.heap.size 0 rfl (bdc b) _ hRb Tryz.underlying29 rfl (bd_sizeC b) ?_; simp only [Act.put, List.setIfInBounds_toArray, List.set_cons_zero, List.set_cons_succ]) | go_big_quiet_step ((first | (go_at_call 76; with_reducible_and_instances exact gw_call (cA _ (BdIn.to hIn bBel))) | (go_at_call 75; with_reducible_and_instances exact gw_call (cC _)) | (go_at_call 74; with_reducible_and_instances exact gw_call (cD _)))))
  refine wpQuiet_nil ?_
  intro w1 hw1
  obtain ⟨q, rfl⟩ := hw1
  go_wp2_with fail
  refine post_named ?_
  intro Z hZ
  have kZ : blk Z (w.heap.size + 1 + 1) #[.int .i64 X3, .int .i64 Y3] 24 := by rw [hZ]; exact (by apply blk_of; (repeat (first | with_reducible exact kR | with_reducible apply blk_drew | with_reducible apply blk_gw | with_reducible apply blk_alloc | with_reducible apply blk_set | ((with_reducible apply blk_other); focus omega))); (first | rfl | simp))
  have hbZ : Below w.heap.size w Z := by rw [hZ]; exact bBel
  clear hZ
  have ckZ_0 := blk_cell kZ 0
  have ckZ_1 := blk_cell kZ 1
  exact bodyPost_ret (v := .agg #[.int .i64 X3, .int .i64 Y3]) (by simp [results, Tryz.results25, go_sem, ckZ_0, ckZ_1]) rfl ⟨rfl, hbZ⟩

set_option maxRecDepth 100000 in
set_option maxHeartbeats 16000000 in
theorem rva_b (b : Bdy) (px py : Int) (w : World) (ho : okL b) (h : BdIn w b) : Calls Tryz.prog 26 #[.agg (bdc b).toArray, .agg #[.int .i64 px, .int .i64 py]] w fun e w' => e = .returned (.agg #[.int .i64 (add b.vx (-mul b.av (sub py (wcy b)))), .int .i64 (add b.vy (mul b.av (sub px (wcx b))))]) ∧ Below w.heap.size w w' := by
  have cA := fun w' h => rwc_b b w' ho h
  have cE := fun w' => rvsub_b px py (wcx b) (wcy b) w'
  have hIn := h
  clear ho h
  generalize wcx b = X0 at *
  generalize wcy b = Y0 at *
  generalize sub px X0 = X2 at *
  generalize sub py Y0 = Y2 at *
  have cC := fun w' => rvcs_b b.av X2 Y2 w'
  have cD := fun w' => rvadd_b b.vx b.vy (-mul b.av Y2) (mul b.av X2) w'
  generalize add b.vx (-mul b.av Y2) = X3 at *
  generalize add b.vy (mul b.av X2) = Y3 at *
  generalize -mul b.av Y2 = X4 at *
  generalize mul b.av X2 = Y4 at *
  go_enter Tryz.func26, Tryz.ntmps26
  go_upto_region 1 with fail
  refine wp_named ?_
  intro V hV
  have kb : blk V (w.heap.size) (bdc b).toArray 29 := by rw [hV]; exact bBkn
  have kp : blk V (w.heap.size + 1) #[.int .i64 px, .int .i64 py] 24 := by rw [hV]; exact bBkn
  have kR : blk V (w.heap.size + 1 + 1) #[.int .i64 0, .int .i64 0] 24 := by rw [hV]; exact bBkn
  have hbV : Below w.heap.size w V := by rw [hV]; exact bBel
  clear hV
  have hszV := hbV.size
  have ob := blk_older kb
  obtain ⟨cb0, cb1, cb2, cb3, cb4, cb5, cb6, cb7, cb8, cb9, cb10, cb11, cb12, cb13, cb14, cb15, cb16, cb17, cb18, cb19⟩ := bd_cells kb
  have op := blk_older kp
  have cp0 := blk_cell kp 0
  have cp1 := blk_cell kp 1
  have oR := blk_older kR
  have ckR_0 := blk_cell kR 0
  have fkR_0 := blk_free kR 0
  have ckR_1 := blk_cell kR 1
  have fkR_1 := blk_free kR 1
  have hRb : ∀ w', (∃ q, w' = gw V q) → w'.rangeAt _ 0 (bdc b) := fun w' h' => by
    obtain ⟨q, rfl⟩ := h'
    exact rng_blk23 (blk_gw kb)
  refine wp_region_gw_tail 10 (by kernel_rfl) (by kernel_rfl) ?_
  simp only [List.take_succ_cons, List.take_zero, List.drop_succ_cons, List.drop_zero]
  repeat (first | (refine wpQuiet_load23 (by rfl) 29 _ rfl w.heap.size 0 rfl (bdc b) _ hRb Tryz.underlying29 rfl (bd_sizeC b) ?_; simp only [Act.put, List.setIfInBounds_toArray, List.set_cons_zero, List.set_cons_succ]) | go_big_quiet_step ((first | (go_at_call 22; with_reducible_and_instances exact gw_call (cA _ (BdIn.to hIn bBel))) | (go_at_call 79; with_reducible_and_instances exact gw_call (cE _)) | (go_at_call 78; with_reducible_and_instances exact gw_call (cC _)) | (go_at_call 77; with_reducible_and_instances exact gw_call (cD _)))))
  refine wpQuiet_nil ?_
  intro w1 hw1
  obtain ⟨q, rfl⟩ := hw1
  go_wp2_with fail
  refine post_named ?_
  intro Z hZ
  have kZ : blk Z (w.heap.size + 1 + 1) #[.int .i64 X3, .int .i64 Y3] 24 := by rw [hZ]; exact (by apply blk_of; (repeat (first | with_reducible exact kR | with_reducible apply blk_drew | with_reducible apply blk_gw | with_reducible apply blk_alloc | with_reducible apply blk_set | ((with_reducible apply blk_other); focus omega))); (first | rfl | simp))
  have hbZ : Below w.heap.size w Z := by rw [hZ]; exact bBel
  clear hZ
  have ckZ_0 := blk_cell kZ 0
  have ckZ_1 := blk_cell kZ 1
  exact bodyPost_ret (v := .agg #[.int .i64 X3, .int .i64 Y3]) (by simp [results, Tryz.results26, go_sem, ckZ_0, ckZ_1]) rfl ⟨rfl, hbZ⟩


end Go.Proofs.YtdmcdicphohlfaaGreat
