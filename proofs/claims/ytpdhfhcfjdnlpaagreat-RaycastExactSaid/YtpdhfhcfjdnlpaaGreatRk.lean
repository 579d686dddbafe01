/- Contracts of chapter 18's program: castCapsule, Cast. -/
import Derived.Test.YtpdhfhcfjdnlpaaGreatRb
import Derived.Test.YtpdhfhcfjdnlpaaGreatRh
import Derived.Test.YtpdhfhcfjdnlpaaGreatRp
set_option linter.unusedVariables false
namespace Go.Proofs.YtpdhfhcfjdnlpaaGreat
open Go.RowKit Fx

theorem fstF_3 {a b c : Ht} (h : a.ok) : fstF [a, b, c] 3 = fst2 (fst2 a b) c := by
  show fst2 (fst2 (fst2 .no a) b) c = _
  rw [fst2_no h]

theorem ycc_h (cx cy r fx fy gx gy : Int) (H : Ht) (hH : castC cx cy r fx fy gx gy = H) (w : World) : Calls Tryz.prog 9 #[.agg #[.int .i64 cx, .int .i64 cy], .int .i64 r, .agg #[.int .i64 fx, .int .i64 fy], .agg #[.int .i64 gx, .int .i64 gy]] w fun e w' => e = .returned (.tuple #[.int .i64 H.t, .agg #[.int .i64 H.x, .int .i64 H.y], .bool H.b]) ∧ Below w.heap.size w w' := by
  cases H; exact ycc_b cx cy r fx fy gx gy _ _ _ _ hH w

theorem ycp_h (A : Option Addr) (cap : Nat) (ps : List (Int × Int)) (fx fy gx gy : Int) (H : Ht) (hl : ps.length ≤ 1000000) (hH : castP ps fx fy gx gy = H) (w : World) (hp : Pts w A ps) : Calls Tryz.prog 11 #[.slice A ps.length cap, .agg #[.int .i64 fx, .int .i64 fy], .agg #[.int .i64 gx, .int .i64 gy]] w fun e w' => e = .returned (.tuple #[.int .i64 H.t, .agg #[.int .i64 H.x, .int .i64 H.y], .bool H.b]) ∧ Below w.heap.size w w' := by
  cases H; exact ycp_b A cap ps fx fy gx gy _ _ _ _ hl hH w hp

set_option maxRecDepth 100000 in
set_option maxHeartbeats 16000000 in
theorem yck_b (px py qx qy r fx fy gx gy t x y : Int) (b : Bool) (hH : castK px py qx qy r fx fy gx gy = ⟨t, x, y, b⟩) (w : World) : Calls Tryz.prog 10 #[.agg #[.int .i64 px, .int .i64 py], .agg #[.int .i64 qx, .int .i64 qy], .int .i64 r, .agg #[.int .i64 fx, .int .i64 fy], .agg #[.int .i64 gx, .int .i64 gy]] w fun e w' => e = .returned (.tuple #[.int .i64 t, .agg #[.int .i64 x, .int .i64 y], .bool b]) ∧ Below w.heap.size w w' := by
  have cS := fun w' => vsub_b qx qy px py w'
  have c1 := fun w' => ycc_h px py r fx fy gx gy _ rfl w'
  have c2 := fun w' => ycc_h qx qy r fx fy gx gy _ rfl w'
  have ok1 := castC_ok px py r fx fy gx gy
  unfold castK cwX cwY at hH
  generalize sub qx px = dx at *
  generalize sub qy py = dy at *
  have cN := fun w' => vnorm_b dx dy w'
  generalize unit dx (vlen dx dy) = u at *
  generalize unit dy (vlen dx dy) = v at *
  have cP := fun w' => vperp_b u v w'
  generalize -sat v = u2 at *
  generalize sat u = v2 at *
  have cK := fun w' => vscale_b u2 v2 r w'
  generalize mul u2 r = wx at *
  generalize mul v2 r = wy at *
  have d1 := fun w' => vsub_b px py wx wy w'
  have d2 := fun w' => vsub_b qx qy wx wy w'
  have d3 := fun w' => vadd_b qx qy wx wy w'
  have d4 := fun w' => vadd_b px py wx wy w'
  unfold cw4 at hH
  generalize sub px wx = x1 at *
  generalize sub py wy = y1 at *
  generalize sub qx wx = x2 at *
  generalize sub qy wy = y2 at *
  generalize add qx wx = x3 at *
  generalize add qy wy = y3 at *
  generalize add px wx = x4 at *
  generalize add py wy = y4 at *
  have c3 : ∀ B w', blk w' B #[.int .i64 x1, .int .i64 y1, .int .i64 x2, .int .i64 y2, .int .i64 x3, .int .i64 y3, .int .i64 x4, .int .i64 y4] 27 → Calls Tryz.prog 11 #[.slice (some ⟨B, 0, none⟩) 4 4, .agg #[.int .i64 fx, .int .i64 fy], .agg #[.int .i64 gx, .int .i64 gy]] w' _ := fun B w' h => ycp_h (some ⟨B, 0, none⟩) 4 [(x1, y1), (x2, y2), (x3, y3), (x4, y4)] fx fy gx gy _ (by simp) rfl w' (pts4_of h)
  generalize castC px py r fx fy gx gy = h1 at *
  generalize castC qx qy r fx fy gx gy = h2 at *
  generalize castP [(x1, y1), (x2, y2), (x3, y3), (x4, y4)] fx fy gx gy = h3 at *
  rw [← fstF_3 ok1] at hH
  have cF : ∀ A w', Hts w' A [h1, h2, h3] → Calls Tryz.prog 34 #[.slice A 3 3] w' fun e w'' => e = .returned (.agg #[.int .i64 t, .int .i64 x, .int .i64 y, .bool b]) ∧ Below w'.heap.size w' w'' := fun A w' h => by
    have := yfst_b A 3 [h1, h2, h3] (by simp) w' h
    rw [show [h1, h2, h3].length = 3 from rfl, hH] at this
    exact this
  clear hH ok1
  obtain ⟨t1, a1, b1, f1⟩ := h1
  obtain ⟨t2, a2, b2, f2⟩ := h2
  obtain ⟨t3, a3, b3, f3⟩ := h3
  dsimp only at c1 c2 c3
  go_enter Tryz.func10, Tryz.ntmps10
  go_upto_region 2 with (first | (go_at_call 20; refine Calls.mono (gw_at (cS _)) ?_; rintro e w1 ⟨rfl, qa, rfl⟩) | (go_at_call 23; refine Calls.mono (gw_at (cN _)) ?_; rintro e w1 ⟨rfl, qb, rfl⟩) | (go_at_call 32; refine Calls.mono (gw_at (cP _)) ?_; rintro e w1 ⟨rfl, qc, rfl⟩) | (go_at_call 31; refine Calls.mono (gw_at (cK _)) ?_; rintro e w1 ⟨rfl, qd, rfl⟩))
  refine wp_named ?_
  intro W hW
  have kP : blk W w.heap.size #[.int .i64 px, .int .i64 py] 27 := by rw [hW]; exact bBkn
  have kQ : blk W (w.heap.size + 1) #[.int .i64 qx, .int .i64 qy] 27 := by rw [hW]; exact bBkn
  have kF : blk W (w.heap.size + 2) #[.int .i64 fx, .int .i64 fy] 27 := by rw [hW]; exact bBkn
  have kG : blk W (w.heap.size + 3) #[.int .i64 gx, .int .i64 gy] 27 := by rw [hW]; exact bBkn
  have kR : blk W (w.heap.size + 4) #[.int .i64 0, .int .i64 0] 27 := by rw [hW]; exact bBkn
  have kW : blk W (w.heap.size + 1 + 1 + 1 + 1 + 1 + qa.os.size + qb.os.size + qc.os.size + qd.os.size) #[.int .i64 wx, .int .i64 wy] 27 := by rw [hW]; exact bBkn
  have hbW : Below w.heap.size w W := by rw [hW]; exact bBel
  have hszW := hbW.size
  clear hW cS cN cP cK
  generalize w.heap.size + 1 + 1 + 1 + 1 + 1 + qa.os.size + qb.os.size + qc.os.size + qd.os.size = BW at *
  have okP := blk_older kP
  have ckP_0 : _ = some _ := blk_cell kP 0
  have ckP_1 : _ = some _ := blk_cell kP 1
  have fkP_0 := blk_free kP 0
  have fkP_1 := blk_free kP 1
  have okQ := blk_older kQ
  have ckQ_0 : _ = some _ := blk_cell kQ 0
  have ckQ_1 : _ = some _ := blk_cell kQ 1
  have fkQ_0 := blk_free kQ 0
  have fkQ_1 := blk_free kQ 1
  have okF := blk_older kF
  have ckF_0 : _ = some _ := blk_cell kF 0
  have ckF_1 : _ = some _ := blk_cell kF 1
  have fkF_0 := blk_free kF 0
  have fkF_1 := blk_free kF 1
  have okG := blk_older kG
  have ckG_0 : _ = some _ := blk_cell kG 0
  have ckG_1 : _ = some _ := blk_cell kG 1
  have fkG_0 := blk_free kG 0
  have fkG_1 := blk_free kG 1
  have okR := blk_older kR
  have ckR_0 : _ = some _ := blk_cell kR 0
  have ckR_1 : _ = some _ := blk_cell kR 1
  have fkR_0 := blk_free kR 0
  have fkR_1 := blk_free kR 1
  have okW := blk_older kW
  have ckW_0 : _ = some _ := blk_cell kW 0
  have ckW_1 : _ = some _ := blk_cell kW 1
  have fkW_0 := blk_free kW 0
  have fkW_1 := blk_free kW 1
  refine wp_region_gw_tail 12 (by kernel_rfl) (by kernel_rfl) ?_
  simp only [List.take_succ_cons, List.take_zero, List.drop_succ_cons, List.drop_zero]
  repeat (go_big_quiet_step ((first | (go_at_call 20; with_reducible_and_instances exact gw_call (d1 _)) | (go_at_call 20; with_reducible_and_instances exact gw_call (d2 _)) | (go_at_call 33; with_reducible_and_instances exact gw_call (d3 _)) | (go_at_call 33; with_reducible_and_instances exact gw_call (d4 _)))))
  refine wpQuiet_nil ?_
  intro w1 hw1
  obtain ⟨q, rfl⟩ := hw1
  go_upto_region 3 with fail
  refine wp_named ?_
  intro V hV
  have kP2 : blk V w.heap.size #[.int .i64 px, .int .i64 py] 27 := by rw [hV]; exact (by apply blk_of; (repeat (first | with_reducible exact kP | with_reducible apply blk_drew | with_reducible apply blk_gw | with_reducible apply blk_alloc | with_reducible apply blk_set | ((with_reducible apply blk_other); focus omega))); (first | rfl | simp))
  have kQ2 : blk V (w.heap.size + 1) #[.int .i64 qx, .int .i64 qy] 27 := by rw [hV]; exact (by apply blk_of; (repeat (first | with_reducible exact kQ | with_reducible apply blk_drew | with_reducible apply blk_gw | with_reducible apply blk_alloc | with_reducible apply blk_set | ((with_reducible apply blk_other); focus omega))); (first | rfl | simp))
  have kF2 : blk V (w.heap.size + 2) #[.int .i64 fx, .int .i64 fy] 27 := by rw [hV]; exact (by apply blk_of; (repeat (first | with_reducible exact kF | with_reducible apply blk_drew | with_reducible apply blk_gw | with_reducible apply blk_alloc | with_reducible apply blk_set | ((with_reducible apply blk_other); focus omega))); (first | rfl | simp))
  have kG2 : blk V (w.heap.size + 3) #[.int .i64 gx, .int .i64 gy] 27 := by rw [hV]; exact (by apply blk_of; (repeat (first | with_reducible exact kG | with_reducible apply blk_drew | with_reducible apply blk_gw | with_reducible apply blk_alloc | with_reducible apply blk_set | ((with_reducible apply blk_other); focus omega))); (first | rfl | simp))
  have kR2 : blk V (w.heap.size + 4) #[.int .i64 0, .int .i64 0] 27 := by rw [hV]; exact (by apply blk_of; (repeat (first | with_reducible exact kR | with_reducible apply blk_drew | with_reducible apply blk_gw | with_reducible apply blk_alloc | with_reducible apply blk_set | ((with_reducible apply blk_other); focus omega))); (first | rfl | simp))
  have kB2 : blk V (W.heap.size + q.os.size) #[.int .i64 x1, .int .i64 y1, .int .i64 x2, .int .i64 y2, .int .i64 x3, .int .i64 y3, .int .i64 x4, .int .i64 y4] 27 := by rw [hV]; exact bBkn
  have hbV : Below w.heap.size w V := by rw [hV]; exact bBel
  have hszV := hbV.size
  have hP4 := c3 _ V kB2
  have c3' : ∀ w', Below V.heap.size V w' → Calls Tryz.prog 11 #[.slice (some ⟨W.heap.size + q.os.size, 0, none⟩) 4 4, .agg #[.int .i64 fx, .int .i64 fy], .agg #[.int .i64 gx, .int .i64 gy]] w' fun e w'' => e = .returned (.tuple #[.int .i64 t3, .agg #[.int .i64 a3, .int .i64 b3], .bool f3]) ∧ Below w'.heap.size w' w'' := fun w' h => c3 _ w' (blk_to kB2 h)
  clear hV kP kQ kF kG kR kW okP ckP_0 ckP_1 fkP_0 fkP_1 okQ ckQ_0 ckQ_1 fkQ_0 fkQ_1 okF ckF_0 ckF_1 fkF_0 fkF_1 okG ckG_0 ckG_1 fkG_0 fkG_1 okR ckR_0 ckR_1 fkR_0 fkR_1 okW ckW_0 ckW_1 fkW_0 fkW_1 d1 d2 d3 d4 c3 hP4
  generalize W.heap.size + q.os.size = BB at *
  have okP2 := blk_older kP2
  have ckP2_0 : _ = some _ := blk_cell kP2 0
  have ckP2_1 : _ = some _ := blk_cell kP2 1
  have fkP2_0 := blk_free kP2 0
  have fkP2_1 := blk_free kP2 1
  have okQ2 := blk_older kQ2
  have ckQ2_0 : _ = some _ := blk_cell kQ2 0
  have ckQ2_1 : _ = some _ := blk_cell kQ2 1
  have fkQ2_0 := blk_free kQ2 0
  have fkQ2_1 := blk_free kQ2 1
  have okF2 := blk_older kF2
  have ckF2_0 : _ = some _ := blk_cell kF2 0
  have ckF2_1 : _ = some _ := blk_cell kF2 1
  have fkF2_0 := blk_free kF2 0
  have fkF2_1 := blk_free kF2 1
  have okG2 := blk_older kG2
  have ckG2_0 : _ = some _ := blk_cell kG2 0
  have ckG2_1 : _ = some _ := blk_cell kG2 1
  have fkG2_0 := blk_free kG2 0
  have fkG2_1 := blk_free kG2 1
  have okR2 := blk_older kR2
  have ckR2_0 : _ = some _ := blk_cell kR2 0
  have ckR2_1 : _ = some _ := blk_cell kR2 1
  have fkR2_0 := blk_free kR2 0
  have fkR2_1 := blk_free kR2 1
  first
    | (refine wp_mix 14 [0, 0, 3, 0, 0, 31, 0, 0, 255, 0, 0, 2047, 4095, 8191] [] [0, 1, 2, 3, 4, 5, 6, 7, 8, 9, 10, 11, 12, 13] (by kernel_rfl) (by decide +kernel) ?_)
    | (refine wp_mix 29 [0, 0, 0, 0, 15, 31, 31, 31, 255, 0, 0, 0, 0, 8191, 16383, 16383, 16383, 131071, 0, 0, 0, 2097151, 4194303, 4194303, 4194303, 33554431, 67108863, 134217727, 0, 536870911] [] [0, 1, 2, 3, 4, 5, 6, 7, 8, 9, 10, 11, 12, 13, 14, 15, 16, 17, 18, 19, 20, 21, 22, 23, 24, 25, 26, 27, 28] (by kernel_rfl) (by decide +kernel) ?_)
    | (refine wp_mix 7 [0, 1, 0, 4, 0, 16, 3, 79, 255] [] [0, 1, 2, 3, 4, 5, 6] (by kernel_rfl) (by decide +kernel) ?_)
  first
    | (repeat (first | (refine mix_skip (by rfl) (by rfl) (by rfl) (by rfl) ?_) | (refine mix_early (by rfl) (by rfl) (by rfl) ?_; go_big_quiet_step (fail); with_reducible refine wpQuiet_nil ?_) | (refine mix_late (by rfl) (by rfl) (by rfl) ?_; go_big_quiet_step (fail); with_reducible refine wpQuiet_nil ?_) | (refine mix_call (by rfl) (by rfl) (by rfl) ?_; intro pM Qs hQs; go_wp2_with (first | (go_at_call 9; (with_reducible show Calls _ _ #[.agg #[.int .i64 px, .int .i64 py], _, _, _] _ _); refine Calls.mono (gw_at (c1 _)) ?_; rintro e w1 ⟨rfl, q1, rfl⟩) | (go_at_call 9; (with_reducible show Calls _ _ #[.agg #[.int .i64 qx, .int .i64 qy], _, _, _] _ _); refine Calls.mono (gw_at (c2 _)) ?_; rintro e w1 ⟨rfl, q2, rfl⟩) | (go_at_call 11; refine Calls.mono (gw_at (c3' _ bBel)) ?_; rintro e w1 ⟨rfl, q3, rfl⟩) | (go_at_call 35; refine Calls.mono (gw_at (yhit_b _ _ _ _ _)) ?_; rintro e w1 ⟨rfl, q4, rfl⟩) | (go_at_call 34; refine Calls.mono (gw_at (cF _ _ (Hts.to hHt bBel))) ?_; rintro e w1 ⟨rfl, qf, rfl⟩)); refine hQs _ _ bBel ?_)))
    | (repeat (first | (refine mix_skip (by rfl) (by rfl) (by rfl) (by rfl) ?_) | (refine mix_early (by rfl) (by rfl) (by rfl) ?_; go_big_quiet_step (fail); with_reducible refine wpQuiet_nil ?_) | (refine mix_late (by rfl) (by rfl) (by rfl) ?_; go_big_quiet_step (fail); with_reducible refine wpQuiet_nil ?_) | (refine mix_call (by rfl) (by rfl) (by rfl) ?_; intro pM Qs hQs; go_wp2_with (first | (go_at_call 9; (with_reducible show Calls _ _ #[.agg #[.int .i64 px, .int .i64 py], _, _, _] _ _); refine Calls.mono (gw_at (c1 _)) ?_; rintro e w1 ⟨rfl, q1, rfl⟩) | (go_at_call 9; (with_reducible show Calls _ _ #[.agg #[.int .i64 qx, .int .i64 qy], _, _, _] _ _); refine Calls.mono (gw_at (c2 _)) ?_; rintro e w1 ⟨rfl, q2, rfl⟩) | (go_at_call 11; refine Calls.mono (gw_at (c3' _ bBel)) ?_; rintro e w1 ⟨rfl, q3, rfl⟩) | (go_at_call 35; refine Calls.mono (gw_at (yhit_b _ _ _ _ _)) ?_; rintro e w1 ⟨rfl, q4, rfl⟩) | (go_at_call 34; refine Calls.mono (gw_at (cF _ _ (Hts.to hHt bBel))) ?_; rintro e w1 ⟨rfl, qf, rfl⟩)); refine hQs _ _ bBel ?_)))
    | (repeat (first | (refine mix_skip (by rfl) (by rfl) (by rfl) (by rfl) ?_) | (refine mix_early (by rfl) (by rfl) (by rfl) ?_; go_big_quiet_step (fail); with_reducible refine wpQuiet_nil ?_) | (refine mix_late (by rfl) (by rfl) (by rfl) ?_; go_big_quiet_step (fail); with_reducible refine wpQuiet_nil ?_) | (refine mix_call (by rfl) (by rfl) (by rfl) ?_; intro pM Qs hQs; go_wp2_with (first | (go_at_call 9; (with_reducible show Calls _ _ #[.agg #[.int .i64 px, .int .i64 py], _, _, _] _ _); refine Calls.mono (gw_at (c1 _)) ?_; rintro e w1 ⟨rfl, q1, rfl⟩) | (go_at_call 9; (with_reducible show Calls _ _ #[.agg #[.int .i64 qx, .int .i64 qy], _, _, _] _ _); refine Calls.mono (gw_at (c2 _)) ?_; rintro e w1 ⟨rfl, q2, rfl⟩) | (go_at_call 11; refine Calls.mono (gw_at (c3' _ bBel)) ?_; rintro e w1 ⟨rfl, q3, rfl⟩) | (go_at_call 35; refine Calls.mono (gw_at (yhit_b _ _ _ _ _)) ?_; rintro e w1 ⟨rfl, q4, rfl⟩) | (go_at_call 34; refine Calls.mono (gw_at (cF _ _ (Hts.to hHt bBel))) ?_; rintro e w1 ⟨rfl, qf, rfl⟩)); refine hQs _ _ bBel ?_)))
  refine mix_make #[.int .i64 t1, .int .i64 a1, .int .i64 b1, .bool f1, .int .i64 t2, .int .i64 a2, .int .i64 b2, .bool f2, .int .i64 t3, .int .i64 a3, .int .i64 b3, .bool f3] 55 (some 3) (by rfl) (by rfl) (by rfl) (by rfl) (fun w => by simp [go_sem, mval]) ?_
  intro b5 wb hbb kb hS
  obtain ⟨qb, rfl⟩ := gw_of_below hbb
  have hHt : Hts _ (some ⟨b5, 0, none⟩) [⟨t1, a1, b1, f1⟩, ⟨t2, a2, b2, f2⟩, ⟨t3, a3, b3, f3⟩] := hts_of_blk (t := 55) (by show blk _ _ #[.int .i64 t1, .int .i64 a1, .int .i64 b1, .bool f1, .int .i64 t2, .int .i64 a2, .int .i64 b2, .bool f2, .int .i64 t3, .int .i64 a3, .int .i64 b3, .bool f3] _; exact kb)
  clear hbb hS
  simp only [mval]
  first
    | (repeat (first | (refine mix_skip (by rfl) (by rfl) (by rfl) (by rfl) ?_) | (refine mix_early (by rfl) (by rfl) (by rfl) ?_; go_big_quiet_step (fail); with_reducible refine wpQuiet_nil ?_) | (refine mix_late (by rfl) (by rfl) (by rfl) ?_; go_big_quiet_step (fail); with_reducible refine wpQuiet_nil ?_) | (refine mix_call (by rfl) (by rfl) (by rfl) ?_; intro pM Qs hQs; go_wp2_with (first | (go_at_call 9; (with_reducible show Calls _ _ #[.agg #[.int .i64 px, .int .i64 py], _, _, _] _ _); refine Calls.mono (gw_at (c1 _)) ?_; rintro e w1 ⟨rfl, q1, rfl⟩) | (go_at_call 9; (with_reducible show Calls _ _ #[.agg #[.int .i64 qx, .int .i64 qy], _, _, _] _ _); refine Calls.mono (gw_at (c2 _)) ?_; rintro e w1 ⟨rfl, q2, rfl⟩) | (go_at_call 11; refine Calls.mono (gw_at (c3' _ bBel)) ?_; rintro e w1 ⟨rfl, q3, rfl⟩) | (go_at_call 35; refine Calls.mono (gw_at (yhit_b _ _ _ _ _)) ?_; rintro e w1 ⟨rfl, q4, rfl⟩) | (go_at_call 34; refine Calls.mono (gw_at (cF _ _ (Hts.to hHt bBel))) ?_; rintro e w1 ⟨rfl, qf, rfl⟩)); refine hQs _ _ bBel ?_)))
    | (repeat (first | (refine mix_skip (by rfl) (by rfl) (by rfl) (by rfl) ?_) | (refine mix_early (by rfl) (by rfl) (by rfl) ?_; go_big_quiet_step (fail); with_reducible refine wpQuiet_nil ?_) | (refine mix_late (by rfl) (by rfl) (by rfl) ?_; go_big_quiet_step (fail); with_reducible refine wpQuiet_nil ?_) | (refine mix_call (by rfl) (by rfl) (by rfl) ?_; intro pM Qs hQs; go_wp2_with (first | (go_at_call 9; (with_reducible show Calls _ _ #[.agg #[.int .i64 px, .int .i64 py], _, _, _] _ _); refine Calls.mono (gw_at (c1 _)) ?_; rintro e w1 ⟨rfl, q1, rfl⟩) | (go_at_call 9; (with_reducible show Calls _ _ #[.agg #[.int .i64 qx, .int .i64 qy], _, _, _] _ _); refine Calls.mono (gw_at (c2 _)) ?_; rintro e w1 ⟨rfl, q2, rfl⟩) | (go_at_call 11; refine Calls.mono (gw_at (c3' _ bBel)) ?_; rintro e w1 ⟨rfl, q3, rfl⟩) | (go_at_call 35; refine Calls.mono (gw_at (yhit_b _ _ _ _ _)) ?_; rintro e w1 ⟨rfl, q4, rfl⟩) | (go_at_call 34; refine Calls.mono (gw_at (cF _ _ (Hts.to hHt bBel))) ?_; rintro e w1 ⟨rfl, qf, rfl⟩)); refine hQs _ _ bBel ?_)))
    | (repeat (first | (refine mix_skip (by rfl) (by rfl) (by rfl) (by rfl) ?_) | (refine mix_early (by rfl) (by rfl) (by rfl) ?_; go_big_quiet_step (fail); with_reducible refine wpQuiet_nil ?_) | (refine mix_late (by rfl) (by rfl) (by rfl) ?_; go_big_quiet_step (fail); with_reducible refine wpQuiet_nil ?_) | (refine mix_call (by rfl) (by rfl) (by rfl) ?_; intro pM Qs hQs; go_wp2_with (first | (go_at_call 9; (with_reducible show Calls _ _ #[.agg #[.int .i64 px, .int .i64 py], _, _, _] _ _); refine Calls.mono (gw_at (c1 _)) ?_; rintro e w1 ⟨rfl, q1, rfl⟩) | (go_at_call 9; (with_reducible show Calls _ _ #[.agg #[.int .i64 qx, .int .i64 qy], _, _, _] _ _); refine Calls.mono (gw_at (c2 _)) ?_; rintro e w1 ⟨rfl, q2, rfl⟩) | (go_at_call 11; refine Calls.mono (gw_at (c3' _ bBel)) ?_; rintro e w1 ⟨rfl, q3, rfl⟩) | (go_at_call 35; refine Calls.mono (gw_at (yhit_b _ _ _ _ _)) ?_; rintro e w1 ⟨rfl, q4, rfl⟩) | (go_at_call 34; refine Calls.mono (gw_at (cF _ _ (Hts.to hHt bBel))) ?_; rintro e w1 ⟨rfl, qf, rfl⟩)); refine hQs _ _ bBel ?_)))
  refine mix_make #[.int .i64 0, .int .i64 0, .int .i64 0, .bool false] 55 none (by rfl) (by rfl) (by rfl) (by rfl) (fun w => by simp [go_sem, mval]) ?_
  intro b6 wc hbc kc hS6
  obtain ⟨qc, rfl⟩ := gw_of_below hbc
  have n6 : V.heap.size ≤ b6 := Nat.le_of_not_lt fun h => hS6 (by simp [h])
  clear hbc hS6
  simp only [mval]
  first
    | (refine mix_end ?_
       intro pE
       simp only [List.drop_succ_cons, List.drop_zero])
    | (refine mix_end ?_
       intro pE
       simp only [List.drop_succ_cons, List.drop_zero])
    | (refine mix_end ?_
       intro pE
       simp only [List.drop_succ_cons, List.drop_zero])
  have okc := blk_older kc
  have ckc_0 : _ = some _ := blk_cell kc 0
  have ckc_1 : _ = some _ := blk_cell kc 1
  have ckc_2 : _ = some _ := blk_cell kc 2
  have ckc_3 : _ = some _ := blk_cell kc 3
  have fkc_0 := blk_free kc 0
  have fkc_1 := blk_free kc 1
  have fkc_2 := blk_free kc 2
  have fkc_3 := blk_free kc 3
  go_upto_region 4 with fail
  have g0 : w.heap.size + 4 < b6 := by have := blk_lt kR2; omega
  refine wp_named ?_
  intro U hU
  have kR3 : blk U (w.heap.size + 4) #[.int .i64 0, .int .i64 0] 27 := by rw [hU]; exact (by apply blk_of; (repeat (first | with_reducible exact kR2 | with_reducible apply blk_drew | with_reducible apply blk_gw | with_reducible apply blk_alloc | with_reducible apply blk_set | ((with_reducible apply blk_other); focus omega))); (first | rfl | simp))
  have kH3 : blk U b6 #[.int .i64 t, .int .i64 x, .int .i64 y, .bool b] 55 := by rw [hU]; exact (by apply blk_of; (repeat (first | with_reducible exact kc | with_reducible apply blk_drew | with_reducible apply blk_gw | with_reducible apply blk_alloc | with_reducible apply blk_set | ((with_reducible apply blk_other); focus omega))); (first | rfl | simp))
  have hbU : Below w.heap.size w U := by rw [hU]; exact bBel
  have hszU := hbU.size
  clear hU kP2 kQ2 kF2 kG2 kR2 kB2 okP2 ckP2_0 ckP2_1 fkP2_0 fkP2_1 okQ2 ckQ2_0 ckQ2_1 fkQ2_0 fkQ2_1 okF2 ckF2_0 ckF2_1 fkF2_0 fkF2_1 okG2 ckG2_0 ckG2_1 fkG2_0 fkG2_1 okR2 ckR2_0 ckR2_1 fkR2_0 fkR2_1 c1 c2 c3' cF hHt kb kc okc ckc_0 ckc_1 ckc_2 ckc_3 fkc_0 fkc_1 fkc_2 fkc_3
  have okR3 := blk_older kR3
  have ckR3_0 : _ = some _ := blk_cell kR3 0
  have ckR3_1 : _ = some _ := blk_cell kR3 1
  have fkR3_0 := blk_free kR3 0
  have fkR3_1 := blk_free kR3 1
  have okH3 := blk_older kH3
  have ckH3_0 : _ = some _ := blk_cell kH3 0
  have ckH3_1 : _ = some _ := blk_cell kH3 1
  have ckH3_2 : _ = some _ := blk_cell kH3 2
  have ckH3_3 : _ = some _ := blk_cell kH3 3
  have fkH3_0 := blk_free kH3 0
  have fkH3_1 := blk_free kH3 1
  have fkH3_2 := blk_free kH3 2
  have fkH3_3 := blk_free kH3 3
  go_region
  go_wp2_with fail
  refine post_named ?_
  intro Z hZ
  have kZ : blk Z (w.heap.size + 4) #[.int .i64 x, .int .i64 y] 27 := by rw [hZ]; exact (by apply blk_of; (repeat (first | with_reducible exact kR3 | with_reducible apply blk_drew | with_reducible apply blk_gw | with_reducible apply blk_alloc | with_reducible apply blk_set | ((with_reducible apply blk_other); focus omega))); (first | rfl | simp))
  have hbZ : Below w.heap.size w Z := by rw [hZ]; exact bBel
  clear hZ
  have okZ := blk_older kZ
  have ckZ_0 : _ = some _ := blk_cell kZ 0
  have ckZ_1 : _ = some _ := blk_cell kZ 1
  have fkZ_0 := blk_free kZ 0
  have fkZ_1 := blk_free kZ 1
  refine bodyPost_ret (v := .tuple #[.int .i64 t, .agg #[.int .i64 x, .int .i64 y], .bool b]) (by simp [results, Tryz.results10, go_sem, ckZ_0, ckZ_1]) rfl ⟨rfl, hbZ⟩

theorem yck_h (px py qx qy r fx fy gx gy : Int) (H : Ht) (hH : castK px py qx qy r fx fy gx gy = H) (w : World) : Calls Tryz.prog 10 #[.agg #[.int .i64 px, .int .i64 py], .agg #[.int .i64 qx, .int .i64 qy], .int .i64 r, .agg #[.int .i64 fx, .int .i64 fy], .agg #[.int .i64 gx, .int .i64 gy]] w fun e w' => e = .returned (.tuple #[.int .i64 H.t, .agg #[.int .i64 H.x, .int .i64 H.y], .bool H.b]) ∧ Below w.heap.size w w' := by
  cases H; exact yck_b px py qx qy r fx fy gx gy _ _ _ _ hH w

theorem core_hp18 {K R : Int} {ps : List Pt} {px py a : Int} (hv : valS K R ps = 0) : 1 ≤ (core K R ps px py a).length ∧ (core K R ps px py a).length ≤ 8 ∧ (K = 2 → (core K R ps px py a).length = 2) := by
  rw [core_ok _ _ _ hv, List.length_map]
  exact ⟨(val_len hv).1, (val_len hv).2.1, (val_len hv).2.2.2.1⟩
/-- How a contract of a slice's result is used in a walk. -/
theorem hull18_ex {P : Program} {f : FuncId} {args : Array Value} {w : World} {R : List Pt} (h : Calls P f args w (HullR w R)) : Calls P f args w fun e w' => (∃ A' cap', e = .returned (.slice A' R.length cap') ∧ Pts w' A' R) ∧ ∃ q, w' = gw w q :=
  h.mono fun e w' ⟨⟨A', cap', h1, _, _, h4⟩, h2⟩ => ⟨⟨A', cap', h1, h4⟩, gw_of_below h2⟩

set_option maxRecDepth 100000 in
set_option maxHeartbeats 16000000 in
theorem ycast_b (K R : Int) (A : Option Addr) (cap : Nat) (ps : List (Int × Int)) (px py pa fx fy gx gy t x y : Int) (b : Bool) (hl : ps.length ≤ 1000000) (hk : ps.length ≤ cap) (hH : castS K R ps px py pa fx fy gx gy = ⟨t, x, y, b⟩) (w : World) (hp : Pts w A ps) : Calls Tryz.prog 5 #[.agg #[.int .i64 K, .int .i64 R, .slice A ps.length cap], .agg #[.int .i64 px, .int .i64 py, .int .i64 pa], .agg #[.int .i64 fx, .int .i64 fy], .agg #[.int .i64 gx, .int .i64 gy]] w fun e w' => e = .returned (.tuple #[.int .i64 t, .agg #[.int .i64 x, .int .i64 y], .bool b]) ∧ Below w.heap.size w w' := by
  have cX := fun w' h => hull18_ex (yvert_b K R A cap ps px py pa hl w' h hk)
  by_cases hv : valS K R ps = 0
  rotate_left
  focus
    rw [castS_bad _ _ _ _ _ _ _ hv] at hH
    cases hH
    rw [core_no _ _ _ hv] at cX
    clear hv
    go_enter Tryz.func5, Tryz.ntmps5
    go_wp2_with (go_at_call 7; refine Calls.mono (cX _ (Pts.to hp bBel)) ?_; rintro e w1 ⟨⟨A1, c1, rfl, hP1⟩, q1, rfl⟩)
    refine post_named ?_
    intro Z hZ
    have kZ : blk Z (w.heap.size + 4) #[.int .i64 0, .int .i64 0] 27 := by rw [hZ]; exact bBkn
    have hbZ : Below w.heap.size w Z := by rw [hZ]; exact bBel
    clear hZ
    have okZ := blk_older kZ
    have ckZ_0 : _ = some _ := blk_cell kZ 0
    have ckZ_1 : _ = some _ := blk_cell kZ 1
    have fkZ_0 := blk_free kZ 0
    have fkZ_1 := blk_free kZ 1
    refine bodyPost_ret (v := .tuple #[.int .i64 0, .agg #[.int .i64 0, .int .i64 0], .bool false]) (by simp [results, Tryz.results5, go_sem, ckZ_0, ckZ_1]) rfl ⟨rfl, hbZ⟩
  obtain ⟨h1, h8, h2⟩ := core_hp18 (px := px) (py := py) (a := pa) hv
  have hK := (valS_zero.1 hv).1
  have cC := fun w' h => ycon_b K R A cap ps px py pa fx fy hl w' h hk
  have hin := @castS_in K R ps px py pa fx fy gx gy
  have hto := @castS_to K R ps px py pa fx fy gx gy hv
  rw [hH] at hin hto
  clear hH hv
  generalize conS K R ps px py pa fx fy = C at *
  generalize core K R ps px py pa = L at *
  have b0 : ((L.length : Int) == 0) = false := by rw [beq_eq_false_iff_ne]; omega
  go_enter Tryz.func5, Tryz.ntmps5
  go_upto_region 2 with (go_at_call 7; refine Calls.mono (cX _ (Pts.to hp bBel)) ?_; rintro e w1 ⟨⟨A1, c1, rfl, hP1⟩, q1, rfl⟩)
  refine wp_named ?_
  intro W hW
  have kS : blk W w.heap.size #[.int .i64 K, .int .i64 R, .slice A ps.length cap] 25 := by rw [hW]; exact bBkn
  have kT : blk W (w.heap.size + 1) #[.int .i64 px, .int .i64 py, .int .i64 pa] 29 := by rw [hW]; exact bBkn
  have kF : blk W (w.heap.size + 2) #[.int .i64 fx, .int .i64 fy] 27 := by rw [hW]; exact bBkn
  have kG : blk W (w.heap.size + 3) #[.int .i64 gx, .int .i64 gy] 27 := by rw [hW]; exact bBkn
  have kR : blk W (w.heap.size + 4) #[.int .i64 0, .int .i64 0] 27 := by rw [hW]; exact bBkn
  have hbW : Below w.heap.size w W := by rw [hW]; exact bBel
  have hPL : Pts W A1 L := by rw [hW]; exact Pts.to hP1 bBel
  clear hW hP1 cX
  have hszW := hbW.size
  have okS := blk_older kS
  have ckS_0 : _ = some _ := blk_cell kS 0
  have ckS_1 : _ = some _ := blk_cell kS 1
  have ckS_2 : _ = some _ := blk_cell kS 2
  have fkS_0 := blk_free kS 0
  have fkS_1 := blk_free kS 1
  have fkS_2 := blk_free kS 2
  have okT := blk_older kT
  have ckT_0 : _ = some _ := blk_cell kT 0
  have ckT_1 : _ = some _ := blk_cell kT 1
  have ckT_2 : _ = some _ := blk_cell kT 2
  have fkT_0 := blk_free kT 0
  have fkT_1 := blk_free kT 1
  have fkT_2 := blk_free kT 2
  have okF := blk_older kF
  have ckF_0 : _ = some _ := blk_cell kF 0
  have ckF_1 : _ = some _ := blk_cell kF 1
  have fkF_0 := blk_free kF 0
  have fkF_1 := blk_free kF 1
  have okG := blk_older kG
  have ckG_0 : _ = some _ := blk_cell kG 0
  have ckG_1 : _ = some _ := blk_cell kG 1
  have fkG_0 := blk_free kG 0
  have fkG_1 := blk_free kG 1
  have okR := blk_older kR
  have ckR_0 : _ = some _ := blk_cell kR 0
  have ckR_1 : _ = some _ := blk_cell kR 1
  have fkR_0 := blk_free kR 0
  have fkR_1 := blk_free kR 1
  cases C
  rotate_left
  focus
    have hi := hin rfl
    have z0 : Hid (t = 0) := by injection hi
    have z1 : Hid (x = 0) := by injection hi
    have z2 : Hid (y = 0) := by injection hi
    have z3 : Hid (b = true) := by injection hi
    clear hi hin hto
    go_wp2_with (go_at_call 8; refine Calls.mono (gw_at (cC _ (Pts.to hp bBel))) ?_; rintro e w1 ⟨rfl, q2, rfl⟩)
    refine post_named ?_
    intro Z hZ
    have kZ : blk Z (w.heap.size + 4) #[.int .i64 0, .int .i64 0] 27 := by rw [hZ]; exact (by apply blk_of; (repeat (first | with_reducible exact kR | with_reducible apply blk_drew | with_reducible apply blk_gw | with_reducible apply blk_alloc | with_reducible apply blk_set | ((with_reducible apply blk_other); focus omega))); (first | rfl | simp))
    have hbZ : Below w.heap.size w Z := by rw [hZ]; exact bBel
    clear hZ
    have okZ := blk_older kZ
    have ckZ_0 : _ = some _ := blk_cell kZ 0
    have ckZ_1 : _ = some _ := blk_cell kZ 1
    have fkZ_0 := blk_free kZ 0
    have fkZ_1 := blk_free kZ 1
    refine bodyPost_ret (v := .tuple #[.int .i64 0, .agg #[.int .i64 0, .int .i64 0], .bool true]) (by simp [results, Tryz.results5, go_sem, ckZ_0, ckZ_1]) rfl ⟨by rw [z0.out, z1.out, z2.out, z3.out], hbZ⟩
  have hc := hto rfl
  clear hin hto
  obtain ⟨b1, off1, hA1, hc1⟩ := pts_open0 hPL (by omega)
  subst hA1
  have hcases : K = 1 ∨ K = 2 ∨ K = 3 := by omega
  clear hK
  rcases hcases with rfl | rfl | rfl
  · unfold castL at hc
    rw [if_pos rfl, hp_get (show 0 < L.length by omega)] at hc
    obtain ⟨d0, d1⟩ := hc1 0 (by omega)
    rw [Nat.zero_mul, Nat.add_zero] at d0 d1
    have od := older_of_cell d0
    have i0 : (0 : Int) < (L.length : Int) := by omega
    clear hc1
    generalize L[0].1 = u0 at *
    generalize L[0].2 = v0 at *
    have cc := fun w' => ycc_b u0 v0 R fx fy gx gy t x y b hc.symm w'
    clear hc
    go_upto_region 8 with (go_at_call 8; refine Calls.mono (gw_at (cC _ (Pts.to hp bBel))) ?_; rintro e w1 ⟨rfl, q2, rfl⟩)
    refine wp_region_gw_tail 12 (by kernel_rfl) (by kernel_rfl) ?_
    simp only [List.take_succ_cons, List.take_zero, List.drop_succ_cons, List.drop_zero]
    repeat (go_big_quiet_step ((first | (go_at_call 9; with_reducible_and_instances exact gw_call (cc _)))))
    refine wpQuiet_nil ?_
    intro w1 hw1
    obtain ⟨q, rfl⟩ := hw1
    go_wp2_with fail
    refine post_named ?_
    intro Z hZ
    have kZ : blk Z (w.heap.size + 4) #[.int .i64 x, .int .i64 y] 27 := by rw [hZ]; exact (by apply blk_of; (repeat (first | with_reducible exact kR | with_reducible apply blk_drew | with_reducible apply blk_gw | with_reducible apply blk_alloc | with_reducible apply blk_set | ((with_reducible apply blk_other); focus omega))); (first | rfl | simp))
    have hbZ : Below w.heap.size w Z := by rw [hZ]; exact bBel
    clear hZ
    have okZ := blk_older kZ
    have ckZ_0 : _ = some _ := blk_cell kZ 0
    have ckZ_1 : _ = some _ := blk_cell kZ 1
    have fkZ_0 := blk_free kZ 0
    have fkZ_1 := blk_free kZ 1
    refine bodyPost_ret (v := .tuple #[.int .i64 t, .agg #[.int .i64 x, .int .i64 y], .bool b]) (by simp [results, Tryz.results5, go_sem, ckZ_0, ckZ_1]) rfl ⟨rfl, hbZ⟩
  · unfold castL at hc
    have hL2 := h2 rfl
    rw [if_neg (by decide), if_pos rfl, hp_get (show 0 < L.length by omega), hp_get (show 1 < L.length by omega)] at hc
    obtain ⟨d0, d1⟩ := hc1 0 (by omega)
    obtain ⟨d2, d3⟩ := hc1 1 (by omega)
    rw [Nat.zero_mul, Nat.add_zero] at d0 d1
    rw [Nat.one_mul] at d2 d3
    have od := older_of_cell d0
    have i0 : (0 : Int) < (L.length : Int) := by omega
    have i1 : (1 : Int) < (L.length : Int) := by omega
    clear hc1 h2
    generalize L[0].1 = u0 at *
    generalize L[0].2 = v0 at *
    generalize L[1].1 = u1 at *
    generalize L[1].2 = v1 at *
    have cc := fun w' => yck_b u0 v0 u1 v1 R fx fy gx gy t x y b hc.symm w'
    clear hc
    go_upto_region 10 with (go_at_call 8; refine Calls.mono (gw_at (cC _ (Pts.to hp bBel))) ?_; rintro e w1 ⟨rfl, q2, rfl⟩)
    refine wp_region_gw_tail 15 (by kernel_rfl) (by kernel_rfl) ?_
    simp only [List.take_succ_cons, List.take_zero, List.drop_succ_cons, List.drop_zero]
    repeat (go_big_quiet_step ((first | (go_at_call 10; with_reducible_and_instances exact gw_call (cc _)))))
    refine wpQuiet_nil ?_
    intro w1 hw1
    obtain ⟨q, rfl⟩ := hw1
    go_wp2_with fail
    refine post_named ?_
    intro Z hZ
    have kZ : blk Z (w.heap.size + 4) #[.int .i64 x, .int .i64 y] 27 := by rw [hZ]; exact (by apply blk_of; (repeat (first | with_reducible exact kR | with_reducible apply blk_drew | with_reducible apply blk_gw | with_reducible apply blk_alloc | with_reducible apply blk_set | ((with_reducible apply blk_other); focus omega))); (first | rfl | simp))
    have hbZ : Below w.heap.size w Z := by rw [hZ]; exact bBel
    clear hZ
    have okZ := blk_older kZ
    have ckZ_0 : _ = some _ := blk_cell kZ 0
    have ckZ_1 : _ = some _ := blk_cell kZ 1
    have fkZ_0 := blk_free kZ 0
    have fkZ_1 := blk_free kZ 1
    refine bodyPost_ret (v := .tuple #[.int .i64 t, .agg #[.int .i64 x, .int .i64 y], .bool b]) (by simp [results, Tryz.results5, go_sem, ckZ_0, ckZ_1]) rfl ⟨rfl, hbZ⟩
  · unfold castL at hc
    rw [if_neg (by decide), if_neg (by decide)] at hc
    have cc := fun c1 w' h => ycp_b (some ⟨b1, off1, none⟩) c1 L fx fy gx gy t x y b (by omega) hc.symm w' h
    clear hc hc1 h2
    go_wp2_with (first | (go_at_call 8; refine Calls.mono (gw_at (cC _ (Pts.to hp bBel))) ?_; rintro e w1 ⟨rfl, q2, rfl⟩) | (go_at_call 11; refine Calls.mono (gw_at (cc _ _ (Pts.to hPL bBel))) ?_; rintro e w1 ⟨rfl, q3, rfl⟩))
    refine post_named ?_
    intro Z hZ
    have kZ : blk Z (w.heap.size + 4) #[.int .i64 x, .int .i64 y] 27 := by rw [hZ]; exact (by apply blk_of; (repeat (first | with_reducible exact kR | with_reducible apply blk_drew | with_reducible apply blk_gw | with_reducible apply blk_alloc | with_reducible apply blk_set | ((with_reducible apply blk_other); focus omega))); (first | rfl | simp))
    have hbZ : Below w.heap.size w Z := by rw [hZ]; exact bBel
    clear hZ
    have okZ := blk_older kZ
    have ckZ_0 : _ = some _ := blk_cell kZ 0
    have ckZ_1 : _ = some _ := blk_cell kZ 1
    have fkZ_0 := blk_free kZ 0
    have fkZ_1 := blk_free kZ 1
    refine bodyPost_ret (v := .tuple #[.int .i64 t, .agg #[.int .i64 x, .int .i64 y], .bool b]) (by simp [results, Tryz.results5, go_sem, ckZ_0, ckZ_1]) rfl ⟨rfl, hbZ⟩

theorem ycast_h (K R : Int) (A : Option Addr) (cap : Nat) (ps : List (Int × Int)) (px py pa fx fy gx gy : Int) (H : Ht) (hl : ps.length ≤ 1000000) (hk : ps.length ≤ cap) (hH : castS K R ps px py pa fx fy gx gy = H) (w : World) (hp : Pts w A ps) : Calls Tryz.prog 5 #[.agg #[.int .i64 K, .int .i64 R, .slice A ps.length cap], .agg #[.int .i64 px, .int .i64 py, .int .i64 pa], .agg #[.int .i64 fx, .int .i64 fy], .agg #[.int .i64 gx, .int .i64 gy]] w fun e w' => e = .returned (.tuple #[.int .i64 H.t, .agg #[.int .i64 H.x, .int .i64 H.y], .bool H.b]) ∧ Below w.heap.size w w' := by
  cases H; exact ycast_b K R A cap ps px py pa fx fy gx gy _ _ _ _ hl hk hH w hp

end Go.Proofs.YtpdhfhcfjdnlpaaGreat
