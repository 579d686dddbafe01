/- Contracts of chapter 18's reference: CastCircle. -/
import Derived.Test.YtpdhfhcfjdnlpaaGreatCoD
import Derived.Test.YtpdhfhcfjdnlpaaGreatRb
set_option linter.unusedVariables false
namespace Go.Proofs.YtpdhfhcfjdnlpaaGreat
open Go.RowKit Fx

set_option maxRecDepth 100000 in
set_option maxHeartbeats 16000000 in
theorem rcc18_b (cx cy r fx0 fy0 gx0 gy0 t x y : Int) (b : Bool) (hH0 : castC cx cy r fx0 fy0 gx0 gy0 = ⟨t, x, y, b⟩) (w : World) : Calls Tryz.prog 14 #[.agg #[.int .i64 cx, .int .i64 cy], .int .i64 r, .agg #[.int .i64 fx0, .int .i64 fy0], .agg #[.int .i64 gx0, .int .i64 gy0]] w fun e w' => e = .returned (.tuple #[.int .i64 t, .agg #[.int .i64 x, .int .i64 y], .bool b]) ∧ Below w.heap.size w w' := by
  have hH := castC_ss cx cy r fx0 fy0 gx0 gy0
  rw [hH0] at hH
  clear hH0
  have cV := fun w' => rvsat_b fx0 fy0 w'
  have cW := fun w' => rvsat_b gx0 gy0 w'
  generalize sat fx0 = fx at *
  generalize sat fy0 = fy at *
  generalize sat gx0 = gx at *
  generalize sat gy0 = gy at *
  have cD := fun w' => rvsub_b gx gy fx fy w'
  have cM := fun w' => rvsub_b cx cy fx fy w'
  have k1 := @castC_1 cx cy r fx fy gx gy
  have k2 := @castC_2 cx cy r fx fy gx gy
  have k3 := @castC_3 cx cy r fx fy gx gy
  rw [hH] at k1 k2 k3
  unfold ccH at k1 k2 k3
  unfold ccM at k2 k3
  unfold ccX ccY ccN at k3
  clear hH
  generalize sub gx fx = dx at *
  generalize sub gy fy = dy at *
  generalize sub cx fx = mx at *
  generalize sub cy fy = my at *
  have cL := fun w' => rvlen_b dx dy w'
  have cU := fun w' => rvnorm_b dx dy w'
  generalize vlen dx dy = l at *
  generalize unit dx l = u at *
  generalize unit dy l = v at *
  have cX := fun w' => rcross_b u v mx my w'
  have h0 := cross_ge u v mx my
  have h1 := cross_le u v mx my
  have cO := fun w' => rdot_b mx my u v w'
  generalize cross u v mx my = h at *
  generalize dot mx my u v = m at *
  have hsi := sq_in18 h0 h1 (by decide)
  unfold ccE at k2 k3
  go_enter Tryz.func14, Tryz.ntmps14
  go_upto_region 8 with (first | (go_at_call 44; (with_reducible show Calls _ _ #[.agg #[.int .i64 fx0, _]] _ _); refine Calls.mono (gw_at (cV _)) ?_; rintro e w1 ⟨rfl, qa, rfl⟩) | (go_at_call 44; (with_reducible show Calls _ _ #[.agg #[.int .i64 gx0, _]] _ _); refine Calls.mono (gw_at (cW _)) ?_; rintro e w1 ⟨rfl, qb, rfl⟩) | (go_at_call 41; (with_reducible show Calls _ _ #[.agg #[.int .i64 gx, _], _] _ _); refine Calls.mono (gw_at (cD _)) ?_; rintro e w1 ⟨rfl, qc, rfl⟩) | (go_at_call 40; refine Calls.mono (gw_at (cL _)) ?_; rintro e w1 ⟨rfl, qd, rfl⟩) | (go_at_call 45; refine Calls.mono (gw_at (cU _)) ?_; rintro e w1 ⟨rfl, qe, rfl⟩) | (go_at_call 41; (with_reducible show Calls _ _ #[.agg #[.int .i64 cx, _], _] _ _); refine Calls.mono (gw_at (cM _)) ?_; rintro e w1 ⟨rfl, qf, rfl⟩) | (go_at_call 46; refine Calls.mono (gw_at (cX _)) ?_; rintro e w1 ⟨rfl, qg, rfl⟩))
  refine wp_named ?_
  intro W hW
  have kC : blk W w.heap.size #[.int .i64 cx, .int .i64 cy] 27 := by rw [hW]; exact bBkn
  have kF : blk W (w.heap.size + 1) #[.int .i64 fx, .int .i64 fy] 27 := by rw [hW]; exact bBkn
  have kG : blk W (w.heap.size + 2) #[.int .i64 gx, .int .i64 gy] 27 := by rw [hW]; exact bBkn
  have kR : blk W (w.heap.size + 3) #[.int .i64 0, .int .i64 0] 27 := by rw [hW]; exact bBkn
  have kU : blk W (w.heap.size + 1 + 1 + 1 + 1 + qa.os.size + qb.os.size + qc.os.size + 1 + qd.os.size + qe.os.size) #[.int .i64 u, .int .i64 v] 27 := by rw [hW]; exact bBkn
  have kM : blk W (w.heap.size + 1 + 1 + 1 + 1 + qa.os.size + qb.os.size + qc.os.size + 1 + qd.os.size + qe.os.size + 1 + qf.os.size) #[.int .i64 mx, .int .i64 my] 27 := by rw [hW]; exact bBkn
  have hbW : Below w.heap.size w W := by rw [hW]; exact bBel
  have hszW := hbW.size
  clear hW cV cW cD cM cL cU cX
  generalize w.heap.size + 1 + 1 + 1 + 1 + qa.os.size + qb.os.size + qc.os.size + 1 + qd.os.size + qe.os.size + 1 + qf.os.size = BM at *
  generalize w.heap.size + 1 + 1 + 1 + 1 + qa.os.size + qb.os.size + qc.os.size + 1 + qd.os.size + qe.os.size = BU at *
  have okC := blk_older kC
  have ckC_0 : _ = some _ := blk_cell kC 0
  have ckC_1 : _ = some _ := blk_cell kC 1
  have fkC_0 := blk_free kC 0
  have fkC_1 := blk_free kC 1
  have okF := blk_older kF
  have ckF_0 : _ = some _ := blk_cell kF 0
  have ckF_1 : _ = some _ := blk_cell kF 1
  have fkF_0 := blk_free kF 0
  have fkF_1 := blk_free kF 1
  have okG := blk_older kG
  have ckG_0 : _ = some _ := blk_cell kG 0
  have ckG_1 : _ = some _ := blk_cell kG 1
  have fkG_0 := blk_free kG 0
  have fkG_1 := blk_free kG 1
  have okR := blk_older kR
  have ckR_0 : _ = some _ := blk_cell kR 0
  have ckR_1 : _ = some _ := blk_cell kR 1
  have fkR_0 := blk_free kR 0
  have fkR_1 := blk_free kR 1
  have okM := blk_older kM
  have ckM_0 : _ = some _ := blk_cell kM 0
  have ckM_1 : _ = some _ := blk_cell kM 1
  have fkM_0 := blk_free kM 0
  have fkM_1 := blk_free kM 1
  have okU := blk_older kU
  have ckU_0 : _ = some _ := blk_cell kU 0
  have ckU_1 : _ = some _ := blk_cell kU 1
  have fkU_0 := blk_free kU 0
  have fkU_1 := blk_free kU 1
  have none1 : ∀ (hc : l = 0 ∨ r < 0 ∨ 536870911 < r ∨ r < max h (-h)), Hid (t = 0) ∧ Hid (x = 0) ∧ Hid (y = 0) ∧ Hid (b = false) := fun hc => by have := k1 hc; injection this; exact ⟨by assumption, by assumption, by assumption, by assumption⟩
  by_cases c1 : l = 0
  · obtain ⟨n0, n1, n2, n3⟩ := none1 (.inl c1)
    have b1 : (l == 0) = true := by rw [beq_iff_eq]; exact c1
    clear k1 k2 k3 none1 c1
    go_wp2_with fail
    refine post_named ?_
    intro Z hZ
    have kZ : blk Z (w.heap.size + 3) #[.int .i64 0, .int .i64 0] 27 := by rw [hZ]; exact (by apply blk_of; (repeat (first | with_reducible exact kR | with_reducible apply blk_drew | with_reducible apply blk_gw | with_reducible apply blk_alloc | with_reducible apply blk_set | ((with_reducible apply blk_other); focus omega))); (first | rfl | simp))
    have hbZ : Below w.heap.size w Z := by rw [hZ]; exact bBel
    clear hZ
    have okZ := blk_older kZ
    have ckZ_0 : _ = some _ := blk_cell kZ 0
    have ckZ_1 : _ = some _ := blk_cell kZ 1
    have fkZ_0 := blk_free kZ 0
    have fkZ_1 := blk_free kZ 1
    refine bodyPost_ret (v := .tuple #[.int .i64 0, .agg #[.int .i64 0, .int .i64 0], .bool false]) (by simp [results, Tryz.results14, go_sem, ckZ_0, ckZ_1]) rfl ⟨by rw [n0.out, n1.out, n2.out, n3.out], hbZ⟩
  have b1 : (l == 0) = false := by rw [beq_eq_false_iff_ne]; exact c1
  by_cases c2 : r < 0
  · obtain ⟨n0, n1, n2, n3⟩ := none1 (.inr (.inl c2))
    clear k1 k2 k3 none1 c1
    go_wp2_with fail
    refine post_named ?_
    intro Z hZ
    have kZ : blk Z (w.heap.size + 3) #[.int .i64 0, .int .i64 0] 27 := by rw [hZ]; exact (by apply blk_of; (repeat (first | with_reducible exact kR | with_reducible apply blk_drew | with_reducible apply blk_gw | with_reducible apply blk_alloc | with_reducible apply blk_set | ((with_reducible apply blk_other); focus omega))); (first | rfl | simp))
    have hbZ : Below w.heap.size w Z := by rw [hZ]; exact bBel
    clear hZ
    have okZ := blk_older kZ
    have ckZ_0 : _ = some _ := blk_cell kZ 0
    have ckZ_1 : _ = some _ := blk_cell kZ 1
    have fkZ_0 := blk_free kZ 0
    have fkZ_1 := blk_free kZ 1
    refine bodyPost_ret (v := .tuple #[.int .i64 0, .agg #[.int .i64 0, .int .i64 0], .bool false]) (by simp [results, Tryz.results14, go_sem, ckZ_0, ckZ_1]) rfl ⟨by rw [n0.out, n1.out, n2.out, n3.out], hbZ⟩
  by_cases c3 : 536870911 < r
  · obtain ⟨n0, n1, n2, n3⟩ := none1 (.inr (.inr (.inl c3)))
    clear k1 k2 k3 none1 c1
    go_wp2_with fail
    refine post_named ?_
    intro Z hZ
    have kZ : blk Z (w.heap.size + 3) #[.int .i64 0, .int .i64 0] 27 := by rw [hZ]; exact (by apply blk_of; (repeat (first | with_reducible exact kR | with_reducible apply blk_drew | with_reducible apply blk_gw | with_reducible apply blk_alloc | with_reducible apply blk_set | ((with_reducible apply blk_other); focus omega))); (first | rfl | simp))
    have hbZ : Below w.heap.size w Z := by rw [hZ]; exact bBel
    clear hZ
    have okZ := blk_older kZ
    have ckZ_0 : _ = some _ := blk_cell kZ 0
    have ckZ_1 : _ = some _ := blk_cell kZ 1
    have fkZ_0 := blk_free kZ 0
    have fkZ_1 := blk_free kZ 1
    refine bodyPost_ret (v := .tuple #[.int .i64 0, .agg #[.int .i64 0, .int .i64 0], .bool false]) (by simp [results, Tryz.results14, go_sem, ckZ_0, ckZ_1]) rfl ⟨by rw [n0.out, n1.out, n2.out, n3.out], hbZ⟩
  by_cases c4 : r < h
  · obtain ⟨n0, n1, n2, n3⟩ := none1 (.inr (.inr (.inr (by omega))))
    clear k1 k2 k3 none1 c1
    go_wp2_with fail
    refine post_named ?_
    intro Z hZ
    have kZ : blk Z (w.heap.size + 3) #[.int .i64 0, .int .i64 0] 27 := by rw [hZ]; exact (by apply blk_of; (repeat (first | with_reducible exact kR | with_reducible apply blk_drew | with_reducible apply blk_gw | with_reducible apply blk_alloc | with_reducible apply blk_set | ((with_reducible apply blk_other); focus omega))); (first | rfl | simp))
    have hbZ : Below w.heap.size w Z := by rw [hZ]; exact bBel
    clear hZ
    have okZ := blk_older kZ
    have ckZ_0 : _ = some _ := blk_cell kZ 0
    have ckZ_1 : _ = some _ := blk_cell kZ 1
    have fkZ_0 := blk_free kZ 0
    have fkZ_1 := blk_free kZ 1
    refine bodyPost_ret (v := .tuple #[.int .i64 0, .agg #[.int .i64 0, .int .i64 0], .bool false]) (by simp [results, Tryz.results14, go_sem, ckZ_0, ckZ_1]) rfl ⟨by rw [n0.out, n1.out, n2.out, n3.out], hbZ⟩
  by_cases c4' : r < -h
  · obtain ⟨n0, n1, n2, n3⟩ := none1 (.inr (.inr (.inr (by omega))))
    clear k1 k2 k3 none1 c1
    go_wp2_with fail
    refine post_named ?_
    intro Z hZ
    have kZ : blk Z (w.heap.size + 3) #[.int .i64 0, .int .i64 0] 27 := by rw [hZ]; exact (by apply blk_of; (repeat (first | with_reducible exact kR | with_reducible apply blk_drew | with_reducible apply blk_gw | with_reducible apply blk_alloc | with_reducible apply blk_set | ((with_reducible apply blk_other); focus omega))); (first | rfl | simp))
    have hbZ : Below w.heap.size w Z := by rw [hZ]; exact bBel
    clear hZ
    have okZ := blk_older kZ
    have ckZ_0 : _ = some _ := blk_cell kZ 0
    have ckZ_1 : _ = some _ := blk_cell kZ 1
    have fkZ_0 := blk_free kZ 0
    have fkZ_1 := blk_free kZ 1
    refine bodyPost_ret (v := .tuple #[.int .i64 0, .agg #[.int .i64 0, .int .i64 0], .bool false]) (by simp [results, Tryz.results14, go_sem, ckZ_0, ckZ_1]) rfl ⟨by rw [n0.out, n1.out, n2.out, n3.out], hbZ⟩
  have k4 := k3 (by omega)
  clear k1 k3 none1 c1
  have hri := sq_in18 (x := r) (m := 536870911) (by omega) (by omega) (by decide)
  have cI := fun w' => risq_b (r * r - h * h) w'
  generalize isq (r * r - h * h) = s at *
  have cS := fun w' => rsub_b m s w'
  generalize sub m s = e at *
  have none2 : ∀ (hc : e < 0 ∨ l < e), Hid (t = 0) ∧ Hid (x = 0) ∧ Hid (y = 0) ∧ Hid (b = false) := fun hc => by have := k2 hc; injection this; exact ⟨by assumption, by assumption, by assumption, by assumption⟩
  go_upto_region 11 with (first | (go_at_call 48; refine Calls.mono (gw_at (cO _)) ?_; rintro e w1 ⟨rfl, q1, rfl⟩) | (go_at_call 49; refine Calls.mono (gw_at (cI _)) ?_; rintro e w1 ⟨rfl, q2, rfl⟩) | (go_at_call 47; refine Calls.mono (gw_at (cS _)) ?_; rintro e w1 ⟨rfl, q3, rfl⟩))
  by_cases c5 : e < 0
  · obtain ⟨n0, n1, n2, n3⟩ := none2 (.inl c5)
    clear k2 k4 none2
    go_wp2_with fail
    refine post_named ?_
    intro Z hZ
    have kZ : blk Z (w.heap.size + 3) #[.int .i64 0, .int .i64 0] 27 := by rw [hZ]; exact (by apply blk_of; (repeat (first | with_reducible exact kR | with_reducible apply blk_drew | with_reducible apply blk_gw | with_reducible apply blk_alloc | with_reducible apply blk_set | ((with_reducible apply blk_other); focus omega))); (first | rfl | simp))
    have hbZ : Below w.heap.size w Z := by rw [hZ]; exact bBel
    clear hZ
    have okZ := blk_older kZ
    have ckZ_0 : _ = some _ := blk_cell kZ 0
    have ckZ_1 : _ = some _ := blk_cell kZ 1
    have fkZ_0 := blk_free kZ 0
    have fkZ_1 := blk_free kZ 1
    refine bodyPost_ret (v := .tuple #[.int .i64 0, .agg #[.int .i64 0, .int .i64 0], .bool false]) (by simp [results, Tryz.results14, go_sem, ckZ_0, ckZ_1]) rfl ⟨by rw [n0.out, n1.out, n2.out, n3.out], hbZ⟩
  by_cases c6 : l < e
  · obtain ⟨n0, n1, n2, n3⟩ := none2 (.inr c6)
    clear k2 k4 none2
    go_wp2_with fail
    refine post_named ?_
    intro Z hZ
    have kZ : blk Z (w.heap.size + 3) #[.int .i64 0, .int .i64 0] 27 := by rw [hZ]; exact (by apply blk_of; (repeat (first | with_reducible exact kR | with_reducible apply blk_drew | with_reducible apply blk_gw | with_reducible apply blk_alloc | with_reducible apply blk_set | ((with_reducible apply blk_other); focus omega))); (first | rfl | simp))
    have hbZ : Below w.heap.size w Z := by rw [hZ]; exact bBel
    clear hZ
    have okZ := blk_older kZ
    have ckZ_0 : _ = some _ := blk_cell kZ 0
    have ckZ_1 : _ = some _ := blk_cell kZ 1
    have fkZ_0 := blk_free kZ 0
    have fkZ_1 := blk_free kZ 1
    refine bodyPost_ret (v := .tuple #[.int .i64 0, .agg #[.int .i64 0, .int .i64 0], .bool false]) (by simp [results, Tryz.results14, go_sem, ckZ_0, ckZ_1]) rfl ⟨by rw [n0.out, n1.out, n2.out, n3.out], hbZ⟩
  have k5 := k4 (by rintro (c | c) <;> contradiction)
  clear k2 k4 none2
  have cR := fun w' => rrt_b e l w'
  generalize ratio e l = f at *
  have cP := fun w' => rvlerp_b fx fy gx gy f w'
  generalize lerp fx gx f = ex at *
  generalize lerp fy gy f = ey at *
  have cT := fun w' => rvsub_b ex ey cx cy w'
  generalize sub ex cx = nx at *
  generalize sub ey cy = ny at *
  have cN := fun w' => rvnorm_b nx ny w'
  generalize unit nx (vlen nx ny) = ox at *
  generalize unit ny (vlen nx ny) = oy at *
  have n0 : Hid (t = f) := by injection k5
  have n1 : Hid (x = ox) := by injection k5
  have n2 : Hid (y = oy) := by injection k5
  have n3 : Hid (b = true) := by injection k5
  clear k5
  go_upto_region 14 with (go_at_call 50; refine Calls.mono (gw_at (cR _)) ?_; rintro e w1 ⟨rfl, q4, rfl⟩)
  refine wp_region_gw_tail 9 (by kernel_rfl) (by kernel_rfl) ?_
  simp only [List.take_succ_cons, List.take_zero, List.drop_succ_cons, List.drop_zero]
  repeat (go_big_quiet_step ((first | (go_at_call 51; with_reducible_and_instances exact gw_call (cP _)) | (go_at_call 41; with_reducible_and_instances exact gw_call (cT _)) | (go_at_call 45; with_reducible_and_instances exact gw_call (cN _)))))
  refine wpQuiet_nil ?_
  intro w1 hw1
  obtain ⟨q, rfl⟩ := hw1
  go_wp2_with fail
  refine post_named ?_
  intro Z hZ
  have kZ : blk Z (w.heap.size + 3) #[.int .i64 ox, .int .i64 oy] 27 := by rw [hZ]; exact (by apply blk_of; (repeat (first | with_reducible exact kR | with_reducible apply blk_drew | with_reducible apply blk_gw | with_reducible apply blk_alloc | with_reducible apply blk_set | ((with_reducible apply blk_other); focus omega))); (first | rfl | simp))
  have hbZ : Below w.heap.size w Z := by rw [hZ]; exact bBel
  clear hZ
  have okZ := blk_older kZ
  have ckZ_0 : _ = some _ := blk_cell kZ 0
  have ckZ_1 : _ = some _ := blk_cell kZ 1
  have fkZ_0 := blk_free kZ 0
  have fkZ_1 := blk_free kZ 1
  refine bodyPost_ret (v := .tuple #[.int .i64 f, .agg #[.int .i64 ox, .int .i64 oy], .bool true]) (by simp [results, Tryz.results14, go_sem, ckZ_0, ckZ_1]) rfl ⟨by rw [n0.out, n1.out, n2.out, n3.out], hbZ⟩

end Go.Proofs.YtpdhfhcfjdnlpaaGreat
