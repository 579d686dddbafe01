/- Contracts of chapter 18's program: CastCircle. -/
import Derived.Test.YtpdhfhcfjdnlpaaGreatCoD
import Derived.Test.YtpdhfhcfjdnlpaaGreatRa
set_option linter.unusedVariables false
namespace Go.Proofs.YtpdhfhcfjdnlpaaGreat
open Go.RowKit Fx

theorem yabs18_b (x : Int) (h0 : -536870911 ≤ x) (h1 : x ≤ 536870911) (w : World) : Calls Tryz.prog 24 #[.int .i64 x] w fun e w' => e = .returned (.int .i64 (max x (-x))) ∧ Below w.heap.size w w' := by
  go_enter Tryz.func24, Tryz.ntmps24
  go_wp2_with fail
  go_ret
  exact ⟨rfl, bBel⟩

theorem sq_in18 {x m : Int} (h0 : -m ≤ x) (h1 : x ≤ m) (hm : 0 ≤ m) : 0 ≤ x * x ∧ x * x ≤ m * m := by
  have := mul_between (a := x) (b := x) (A := m) (B := m) (by omega) (by omega) (by omega) (by omega)
  have := sq_nn x
  omega
theorem max_sq (h : Int) : max h (-h) * max h (-h) = h * h := by
  by_cases c : -h ≤ h
  · rw [Int.max_eq_left c]
  · rw [Int.max_eq_right (by omega)]; grind

set_option maxRecDepth 100000 in
set_option maxHeartbeats 16000000 in
theorem ycc_b (cx cy r fx fy gx gy t x y : Int) (b : Bool) (hH : castC cx cy r fx fy gx gy = ⟨t, x, y, b⟩) (w : World) : Calls Tryz.prog 9 #[.agg #[.int .i64 cx, .int .i64 cy], .int .i64 r, .agg #[.int .i64 fx, .int .i64 fy], .agg #[.int .i64 gx, .int .i64 gy]] w fun e w' => e = .returned (.tuple #[.int .i64 t, .agg #[.int .i64 x, .int .i64 y], .bool b]) ∧ Below w.heap.size w w' := by
  have cD := fun w' => vsub_b gx gy fx fy w'
  have cM := fun w' => vsub_b cx cy fx fy w'
  have k1 := @castC_1 cx cy r fx fy gx gy
  have k2 := @castC_2 cx cy r fx fy gx gy
  have k3 := @castC_3 cx cy r fx fy gx gy
  rw [hH] at k1 k2 k3
  unfold ccH at k1 k2 k3
  unfold ccM at k2 k3
  unfold ccX ccY ccN at k3
  clear hH
  generalize sub gx fx = dx at *
  generalize sub gy fy = dy at *
  generalize sub cx fx = mx at *
  generalize sub cy fy = my at *
  have cL := fun w' => vlen_b dx dy w'
  have cU := fun w' => vnorm_b dx dy w'
  generalize vlen dx dy = l at *
  generalize unit dx l = u at *
  generalize unit dy l = v at *
  have cX := fun w' => cross_b u v mx my w'
  have h0 := cross_ge u v mx my
  have h1 := cross_le u v mx my
  have cO := fun w' => dot_b mx my u v w'
  generalize cross u v mx my = h at *
  generalize dot mx my u v = m at *
  have cA := fun w' => yabs18_b h h0 h1 w'
  have hsq := max_sq h
  have hsi := sq_in18 h0 h1 (by decide)
  have hmx : 0 ≤ max h (-h) ∧ max h (-h) ≤ 536870911 := by omega
  unfold ccE at k2 k3
  rw [← hsq] at k2 k3 hsi
  clear hsq
  generalize max h (-h) = a at *
  clear h0 h1
  go_enter Tryz.func9, Tryz.ntmps9
  go_upto_region 1 with fail
  apply wp_box2 8 79 6 11 7 12 #[.int .i64 0, .int .i64 0] #[.int .i64 0, .int .i64 0] 27 27 (by kernel_rfl) (by rfl) (by kernel_rfl) (by rfl) (by intro o ho a w; simp at ho; subst ho; simp [go_sem, ptr]) (by intro o ho a w; simp at ho; subst ho; simp [go_sem, ptr])
  · intro p0
    simp only [heads, ghost, List.take_succ_cons, List.take_zero, List.map_cons, List.map_nil]
    repeat (go_big_quiet_step ((first | (go_at_call 20; with_reducible_and_instances exact gw_call (cD _)) | (go_at_call 20; with_reducible_and_instances exact gw_call (cM _)))))
    exact wpQuiet_nil rfl
  · intro R bB1 bB2 p0 nB1 nB2 gB1 gB2 neB01 neB01' kB1 kB2 hK
    simp only [List.drop_succ_cons, List.drop_zero, Act.put, ptr, List.setIfInBounds_toArray, List.set_cons_succ, List.set_cons_zero]
    have cB1_0 : _ = some _ := blk_cell kB1 0
    have cB1_1 : _ = some _ := blk_cell kB1 1
    have cB2_0 : _ = some _ := blk_cell kB2 0
    have cB2_1 : _ = some _ := blk_cell kB2 1
    have fB1_0 := blk_free kB1 0
    have fB1_1 := blk_free kB1 1
    have fB2_0 := blk_free kB2 0
    have fB2_1 := blk_free kB2 1
    have oB1 := blk_older kB1
    have oB2 := blk_older kB2
    go_wp2_with fail
    refine box_end2 gB1 gB2 hK ?_ ?_ ?_
    · exact bBel
    · exact (by repeat' (first | with_reducible assumption | with_reducible apply blk_gw | with_reducible apply blk_alloc | with_reducible apply blk_set | ((with_reducible apply blk_other); focus (first | omega | assumption))))
    · exact (by repeat' (first | with_reducible assumption | with_reducible apply blk_gw | with_reducible apply blk_alloc | with_reducible apply blk_set | ((with_reducible apply blk_other); focus (first | omega | assumption))))
  intro bB1 bB2 p0 nB1 nB2 neB01 neB01' kB1 kB2
  have cB1_0 : _ = some _ := blk_cell kB1 0
  have cB1_1 : _ = some _ := blk_cell kB1 1
  have cB2_0 : _ = some _ := blk_cell kB2 0
  have cB2_1 : _ = some _ := blk_cell kB2 1
  have fB1_0 := blk_free kB1 0
  have fB1_1 := blk_free kB1 1
  have fB2_0 := blk_free kB2 0
  have fB2_1 := blk_free kB2 1
  have oB1 := blk_older kB1
  have oB2 := blk_older kB2
  go_upto_region 2 with fail
  apply wp_box1 6 79 4 14 #[.int .i64 0, .int .i64 0] 27 (by kernel_rfl) (by rfl) (by kernel_rfl) (by intro o ho a w; simp at ho; subst ho; simp [go_sem, ptr])
  · intro p0
    simp only [heads, ghost, List.take_succ_cons, List.take_zero, List.map_cons, List.map_nil]
    repeat (go_big_quiet_step ((first | (go_at_call 19; with_reducible_and_instances exact gw_call (cL _)) | (go_at_call 23; with_reducible_and_instances exact gw_call (cU _)))))
    exact wpQuiet_nil rfl
  · intro R bB p0 nB gB  kB hK
    simp only [List.drop_succ_cons, List.drop_zero, Act.put, ptr, List.setIfInBounds_toArray, List.set_cons_succ, List.set_cons_zero]
    have cB_0 : _ = some _ := blk_cell kB 0
    have cB_1 : _ = some _ := blk_cell kB 1
    have fB_0 := blk_free kB 0
    have fB_1 := blk_free kB 1
    have oB := blk_older kB
    go_wp2_with fail
    refine box_end1 gB hK ?_ ?_
    · exact bBel
    · exact (by repeat' (first | with_reducible assumption | with_reducible apply blk_gw | with_reducible apply blk_alloc | with_reducible apply blk_set | ((with_reducible apply blk_other); focus (first | omega | assumption))))
  intro bB p0 nB  kB
  have cB_0 : _ = some _ := blk_cell kB 0
  have cB_1 : _ = some _ := blk_cell kB 1
  have fB_0 := blk_free kB 0
  have fB_1 := blk_free kB 1
  have oB := blk_older kB
  go_upto_region 4 with (first | (go_at_call 25; refine Calls.mono (gw_at (cX _)) ?_; rintro e w1 ⟨rfl, q1, rfl⟩) | (go_at_call 24; refine Calls.mono (gw_at (cA _)) ?_; rintro e w1 ⟨rfl, q2, rfl⟩))
  refine wp_named ?_
  intro W hW
  have kC : blk W w.heap.size #[.int .i64 cx, .int .i64 cy] 27 := by rw [hW]; exact bBkn
  have kF : blk W (w.heap.size + 1) #[.int .i64 fx, .int .i64 fy] 27 := by rw [hW]; exact bBkn
  have kG : blk W (w.heap.size + 2) #[.int .i64 gx, .int .i64 gy] 27 := by rw [hW]; exact bBkn
  have kR : blk W (w.heap.size + 3) #[.int .i64 0, .int .i64 0] 27 := by rw [hW]; exact bBkn
  have kM : blk W bB2 #[.int .i64 mx, .int .i64 my] 27 := by rw [hW]; exact (by apply blk_of; (repeat (first | with_reducible exact kB2 | with_reducible apply blk_drew | with_reducible apply blk_gw | with_reducible apply blk_alloc | with_reducible apply blk_set | ((with_reducible apply blk_other); focus omega))); (first | rfl | simp))
  have kU : blk W bB #[.int .i64 u, .int .i64 v] 27 := by rw [hW]; exact (by apply blk_of; (repeat (first | with_reducible exact kB | with_reducible apply blk_drew | with_reducible apply blk_gw | with_reducible apply blk_alloc | with_reducible apply blk_set | ((with_reducible apply blk_other); focus omega))); (first | rfl | simp))
  have hbW : Below w.heap.size w W := by rw [hW]; exact bBel
  have hszW := hbW.size
  clear hW kB1 kB2 kB nB1 nB2 nB cB1_0 cB1_1 cB2_0 cB2_1 fB1_0 fB1_1 fB2_0 fB2_1 oB1 oB2 cB_0 cB_1 fB_0 fB_1 oB cD cM cL cU cX cA
  have okC := blk_older kC
  have ckC_0 : _ = some _ := blk_cell kC 0
  have ckC_1 : _ = some _ := blk_cell kC 1
  have fkC_0 := blk_free kC 0
  have fkC_1 := blk_free kC 1
  have okF := blk_older kF
  have ckF_0 : _ = some _ := blk_cell kF 0
  have ckF_1 : _ = some _ := blk_cell kF 1
  have fkF_0 := blk_free kF 0
  have fkF_1 := blk_free kF 1
  have okG := blk_older kG
  have ckG_0 : _ = some _ := blk_cell kG 0
  have ckG_1 : _ = some _ := blk_cell kG 1
  have fkG_0 := blk_free kG 0
  have fkG_1 := blk_free kG 1
  have okR := blk_older kR
  have ckR_0 : _ = some _ := blk_cell kR 0
  have ckR_1 : _ = some _ := blk_cell kR 1
  have fkR_0 := blk_free kR 0
  have fkR_1 := blk_free kR 1
  have okM := blk_older kM
  have ckM_0 : _ = some _ := blk_cell kM 0
  have ckM_1 : _ = some _ := blk_cell kM 1
  have fkM_0 := blk_free kM 0
  have fkM_1 := blk_free kM 1
  have okU := blk_older kU
  have ckU_0 : _ = some _ := blk_cell kU 0
  have ckU_1 : _ = some _ := blk_cell kU 1
  have fkU_0 := blk_free kU 0
  have fkU_1 := blk_free kU 1
  have none1 : ∀ (hc : l = 0 ∨ r < 0 ∨ 536870911 < r ∨ r < a), Hid (t = 0) ∧ Hid (x = 0) ∧ Hid (y = 0) ∧ Hid (b = false) := fun hc => by have := k1 hc; injection this; exact ⟨by assumption, by assumption, by assumption, by assumption⟩
  by_cases c1 : l = 0
  · obtain ⟨n0, n1, n2, n3⟩ := none1 (.inl c1)
    have b1 : (l == 0) = true := by rw [beq_iff_eq]; exact c1
    clear k1 k2 k3 none1 c1
    go_wp2_with fail
    refine post_named ?_
    intro Z hZ
    have kZ : blk Z (w.heap.size + 3) #[.int .i64 0, .int .i64 0] 27 := by rw [hZ]; exact (by apply blk_of; (repeat (first | with_reducible exact kR | with_reducible apply blk_drew | with_reducible apply blk_gw | with_reducible apply blk_alloc | with_reducible apply blk_set | ((with_reducible apply blk_other); focus omega))); (first | rfl | simp))
    have hbZ : Below w.heap.size w Z := by rw [hZ]; exact bBel
    clear hZ
    have okZ := blk_older kZ
    have ckZ_0 : _ = some _ := blk_cell kZ 0
    have ckZ_1 : _ = some _ := blk_cell kZ 1
    have fkZ_0 := blk_free kZ 0
    have fkZ_1 := blk_free kZ 1
    refine bodyPost_ret (v := .tuple #[.int .i64 0, .agg #[.int .i64 0, .int .i64 0], .bool false]) (by simp [results, Tryz.results9, go_sem, ckZ_0, ckZ_1]) rfl ⟨by rw [n0.out, n1.out, n2.out, n3.out], hbZ⟩
  have b1 : (l == 0) = false := by rw [beq_eq_false_iff_ne]; exact c1
  by_cases c2 : r < 0
  · obtain ⟨n0, n1, n2, n3⟩ := none1 (.inr (.inl c2))
    clear k1 k2 k3 none1 c1
    go_wp2_with fail
    refine post_named ?_
    intro Z hZ
    have kZ : blk Z (w.heap.size + 3) #[.int .i64 0, .int .i64 0] 27 := by rw [hZ]; exact (by apply blk_of; (repeat (first | with_reducible exact kR | with_reducible apply blk_drew | with_reducible apply blk_gw | with_reducible apply blk_alloc | with_reducible apply blk_set | ((with_reducible apply blk_other); focus omega))); (first | rfl | simp))
    have hbZ : Below w.heap.size w Z := by rw [hZ]; exact bBel
    clear hZ
    have okZ := blk_older kZ
    have ckZ_0 : _ = some _ := blk_cell kZ 0
    have ckZ_1 : _ = some _ := blk_cell kZ 1
    have fkZ_0 := blk_free kZ 0
    have fkZ_1 := blk_free kZ 1
    refine bodyPost_ret (v := .tuple #[.int .i64 0, .agg #[.int .i64 0, .int .i64 0], .bool false]) (by simp [results, Tryz.results9, go_sem, ckZ_0, ckZ_1]) rfl ⟨by rw [n0.out, n1.out, n2.out, n3.out], hbZ⟩
  by_cases c3 : 536870911 < r
  · obtain ⟨n0, n1, n2, n3⟩ := none1 (.inr (.inr (.inl c3)))
    clear k1 k2 k3 none1 c1
    go_wp2_with fail
    refine post_named ?_
    intro Z hZ
    have kZ : blk Z (w.heap.size + 3) #[.int .i64 0, .int .i64 0] 27 := by rw [hZ]; exact (by apply blk_of; (repeat (first | with_reducible exact kR | with_reducible apply blk_drew | with_reducible apply blk_gw | with_reducible apply blk_alloc | with_reducible apply blk_set | ((with_reducible apply blk_other); focus omega))); (first | rfl | simp))
    have hbZ : Below w.heap.size w Z := by rw [hZ]; exact bBel
    clear hZ
    have okZ := blk_older kZ
    have ckZ_0 : _ = some _ := blk_cell kZ 0
    have ckZ_1 : _ = some _ := blk_cell kZ 1
    have fkZ_0 := blk_free kZ 0
    have fkZ_1 := blk_free kZ 1
    refine bodyPost_ret (v := .tuple #[.int .i64 0, .agg #[.int .i64 0, .int .i64 0], .bool false]) (by simp [results, Tryz.results9, go_sem, ckZ_0, ckZ_1]) rfl ⟨by rw [n0.out, n1.out, n2.out, n3.out], hbZ⟩
  by_cases c4 : r < a
  · obtain ⟨n0, n1, n2, n3⟩ := none1 (.inr (.inr (.inr c4)))
    clear k1 k2 k3 none1 c1
    go_wp2_with fail
    refine post_named ?_
    intro Z hZ
    have kZ : blk Z (w.heap.size + 3) #[.int .i64 0, .int .i64 0] 27 := by rw [hZ]; exact (by apply blk_of; (repeat (first | with_reducible exact kR | with_reducible apply blk_drew | with_reducible apply blk_gw | with_reducible apply blk_alloc | with_reducible apply blk_set | ((with_reducible apply blk_other); focus omega))); (first | rfl | simp))
    have hbZ : Below w.heap.size w Z := by rw [hZ]; exact bBel
    clear hZ
    have okZ := blk_older kZ
    have ckZ_0 : _ = some _ := blk_cell kZ 0
    have ckZ_1 : _ = some _ := blk_cell kZ 1
    have fkZ_0 := blk_free kZ 0
    have fkZ_1 := blk_free kZ 1
    refine bodyPost_ret (v := .tuple #[.int .i64 0, .agg #[.int .i64 0, .int .i64 0], .bool false]) (by simp [results, Tryz.results9, go_sem, ckZ_0, ckZ_1]) rfl ⟨by rw [n0.out, n1.out, n2.out, n3.out], hbZ⟩
  have k4 := k3 (by rintro (c | c | c | c) <;> contradiction)
  clear k1 k3 none1 c1
  have hri := sq_in18 (x := r) (m := 536870911) (by omega) (by omega) (by decide)
  have cI := fun w' => isq_b (r * r - a * a) w'
  generalize isq (r * r - a * a) = s at *
  have cS := fun w' => sub_b m s w'
  generalize sub m s = e at *
  have none2 : ∀ (hc : e < 0 ∨ l < e), Hid (t = 0) ∧ Hid (x = 0) ∧ Hid (y = 0) ∧ Hid (b = false) := fun hc => by have := k2 hc; injection this; exact ⟨by assumption, by assumption, by assumption, by assumption⟩
  go_upto_region 7 with (first | (go_at_call 27; refine Calls.mono (gw_at (cO _)) ?_; rintro e w1 ⟨rfl, q1, rfl⟩) | (go_at_call 28; refine Calls.mono (gw_at (cI _)) ?_; rintro e w1 ⟨rfl, q2, rfl⟩) | (go_at_call 26; refine Calls.mono (gw_at (cS _)) ?_; rintro e w1 ⟨rfl, q3, rfl⟩))
  by_cases c5 : e < 0
  · obtain ⟨n0, n1, n2, n3⟩ := none2 (.inl c5)
    clear k2 k4 none2
    go_wp2_with fail
    refine post_named ?_
    intro Z hZ
    have kZ : blk Z (w.heap.size + 3) #[.int .i64 0, .int .i64 0] 27 := by rw [hZ]; exact (by apply blk_of; (repeat (first | with_reducible exact kR | with_reducible apply blk_drew | with_reducible apply blk_gw | with_reducible apply blk_alloc | with_reducible apply blk_set | ((with_reducible apply blk_other); focus omega))); (first | rfl | simp))
    have hbZ : Below w.heap.size w Z := by rw [hZ]; exact bBel
    clear hZ
    have okZ := blk_older kZ
    have ckZ_0 : _ = some _ := blk_cell kZ 0
    have ckZ_1 : _ = some _ := blk_cell kZ 1
    have fkZ_0 := blk_free kZ 0
    have fkZ_1 := blk_free kZ 1
    refine bodyPost_ret (v := .tuple #[.int .i64 0, .agg #[.int .i64 0, .int .i64 0], .bool false]) (by simp [results, Tryz.results9, go_sem, ckZ_0, ckZ_1]) rfl ⟨by rw [n0.out, n1.out, n2.out, n3.out], hbZ⟩
  by_cases c6 : l < e
  · obtain ⟨n0, n1, n2, n3⟩ := none2 (.inr c6)
    clear k2 k4 none2
    go_wp2_with fail
    refine post_named ?_
    intro Z hZ
    have kZ : blk Z (w.heap.size + 3) #[.int .i64 0, .int .i64 0] 27 := by rw [hZ]; exact (by apply blk_of; (repeat (first | with_reducible exact kR | with_reducible apply blk_drew | with_reducible apply blk_gw | with_reducible apply blk_alloc | with_reducible apply blk_set | ((with_reducible apply blk_other); focus omega))); (first | rfl | simp))
    have hbZ : Below w.heap.size w Z := by rw [hZ]; exact bBel
    clear hZ
    have okZ := blk_older kZ
    have ckZ_0 : _ = some _ := blk_cell kZ 0
    have ckZ_1 : _ = some _ := blk_cell kZ 1
    have fkZ_0 := blk_free kZ 0
    have fkZ_1 := blk_free kZ 1
    refine bodyPost_ret (v := .tuple #[.int .i64 0, .agg #[.int .i64 0, .int .i64 0], .bool false]) (by simp [results, Tryz.results9, go_sem, ckZ_0, ckZ_1]) rfl ⟨by rw [n0.out, n1.out, n2.out, n3.out], hbZ⟩
  have k5 := k4 (by rintro (c | c) <;> contradiction)
  clear k2 k4 none2
  have cR := fun w' => rt_b e l w'
  generalize ratio e l = f at *
  have cP := fun w' => vlerp_b fx fy gx gy f w'
  generalize lerp fx gx f = ex at *
  generalize lerp fy gy f = ey at *
  have cT := fun w' => vsub_b ex ey cx cy w'
  generalize sub ex cx = nx at *
  generalize sub ey cy = ny at *
  have cN := fun w' => vnorm_b nx ny w'
  generalize unit nx (vlen nx ny) = ox at *
  generalize unit ny (vlen nx ny) = oy at *
  have n0 : Hid (t = f) := by injection k5
  have n1 : Hid (x = ox) := by injection k5
  have n2 : Hid (y = oy) := by injection k5
  have n3 : Hid (b = true) := by injection k5
  clear k5
  go_upto_region 10 with (go_at_call 29; refine Calls.mono (gw_at (cR _)) ?_; rintro e w1 ⟨rfl, q4, rfl⟩)
  refine wp_region_gw_tail 9 (by kernel_rfl) (by kernel_rfl) ?_
  simp only [List.take_succ_cons, List.take_zero, List.drop_succ_cons, List.drop_zero]
  repeat (go_big_quiet_step ((first | (go_at_call 30; with_reducible_and_instances exact gw_call (cP _)) | (go_at_call 20; with_reducible_and_instances exact gw_call (cT _)) | (go_at_call 23; with_reducible_and_instances exact gw_call (cN _)))))
  refine wpQuiet_nil ?_
  intro w1 hw1
  obtain ⟨q, rfl⟩ := hw1
  go_wp2_with fail
  refine post_named ?_
  intro Z hZ
  have kZ : blk Z (w.heap.size + 3) #[.int .i64 ox, .int .i64 oy] 27 := by rw [hZ]; exact (by apply blk_of; (repeat (first | with_reducible exact kR | with_reducible apply blk_drew | with_reducible apply blk_gw | with_reducible apply blk_alloc | with_reducible apply blk_set | ((with_reducible apply blk_other); focus omega))); (first | rfl | simp))
  have hbZ : Below w.heap.size w Z := by rw [hZ]; exact bBel
  clear hZ
  have okZ := blk_older kZ
  have ckZ_0 : _ = some _ := blk_cell kZ 0
  have ckZ_1 : _ = some _ := blk_cell kZ 1
  have fkZ_0 := blk_free kZ 0
  have fkZ_1 := blk_free kZ 1
  refine bodyPost_ret (v := .tuple #[.int .i64 f, .agg #[.int .i64 ox, .int .i64 oy], .bool true]) (by simp [results, Tryz.results9, go_sem, ckZ_0, ckZ_1]) rfl ⟨by rw [n0.out, n1.out, n2.out, n3.out], hbZ⟩

end Go.Proofs.YtpdhfhcfjdnlpaaGreat
