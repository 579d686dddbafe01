import Derived.Test.YtdldlcibjjccpaaBxB
import Derived.Deep.DeepCutAuto
set_option linter.unusedVariables false
set_option linter.unusedSimpArgs false
namespace Go.Proofs.Ytdldlcibjjccpaa
open Go.RowKit Fx

set_option maxRecDepth 100000 in
set_option maxHeartbeats 8000000 in
theorem rap_k1 (p : Value) (i x0 y0 x1 y1 : Int) (w : World) (R : World → Value → World → Prop) (cC : ApC w 41 #[p, .int .i64 i, .agg #[.int .i64 x0, .int .i64 y0, .int .i64 x1, .int .i64 y1]] R) : Calls Try.prog 23 #[p, .agg #[.int .i64 1, .int .i64 i, .int .i64 x0, .int .i64 y0, .int .i64 x1, .int .i64 y1]] w (ApP w R fun v => .tuple #[v, .slice none 0 0, .agg #[.int .i64 0, .int .i64 0, .int .i64 0, .int .i64 0]]) := by
  go_enter Try.func23, Try.ntmps23
  go_upto_region 1 with fail
  refine wp_named ?_
  intro V hV
  have kop : blk V w.heap.size #[.int .i64 1, .int .i64 i, .int .i64 x0, .int .i64 y0, .int .i64 x1, .int .i64 y1] 34 := by rw [hV]; exact bBkn
  have kbx : blk V (w.heap.size + 1) #[.int .i64 0, .int .i64 0, .int .i64 0, .int .i64 0] 26 := by rw [hV]; exact bBkn
  have hbV : Below w.heap.size w V := by rw [hV]; exact bBel
  have hszV : V.heap.size = w.heap.size + 2 := by rw [hV]; simp
  clear hV
  have okop := blk_older kop
  have ckop_0 : _ = some _ := blk_cell kop 0
  have ckop_1 : _ = some _ := blk_cell kop 1
  have ckop_2 : _ = some _ := blk_cell kop 2
  have ckop_3 : _ = some _ := blk_cell kop 3
  have ckop_4 : _ = some _ := blk_cell kop 4
  have ckop_5 : _ = some _ := blk_cell kop 5
  have fkop_0 := blk_free kop 0
  have fkop_1 := blk_free kop 1
  have fkop_2 := blk_free kop 2
  have fkop_3 := blk_free kop 3
  have fkop_4 := blk_free kop 4
  have fkop_5 := blk_free kop 5
  go_wp2_with (go_at_call 41; fail "x")
  refine (cC V hbV hszV).mono ?_
  rintro e X ⟨v, rfl, hR, hB⟩
  have kbX := hB.blk kbx (by intro hh; rcases hh with hh | hh <;> omega)
  have okbX := blk_older kbX
  have ckbX_0 : _ = some _ := blk_cell kbX 0
  have ckbX_1 : _ = some _ := blk_cell kbX 1
  have ckbX_2 : _ = some _ := blk_cell kbX 2
  have ckbX_3 : _ = some _ := blk_cell kbX 3
  have fkbX_0 := blk_free kbX 0
  have fkbX_1 := blk_free kbX 1
  have fkbX_2 := blk_free kbX 2
  have fkbX_3 := blk_free kbX 3
  go_wp2_with fail
  refine post_nm20 ?_
  intro Z hZ
  have kZ : blk Z (w.heap.size + 1) #[.int .i64 0, .int .i64 0, .int .i64 0, .int .i64 0] 26 := by rw [hZ]; exact (by apply blk_of; (repeat (first | with_reducible apply blk_set | with_reducible apply blk_gw | with_reducible apply blk_drew | with_reducible apply blk_alloc | with_reducible exact kbX | with_reducible exact blk_new _ _ _ | ((with_reducible refine blk_at ?_); (simp; done)))); (first | rfl | simp))
  have hBZ : But (fun k => k = w.heap.size + 1) X Z := by rw [hZ]; exact bBut
  clear hZ
  have okZ := blk_older kZ
  have ckZ_0 : _ = some _ := blk_cell kZ 0
  have ckZ_1 : _ = some _ := blk_cell kZ 1
  have ckZ_2 : _ = some _ := blk_cell kZ 2
  have ckZ_3 : _ = some _ := blk_cell kZ 3
  have fkZ_0 := blk_free kZ 0
  have fkZ_1 := blk_free kZ 1
  have fkZ_2 := blk_free kZ 2
  have fkZ_3 := blk_free kZ 3
  exact bodyPost_ret (v := .tuple #[v, .slice none 0 0, .agg #[.int .i64 0, .int .i64 0, .int .i64 0, .int .i64 0]]) (by simp [results, Try.results23, go_sem, ckZ_0, ckZ_1, ckZ_2, ckZ_3]) rfl ⟨v, rfl, V, X, hbV, hszV, hR, hB, hBZ⟩

set_option maxRecDepth 100000 in
set_option maxHeartbeats 8000000 in
theorem rap_k3 (p : Value) (i x0 y0 x1 y1 : Int) (w : World) (R : World → Value → World → Prop) (cC : ApC w 43 #[p, .int .i64 i, .agg #[.int .i64 x0, .int .i64 y0, .int .i64 x1, .int .i64 y1]] R) : Calls Try.prog 23 #[p, .agg #[.int .i64 3, .int .i64 i, .int .i64 x0, .int .i64 y0, .int .i64 x1, .int .i64 y1]] w (ApP w R fun v => .tuple #[v, .slice none 0 0, .agg #[.int .i64 0, .int .i64 0, .int .i64 0, .int .i64 0]]) := by
  go_enter Try.func23, Try.ntmps23
  go_upto_region 1 with fail
  refine wp_named ?_
  intro V hV
  have kop : blk V w.heap.size #[.int .i64 3, .int .i64 i, .int .i64 x0, .int .i64 y0, .int .i64 x1, .int .i64 y1] 34 := by rw [hV]; exact bBkn
  have kbx : blk V (w.heap.size + 1) #[.int .i64 0, .int .i64 0, .int .i64 0, .int .i64 0] 26 := by rw [hV]; exact bBkn
  have hbV : Below w.heap.size w V := by rw [hV]; exact bBel
  have hszV : V.heap.size = w.heap.size + 2 := by rw [hV]; simp
  clear hV
  have okop := blk_older kop
  have ckop_0 : _ = some _ := blk_cell kop 0
  have ckop_1 : _ = some _ := blk_cell kop 1
  have ckop_2 : _ = some _ := blk_cell kop 2
  have ckop_3 : _ = some _ := blk_cell kop 3
  have ckop_4 : _ = some _ := blk_cell kop 4
  have ckop_5 : _ = some _ := blk_cell kop 5
  have fkop_0 := blk_free kop 0
  have fkop_1 := blk_free kop 1
  have fkop_2 := blk_free kop 2
  have fkop_3 := blk_free kop 3
  have fkop_4 := blk_free kop 4
  have fkop_5 := blk_free kop 5
  go_wp2_with (go_at_call 43; fail "x")
  refine (cC V hbV hszV).mono ?_
  rintro e X ⟨v, rfl, hR, hB⟩
  have kbX := hB.blk kbx (by intro hh; rcases hh with hh | hh <;> omega)
  have okbX := blk_older kbX
  have ckbX_0 : _ = some _ := blk_cell kbX 0
  have ckbX_1 : _ = some _ := blk_cell kbX 1
  have ckbX_2 : _ = some _ := blk_cell kbX 2
  have ckbX_3 : _ = some _ := blk_cell kbX 3
  have fkbX_0 := blk_free kbX 0
  have fkbX_1 := blk_free kbX 1
  have fkbX_2 := blk_free kbX 2
  have fkbX_3 := blk_free kbX 3
  go_wp2_with fail
  refine post_nm20 ?_
  intro Z hZ
  have kZ : blk Z (w.heap.size + 1) #[.int .i64 0, .int .i64 0, .int .i64 0, .int .i64 0] 26 := by rw [hZ]; exact (by apply blk_of; (repeat (first | with_reducible apply blk_set | with_reducible apply blk_gw | with_reducible apply blk_drew | with_reducible apply blk_alloc | with_reducible exact kbX | with_reducible exact blk_new _ _ _ | ((with_reducible refine blk_at ?_); (simp; done)))); (first | rfl | simp))
  have hBZ : But (fun k => k = w.heap.size + 1) X Z := by rw [hZ]; exact bBut
  clear hZ
  have okZ := blk_older kZ
  have ckZ_0 : _ = some _ := blk_cell kZ 0
  have ckZ_1 : _ = some _ := blk_cell kZ 1
  have ckZ_2 : _ = some _ := blk_cell kZ 2
  have ckZ_3 : _ = some _ := blk_cell kZ 3
  have fkZ_0 := blk_free kZ 0
  have fkZ_1 := blk_free kZ 1
  have fkZ_2 := blk_free kZ 2
  have fkZ_3 := blk_free kZ 3
  exact bodyPost_ret (v := .tuple #[v, .slice none 0 0, .agg #[.int .i64 0, .int .i64 0, .int .i64 0, .int .i64 0]]) (by simp [results, Try.results23, go_sem, ckZ_0, ckZ_1, ckZ_2, ckZ_3]) rfl ⟨v, rfl, V, X, hbV, hszV, hR, hB, hBZ⟩

set_option maxRecDepth 100000 in
set_option maxHeartbeats 8000000 in
theorem rap_k2 (p : Value) (i x0 y0 x1 y1 : Int) (w : World) (R : World → Value → World → Prop) (b : Bool) (cC : ApC w 42 #[p, .int .i64 i] fun V v X => v = .bool b ∧ R V v X) : Calls Try.prog 23 #[p, .agg #[.int .i64 2, .int .i64 i, .int .i64 x0, .int .i64 y0, .int .i64 x1, .int .i64 y1]] w (ApP w R fun v => .tuple #[.int .i64 (if b then 1 else 0), .slice none 0 0, .agg #[.int .i64 0, .int .i64 0, .int .i64 0, .int .i64 0]]) := by
  go_enter Try.func23, Try.ntmps23
  go_upto_region 1 with fail
  refine wp_named ?_
  intro V hV
  have kop : blk V w.heap.size #[.int .i64 2, .int .i64 i, .int .i64 x0, .int .i64 y0, .int .i64 x1, .int .i64 y1] 34 := by rw [hV]; exact bBkn
  have kbx : blk V (w.heap.size + 1) #[.int .i64 0, .int .i64 0, .int .i64 0, .int .i64 0] 26 := by rw [hV]; exact bBkn
  have hbV : Below w.heap.size w V := by rw [hV]; exact bBel
  have hszV : V.heap.size = w.heap.size + 2 := by rw [hV]; simp
  clear hV
  have okop := blk_older kop
  have ckop_0 : _ = some _ := blk_cell kop 0
  have ckop_1 : _ = some _ := blk_cell kop 1
  have ckop_2 : _ = some _ := blk_cell kop 2
  have ckop_3 : _ = some _ := blk_cell kop 3
  have ckop_4 : _ = some _ := blk_cell kop 4
  have ckop_5 : _ = some _ := blk_cell kop 5
  have fkop_0 := blk_free kop 0
  have fkop_1 := blk_free kop 1
  have fkop_2 := blk_free kop 2
  have fkop_3 := blk_free kop 3
  have fkop_4 := blk_free kop 4
  have fkop_5 := blk_free kop 5
  go_wp2_with (go_at_call 42; fail "x")
  refine (cC V hbV hszV).mono ?_
  rintro e X ⟨_, rfl, ⟨rfl, hR⟩, hB⟩
  have kbX := hB.blk kbx (by intro hh; rcases hh with hh | hh <;> omega)
  have okbX := blk_older kbX
  have ckbX_0 : _ = some _ := blk_cell kbX 0
  have ckbX_1 : _ = some _ := blk_cell kbX 1
  have ckbX_2 : _ = some _ := blk_cell kbX 2
  have ckbX_3 : _ = some _ := blk_cell kbX 3
  have fkbX_0 := blk_free kbX 0
  have fkbX_1 := blk_free kbX 1
  have fkbX_2 := blk_free kbX 2
  have fkbX_3 := blk_free kbX 3
  cases b
  all_goals
    go_wp2_with fail
  ·
      refine post_nm20 ?_
      intro Z hZ
      have kZ : blk Z (w.heap.size + 1) #[.int .i64 0, .int .i64 0, .int .i64 0, .int .i64 0] 26 := by rw [hZ]; exact (by apply blk_of; (repeat (first | with_reducible apply blk_set | with_reducible apply blk_gw | with_reducible apply blk_drew | with_reducible apply blk_alloc | with_reducible exact kbX | with_reducible exact blk_new _ _ _ | ((with_reducible refine blk_at ?_); (simp; done)))); (first | rfl | simp))
      have hBZ : But (fun k => k = w.heap.size + 1) X Z := by rw [hZ]; exact bBut
      clear hZ
      have okZ := blk_older kZ
      have ckZ_0 : _ = some _ := blk_cell kZ 0
      have ckZ_1 : _ = some _ := blk_cell kZ 1
      have ckZ_2 : _ = some _ := blk_cell kZ 2
      have ckZ_3 : _ = some _ := blk_cell kZ 3
      have fkZ_0 := blk_free kZ 0
      have fkZ_1 := blk_free kZ 1
      have fkZ_2 := blk_free kZ 2
      have fkZ_3 := blk_free kZ 3
      exact bodyPost_ret (v := .tuple #[.int .i64 0, .slice none 0 0, .agg #[.int .i64 0, .int .i64 0, .int .i64 0, .int .i64 0]]) (by simp [results, Try.results23, go_sem, ckZ_0, ckZ_1, ckZ_2, ckZ_3]) rfl ⟨.bool false, rfl, V, X, hbV, hszV, hR, hB, hBZ⟩
  ·
      refine post_nm20 ?_
      intro Z hZ
      have kZ : blk Z (w.heap.size + 1) #[.int .i64 0, .int .i64 0, .int .i64 0, .int .i64 0] 26 := by rw [hZ]; exact (by apply blk_of; (repeat (first | with_reducible apply blk_set | with_reducible apply blk_gw | with_reducible apply blk_drew | with_reducible apply blk_alloc | with_reducible exact kbX | with_reducible exact blk_new _ _ _ | ((with_reducible refine blk_at ?_); (simp; done)))); (first | rfl | simp))
      have hBZ : But (fun k => k = w.heap.size + 1) X Z := by rw [hZ]; exact bBut
      clear hZ
      have okZ := blk_older kZ
      have ckZ_0 : _ = some _ := blk_cell kZ 0
      have ckZ_1 : _ = some _ := blk_cell kZ 1
      have ckZ_2 : _ = some _ := blk_cell kZ 2
      have ckZ_3 : _ = some _ := blk_cell kZ 3
      have fkZ_0 := blk_free kZ 0
      have fkZ_1 := blk_free kZ 1
      have fkZ_2 := blk_free kZ 2
      have fkZ_3 := blk_free kZ 3
      exact bodyPost_ret (v := .tuple #[.int .i64 1, .slice none 0 0, .agg #[.int .i64 0, .int .i64 0, .int .i64 0, .int .i64 0]]) (by simp [results, Try.results23, go_sem, ckZ_0, ckZ_1, ckZ_2, ckZ_3]) rfl ⟨.bool true, rfl, V, X, hbV, hszV, hR, hB, hBZ⟩

set_option maxRecDepth 100000 in
set_option maxHeartbeats 8000000 in
theorem rap_k4t (p : Value) (i x0 y0 x1 y1 : Int) (w : World) (R : World → Value → World → Prop) (z0 z1 z2 z3 : Int) (cC : ApC w 44 #[p, .int .i64 i] fun V v X => v = .tuple #[.agg #[.int .i64 z0, .int .i64 z1, .int .i64 z2, .int .i64 z3], .bool true] ∧ R V v X) : Calls Try.prog 23 #[p, .agg #[.int .i64 4, .int .i64 i, .int .i64 x0, .int .i64 y0, .int .i64 x1, .int .i64 y1]] w (ApP w R fun v => .tuple #[.int .i64 1, .slice none 0 0, .agg #[.int .i64 z0, .int .i64 z1, .int .i64 z2, .int .i64 z3]]) := by
  go_enter Try.func23, Try.ntmps23
  go_upto_region 1 with fail
  refine wp_named ?_
  intro V hV
  have kop : blk V w.heap.size #[.int .i64 4, .int .i64 i, .int .i64 x0, .int .i64 y0, .int .i64 x1, .int .i64 y1] 34 := by rw [hV]; exact bBkn
  have kbx : blk V (w.heap.size + 1) #[.int .i64 0, .int .i64 0, .int .i64 0, .int .i64 0] 26 := by rw [hV]; exact bBkn
  have hbV : Below w.heap.size w V := by rw [hV]; exact bBel
  have hszV : V.heap.size = w.heap.size + 2 := by rw [hV]; simp
  clear hV
  have okop := blk_older kop
  have ckop_0 : _ = some _ := blk_cell kop 0
  have ckop_1 : _ = some _ := blk_cell kop 1
  have ckop_2 : _ = some _ := blk_cell kop 2
  have ckop_3 : _ = some _ := blk_cell kop 3
  have ckop_4 : _ = some _ := blk_cell kop 4
  have ckop_5 : _ = some _ := blk_cell kop 5
  have fkop_0 := blk_free kop 0
  have fkop_1 := blk_free kop 1
  have fkop_2 := blk_free kop 2
  have fkop_3 := blk_free kop 3
  have fkop_4 := blk_free kop 4
  have fkop_5 := blk_free kop 5
  go_wp2_with (go_at_call 44; fail "x")
  refine (cC V hbV hszV).mono ?_
  rintro e X ⟨_, rfl, ⟨rfl, hR⟩, hB⟩
  have kbX := hB.blk kbx (by intro hh; rcases hh with hh | hh <;> omega)
  have okbX := blk_older kbX
  have ckbX_0 : _ = some _ := blk_cell kbX 0
  have ckbX_1 : _ = some _ := blk_cell kbX 1
  have ckbX_2 : _ = some _ := blk_cell kbX 2
  have ckbX_3 : _ = some _ := blk_cell kbX 3
  have fkbX_0 := blk_free kbX 0
  have fkbX_1 := blk_free kbX 1
  have fkbX_2 := blk_free kbX 2
  have fkbX_3 := blk_free kbX 3
  go_wp2_with fail
  refine wp_region_gw_tail 3 (by kernel_rfl) (by kernel_rfl) ?_
  simp only [List.take_succ_cons, List.take_zero, List.drop_succ_cons, List.drop_zero]
  repeat (go_big_quiet_step (fail))
  refine wpQuiet_nil ?_
  intro w1 hw1
  obtain ⟨q, rfl⟩ := hw1
  go_wp2_with fail
  refine post_nm20 ?_
  intro Z hZ
  have kZ : blk Z (w.heap.size + 1) #[.int .i64 z0, .int .i64 z1, .int .i64 z2, .int .i64 z3] 26 := by rw [hZ]; exact (by apply blk_of; (repeat (first | with_reducible apply blk_set | with_reducible apply blk_gw | with_reducible apply blk_drew | with_reducible apply blk_alloc | with_reducible exact kbX | with_reducible exact blk_new _ _ _ | ((with_reducible refine blk_at ?_); (simp; done)))); (first | rfl | simp))
  have hBZ : But (fun k => k = w.heap.size + 1) X Z := by rw [hZ]; exact bBut
  clear hZ
  have okZ := blk_older kZ
  have ckZ_0 : _ = some _ := blk_cell kZ 0
  have ckZ_1 : _ = some _ := blk_cell kZ 1
  have ckZ_2 : _ = some _ := blk_cell kZ 2
  have ckZ_3 : _ = some _ := blk_cell kZ 3
  have fkZ_0 := blk_free kZ 0
  have fkZ_1 := blk_free kZ 1
  have fkZ_2 := blk_free kZ 2
  have fkZ_3 := blk_free kZ 3
  exact bodyPost_ret (v := .tuple #[.int .i64 1, .slice none 0 0, .agg #[.int .i64 z0, .int .i64 z1, .int .i64 z2, .int .i64 z3]]) (by simp [results, Try.results23, go_sem, ckZ_0, ckZ_1, ckZ_2, ckZ_3]) rfl ⟨_, rfl, V, X, hbV, hszV, hR, hB, hBZ⟩

set_option maxRecDepth 100000 in
set_option maxHeartbeats 8000000 in
theorem rap_k4f (p : Value) (i x0 y0 x1 y1 : Int) (w : World) (R : World → Value → World → Prop) (z0 z1 z2 z3 : Int) (cC : ApC w 44 #[p, .int .i64 i] fun V v X => v = .tuple #[.agg #[.int .i64 z0, .int .i64 z1, .int .i64 z2, .int .i64 z3], .bool false] ∧ R V v X) : Calls Try.prog 23 #[p, .agg #[.int .i64 4, .int .i64 i, .int .i64 x0, .int .i64 y0, .int .i64 x1, .int .i64 y1]] w (ApP w R fun v => .tuple #[.int .i64 0, .slice none 0 0, .agg #[.int .i64 z0, .int .i64 z1, .int .i64 z2, .int .i64 z3]]) := by
  go_enter Try.func23, Try.ntmps23
  go_upto_region 1 with fail
  refine wp_named ?_
  intro V hV
  have kop : blk V w.heap.size #[.int .i64 4, .int .i64 i, .int .i64 x0, .int .i64 y0, .int .i64 x1, .int .i64 y1] 34 := by rw [hV]; exact bBkn
  have kbx : blk V (w.heap.size + 1) #[.int .i64 0, .int .i64 0, .int .i64 0, .int .i64 0] 26 := by rw [hV]; exact bBkn
  have hbV : Below w.heap.size w V := by rw [hV]; exact bBel
  have hszV : V.heap.size = w.heap.size + 2 := by rw [hV]; simp
  clear hV
  have okop := blk_older kop
  have ckop_0 : _ = some _ := blk_cell kop 0
  have ckop_1 : _ = some _ := blk_cell kop 1
  have ckop_2 : _ = some _ := blk_cell kop 2
  have ckop_3 : _ = some _ := blk_cell kop 3
  have ckop_4 : _ = some _ := blk_cell kop 4
  have ckop_5 : _ = some _ := blk_cell kop 5
  have fkop_0 := blk_free kop 0
  have fkop_1 := blk_free kop 1
  have fkop_2 := blk_free kop 2
  have fkop_3 := blk_free kop 3
  have fkop_4 := blk_free kop 4
  have fkop_5 := blk_free kop 5
  go_wp2_with (go_at_call 44; fail "x")
  refine (cC V hbV hszV).mono ?_
  rintro e X ⟨_, rfl, ⟨rfl, hR⟩, hB⟩
  have kbX := hB.blk kbx (by intro hh; rcases hh with hh | hh <;> omega)
  have okbX := blk_older kbX
  have ckbX_0 : _ = some _ := blk_cell kbX 0
  have ckbX_1 : _ = some _ := blk_cell kbX 1
  have ckbX_2 : _ = some _ := blk_cell kbX 2
  have ckbX_3 : _ = some _ := blk_cell kbX 3
  have fkbX_0 := blk_free kbX 0
  have fkbX_1 := blk_free kbX 1
  have fkbX_2 := blk_free kbX 2
  have fkbX_3 := blk_free kbX 3
  go_wp2_with fail
  refine wp_region_gw_tail 3 (by kernel_rfl) (by kernel_rfl) ?_
  simp only [List.take_succ_cons, List.take_zero, List.drop_succ_cons, List.drop_zero]
  repeat (go_big_quiet_step (fail))
  refine wpQuiet_nil ?_
  intro w1 hw1
  obtain ⟨q, rfl⟩ := hw1
  go_wp2_with fail
  refine post_nm20 ?_
  intro Z hZ
  have kZ : blk Z (w.heap.size + 1) #[.int .i64 z0, .int .i64 z1, .int .i64 z2, .int .i64 z3] 26 := by rw [hZ]; exact (by apply blk_of; (repeat (first | with_reducible apply blk_set | with_reducible apply blk_gw | with_reducible apply blk_drew | with_reducible apply blk_alloc | with_reducible exact kbX | with_reducible exact blk_new _ _ _ | ((with_reducible refine blk_at ?_); (simp; done)))); (first | rfl | simp))
  have hBZ : But (fun k => k = w.heap.size + 1) X Z := by rw [hZ]; exact bBut
  clear hZ
  have okZ := blk_older kZ
  have ckZ_0 : _ = some _ := blk_cell kZ 0
  have ckZ_1 : _ = some _ := blk_cell kZ 1
  have ckZ_2 : _ = some _ := blk_cell kZ 2
  have ckZ_3 : _ = some _ := blk_cell kZ 3
  have fkZ_0 := blk_free kZ 0
  have fkZ_1 := blk_free kZ 1
  have fkZ_2 := blk_free kZ 2
  have fkZ_3 := blk_free kZ 3
  exact bodyPost_ret (v := .tuple #[.int .i64 0, .slice none 0 0, .agg #[.int .i64 z0, .int .i64 z1, .int .i64 z2, .int .i64 z3]]) (by simp [results, Try.results23, go_sem, ckZ_0, ckZ_1, ckZ_2, ckZ_3]) rfl ⟨_, rfl, V, X, hbV, hszV, hR, hB, hBZ⟩

set_option maxRecDepth 100000 in
set_option maxHeartbeats 8000000 in
theorem rap_k5 (p : Value) (i x0 y0 x1 y1 : Int) (w : World) (R : World → Value → World → Prop) (cC : ApC w 45 #[p, .agg #[.int .i64 x0, .int .i64 y0, .int .i64 x1, .int .i64 y1]] R) : Calls Try.prog 23 #[p, .agg #[.int .i64 5, .int .i64 i, .int .i64 x0, .int .i64 y0, .int .i64 x1, .int .i64 y1]] w (ApP w R fun v => .tuple #[.int .i64 0, v, .agg #[.int .i64 0, .int .i64 0, .int .i64 0, .int .i64 0]]) := by
  go_enter Try.func23, Try.ntmps23
  go_upto_region 1 with fail
  refine wp_named ?_
  intro V hV
  have kop : blk V w.heap.size #[.int .i64 5, .int .i64 i, .int .i64 x0, .int .i64 y0, .int .i64 x1, .int .i64 y1] 34 := by rw [hV]; exact bBkn
  have kbx : blk V (w.heap.size + 1) #[.int .i64 0, .int .i64 0, .int .i64 0, .int .i64 0] 26 := by rw [hV]; exact bBkn
  have hbV : Below w.heap.size w V := by rw [hV]; exact bBel
  have hszV : V.heap.size = w.heap.size + 2 := by rw [hV]; simp
  clear hV
  have okop := blk_older kop
  have ckop_0 : _ = some _ := blk_cell kop 0
  have ckop_1 : _ = some _ := blk_cell kop 1
  have ckop_2 : _ = some _ := blk_cell kop 2
  have ckop_3 : _ = some _ := blk_cell kop 3
  have ckop_4 : _ = some _ := blk_cell kop 4
  have ckop_5 : _ = some _ := blk_cell kop 5
  have fkop_0 := blk_free kop 0
  have fkop_1 := blk_free kop 1
  have fkop_2 := blk_free kop 2
  have fkop_3 := blk_free kop 3
  have fkop_4 := blk_free kop 4
  have fkop_5 := blk_free kop 5
  go_wp2_with (go_at_call 45; fail "x")
  refine (cC V hbV hszV).mono ?_
  rintro e X ⟨v, rfl, hR, hB⟩
  have kbX := hB.blk kbx (by intro hh; rcases hh with hh | hh <;> omega)
  have okbX := blk_older kbX
  have ckbX_0 : _ = some _ := blk_cell kbX 0
  have ckbX_1 : _ = some _ := blk_cell kbX 1
  have ckbX_2 : _ = some _ := blk_cell kbX 2
  have ckbX_3 : _ = some _ := blk_cell kbX 3
  have fkbX_0 := blk_free kbX 0
  have fkbX_1 := blk_free kbX 1
  have fkbX_2 := blk_free kbX 2
  have fkbX_3 := blk_free kbX 3
  go_wp2_with fail
  refine post_nm20 ?_
  intro Z hZ
  have kZ : blk Z (w.heap.size + 1) #[.int .i64 0, .int .i64 0, .int .i64 0, .int .i64 0] 26 := by rw [hZ]; exact (by apply blk_of; (repeat (first | with_reducible apply blk_set | with_reducible apply blk_gw | with_reducible apply blk_drew | with_reducible apply blk_alloc | with_reducible exact kbX | with_reducible exact blk_new _ _ _ | ((with_reducible refine blk_at ?_); (simp; done)))); (first | rfl | simp))
  have hBZ : But (fun k => k = w.heap.size + 1) X Z := by rw [hZ]; exact bBut
  clear hZ
  have okZ := blk_older kZ
  have ckZ_0 : _ = some _ := blk_cell kZ 0
  have ckZ_1 : _ = some _ := blk_cell kZ 1
  have ckZ_2 : _ = some _ := blk_cell kZ 2
  have ckZ_3 : _ = some _ := blk_cell kZ 3
  have fkZ_0 := blk_free kZ 0
  have fkZ_1 := blk_free kZ 1
  have fkZ_2 := blk_free kZ 2
  have fkZ_3 := blk_free kZ 3
  exact bodyPost_ret (v := .tuple #[.int .i64 0, v, .agg #[.int .i64 0, .int .i64 0, .int .i64 0, .int .i64 0]]) (by simp [results, Try.results23, go_sem, ckZ_0, ckZ_1, ckZ_2, ckZ_3]) rfl ⟨v, rfl, V, X, hbV, hszV, hR, hB, hBZ⟩

set_option maxRecDepth 100000 in
set_option maxHeartbeats 8000000 in
theorem rap_k6 (p : Value) (i x0 y0 x1 y1 : Int) (w : World) (R : World → Value → World → Prop) (cC : ApC w 46 #[p, .agg #[.int .i64 x0, .int .i64 y0], .agg #[.int .i64 x1, .int .i64 y1]] R) : Calls Try.prog 23 #[p, .agg #[.int .i64 6, .int .i64 i, .int .i64 x0, .int .i64 y0, .int .i64 x1, .int .i64 y1]] w (ApP w R fun v => .tuple #[.int .i64 0, v, .agg #[.int .i64 0, .int .i64 0, .int .i64 0, .int .i64 0]]) := by
  go_enter Try.func23, Try.ntmps23
  go_upto_region 1 with fail
  refine wp_named ?_
  intro V hV
  have kop : blk V w.heap.size #[.int .i64 6, .int .i64 i, .int .i64 x0, .int .i64 y0, .int .i64 x1, .int .i64 y1] 34 := by rw [hV]; exact bBkn
  have kbx : blk V (w.heap.size + 1) #[.int .i64 0, .int .i64 0, .int .i64 0, .int .i64 0] 26 := by rw [hV]; exact bBkn
  have hbV : Below w.heap.size w V := by rw [hV]; exact bBel
  have hszV : V.heap.size = w.heap.size + 2 := by rw [hV]; simp
  clear hV
  have okop := blk_older kop
  have ckop_0 : _ = some _ := blk_cell kop 0
  have ckop_1 : _ = some _ := blk_cell kop 1
  have ckop_2 : _ = some _ := blk_cell kop 2
  have ckop_3 : _ = some _ := blk_cell kop 3
  have ckop_4 : _ = some _ := blk_cell kop 4
  have ckop_5 : _ = some _ := blk_cell kop 5
  have fkop_0 := blk_free kop 0
  have fkop_1 := blk_free kop 1
  have fkop_2 := blk_free kop 2
  have fkop_3 := blk_free kop 3
  have fkop_4 := blk_free kop 4
  have fkop_5 := blk_free kop 5
  go_wp2_with (go_at_call 46; fail "x")
  refine (cC V hbV hszV).mono ?_
  rintro e X ⟨v, rfl, hR, hB⟩
  have kbX := hB.blk kbx (by intro hh; rcases hh with hh | hh <;> omega)
  have okbX := blk_older kbX
  have ckbX_0 : _ = some _ := blk_cell kbX 0
  have ckbX_1 : _ = some _ := blk_cell kbX 1
  have ckbX_2 : _ = some _ := blk_cell kbX 2
  have ckbX_3 : _ = some _ := blk_cell kbX 3
  have fkbX_0 := blk_free kbX 0
  have fkbX_1 := blk_free kbX 1
  have fkbX_2 := blk_free kbX 2
  have fkbX_3 := blk_free kbX 3
  go_wp2_with fail
  refine post_nm20 ?_
  intro Z hZ
  have kZ : blk Z (w.heap.size + 1) #[.int .i64 0, .int .i64 0, .int .i64 0, .int .i64 0] 26 := by rw [hZ]; exact (by apply blk_of; (repeat (first | with_reducible apply blk_set | with_reducible apply blk_gw | with_reducible apply blk_drew | with_reducible apply blk_alloc | with_reducible exact kbX | with_reducible exact blk_new _ _ _ | ((with_reducible refine blk_at ?_); (simp; done)))); (first | rfl | simp))
  have hBZ : But (fun k => k = w.heap.size + 1) X Z := by rw [hZ]; exact bBut
  clear hZ
  have okZ := blk_older kZ
  have ckZ_0 : _ = some _ := blk_cell kZ 0
  have ckZ_1 : _ = some _ := blk_cell kZ 1
  have ckZ_2 : _ = some _ := blk_cell kZ 2
  have ckZ_3 : _ = some _ := blk_cell kZ 3
  have fkZ_0 := blk_free kZ 0
  have fkZ_1 := blk_free kZ 1
  have fkZ_2 := blk_free kZ 2
  have fkZ_3 := blk_free kZ 3
  exact bodyPost_ret (v := .tuple #[.int .i64 0, v, .agg #[.int .i64 0, .int .i64 0, .int .i64 0, .int .i64 0]]) (by simp [results, Try.results23, go_sem, ckZ_0, ckZ_1, ckZ_2, ckZ_3]) rfl ⟨v, rfl, V, X, hbV, hszV, hR, hB, hBZ⟩

set_option maxRecDepth 100000 in
set_option maxHeartbeats 8000000 in
theorem rap_k0 (p : Value) (k i x0 y0 x1 y1 : Int) (w : World) (h1 : ¬ k = 1) (h2 : ¬ k = 2) (h3 : ¬ k = 3) (h4 : ¬ k = 4) (h5 : ¬ k = 5) (h6 : ¬ k = 6) : Calls Try.prog 23 #[p, .agg #[.int .i64 k, .int .i64 i, .int .i64 x0, .int .i64 y0, .int .i64 x1, .int .i64 y1]] w fun e w' => e = .returned (.tuple #[.int .i64 0, .slice none 0 0, .agg #[.int .i64 0, .int .i64 0, .int .i64 0, .int .i64 0]]) ∧ Below w.heap.size w w' := by
  go_enter Try.func23, Try.ntmps23
  go_upto_region 1 with fail
  refine wp_named ?_
  intro V hV
  have kop : blk V w.heap.size #[.int .i64 k, .int .i64 i, .int .i64 x0, .int .i64 y0, .int .i64 x1, .int .i64 y1] 34 := by rw [hV]; exact bBkn
  have kbx : blk V (w.heap.size + 1) #[.int .i64 0, .int .i64 0, .int .i64 0, .int .i64 0] 26 := by rw [hV]; exact bBkn
  have hbV : Below w.heap.size w V := by rw [hV]; exact bBel
  have hszV : V.heap.size = w.heap.size + 2 := by rw [hV]; simp
  clear hV
  have okop := blk_older kop
  have ckop_0 : _ = some _ := blk_cell kop 0
  have ckop_1 : _ = some _ := blk_cell kop 1
  have ckop_2 : _ = some _ := blk_cell kop 2
  have ckop_3 : _ = some _ := blk_cell kop 3
  have ckop_4 : _ = some _ := blk_cell kop 4
  have ckop_5 : _ = some _ := blk_cell kop 5
  have fkop_0 := blk_free kop 0
  have fkop_1 := blk_free kop 1
  have fkop_2 := blk_free kop 2
  have fkop_3 := blk_free kop 3
  have fkop_4 := blk_free kop 4
  have fkop_5 := blk_free kop 5
  have okbx := blk_older kbx
  have ckbx_0 : _ = some _ := blk_cell kbx 0
  have ckbx_1 : _ = some _ := blk_cell kbx 1
  have ckbx_2 : _ = some _ := blk_cell kbx 2
  have ckbx_3 : _ = some _ := blk_cell kbx 3
  have fkbx_0 := blk_free kbx 0
  have fkbx_1 := blk_free kbx 1
  have fkbx_2 := blk_free kbx 2
  have fkbx_3 := blk_free kbx 3
  go_wp2_with fail
  refine post_nm20 ?_
  intro Z hZ
  have kZ : blk Z (w.heap.size + 1) #[.int .i64 0, .int .i64 0, .int .i64 0, .int .i64 0] 26 := by rw [hZ]; exact (by apply blk_of; (repeat (first | with_reducible apply blk_set | with_reducible apply blk_gw | with_reducible apply blk_drew | with_reducible apply blk_alloc | with_reducible exact kbx | with_reducible exact blk_new _ _ _ | ((with_reducible refine blk_at ?_); (simp; done)))); (first | rfl | simp))
  have hBZ : Below w.heap.size w Z := by rw [hZ]; exact bBel
  clear hZ
  have okZ := blk_older kZ
  have ckZ_0 : _ = some _ := blk_cell kZ 0
  have ckZ_1 : _ = some _ := blk_cell kZ 1
  have ckZ_2 : _ = some _ := blk_cell kZ 2
  have ckZ_3 : _ = some _ := blk_cell kZ 3
  have fkZ_0 := blk_free kZ 0
  have fkZ_1 := blk_free kZ 1
  have fkZ_2 := blk_free kZ 2
  have fkZ_3 := blk_free kZ 3
  exact bodyPost_ret (v := .tuple #[.int .i64 0, .slice none 0 0, .agg #[.int .i64 0, .int .i64 0, .int .i64 0, .int .i64 0]]) (by simp [results, Try.results23, go_sem, ckZ_0, ckZ_1, ckZ_2, ckZ_3]) rfl ⟨rfl, hBZ⟩

end Go.Proofs.Ytdldlcibjjccpaa
