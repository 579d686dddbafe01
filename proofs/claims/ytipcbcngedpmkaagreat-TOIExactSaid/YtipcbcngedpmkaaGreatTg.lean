/- Laws of chapter 19: TOIExact. -/
import Derived.Test.YtipcbcngedpmkaaGreatTd
import Derived.Test.YtipcbcngedpmkaaGreatTc
set_option linter.unusedVariables false
namespace Go.Proofs.YtipcbcngedpmkaaGreat
open Go.RowKit Fx

set_option maxRecDepth 100000 in
set_option maxHeartbeats 16000000 in
theorem exact19x_b (K R : Int) (A : Option Addr) (ca : Nat) (ps : List (Int × Int)) (K2 R2 : Int) (B_ : Option Addr) (cb : Nat) (qs : List (Int × Int)) (px py pa ux uy ua qx qy qa vx vy va : Int) (w : World) (hp : Pts w A ps) (hl : ps.length ≤ ca) (hq : Pts w B_ qs) (hm : qs.length ≤ cb) (hf : ¬ (ps.length ≤ 20 ∧ qs.length ≤ 20)) : Calls Tryz.prog 3 #[.agg #[.int .i64 K, .int .i64 R, .slice A ps.length ca, .int .i64 K2, .int .i64 R2, .slice B_ qs.length cb, .int .i64 px, .int .i64 py, .int .i64 pa, .int .i64 ux, .int .i64 uy, .int .i64 ua, .int .i64 qx, .int .i64 qy, .int .i64 qa, .int .i64 vx, .int .i64 vy, .int .i64 va]] w fun e w' => e = .returned (.bool true) ∧ Below w.heap.size w w' := by
  have e0 := example19_b
  have cW := fun w' => few19_b K R A ca ps K2 R2 B_ cb qs px py pa ux uy ua qx qy qa vx vy va w'
  rw [decide_eq_false hf] at cW
  clear hf
  go_enter Tryz.func3, Tryz.ntmps3
  go_upto_region 1 with fail
  refine wp_named ?_
  intro W hW
  have kX : blk W w.heap.size #[.int .i64 K, .int .i64 R, .slice A ps.length ca, .int .i64 K2, .int .i64 R2, .slice B_ qs.length cb, .int .i64 px, .int .i64 py, .int .i64 pa, .int .i64 ux, .int .i64 uy, .int .i64 ua, .int .i64 qx, .int .i64 qy, .int .i64 qa, .int .i64 vx, .int .i64 vy, .int .i64 va] 31 := by rw [hW]; exact bBkn
  have hbW : Below w.heap.size w W := by rw [hW]; exact bBel
  have hszW := hbW.size
  clear hW
  have okX := blk_older kX
  have ckX_0 : _ = some _ := blk_cell kX 0
  have ckX_1 : _ = some _ := blk_cell kX 1
  have ckX_2 : _ = some _ := blk_cell kX 2
  have ckX_3 : _ = some _ := blk_cell kX 3
  have ckX_4 : _ = some _ := blk_cell kX 4
  have ckX_5 : _ = some _ := blk_cell kX 5
  have ckX_6 : _ = some _ := blk_cell kX 6
  have ckX_7 : _ = some _ := blk_cell kX 7
  have ckX_8 : _ = some _ := blk_cell kX 8
  have ckX_9 : _ = some _ := blk_cell kX 9
  have ckX_10 : _ = some _ := blk_cell kX 10
  have ckX_11 : _ = some _ := blk_cell kX 11
  have ckX_12 : _ = some _ := blk_cell kX 12
  have ckX_13 : _ = some _ := blk_cell kX 13
  have ckX_14 : _ = some _ := blk_cell kX 14
  have ckX_15 : _ = some _ := blk_cell kX 15
  have ckX_16 : _ = some _ := blk_cell kX 16
  have ckX_17 : _ = some _ := blk_cell kX 17
  have fkX_0 := blk_free kX 0
  have fkX_1 := blk_free kX 1
  have fkX_2 := blk_free kX 2
  have fkX_3 := blk_free kX 3
  have fkX_4 := blk_free kX 4
  have fkX_5 := blk_free kX 5
  have fkX_6 := blk_free kX 6
  have fkX_7 := blk_free kX 7
  have fkX_8 := blk_free kX 8
  have fkX_9 := blk_free kX 9
  have fkX_10 := blk_free kX 10
  have fkX_11 := blk_free kX 11
  have fkX_12 := blk_free kX 12
  have fkX_13 := blk_free kX 13
  have fkX_14 := blk_free kX 14
  have fkX_15 := blk_free kX 15
  have fkX_16 := blk_free kX 16
  have fkX_17 := blk_free kX 17
  go_wp2_with (first | (refine wpList_load_mid rfl 31 _ rfl w.heap.size 0 rfl [.int .i64 K, .int .i64 R, .slice A ps.length ca, .int .i64 K2, .int .i64 R2, .slice B_ qs.length cb, .int .i64 px, .int .i64 py, .int .i64 pa, .int .i64 ux, .int .i64 uy, .int .i64 ua, .int .i64 qx, .int .i64 qy, .int .i64 qa, .int .i64 vx, .int .i64 vy, .int .i64 va] _ (rng_blk (by apply blk_of; (repeat (first | with_reducible exact kX | with_reducible apply blk_drew | with_reducible apply blk_gw | with_reducible apply blk_alloc | with_reducible apply blk_set | ((with_reducible apply blk_other); focus omega))); (first | rfl | simp))) Tryz.underlying31 rfl (by kernel_rfl) ?_) | (go_at_call 4; refine Calls.mono (gw_at (cW _)) ?_; rintro e w1 ⟨rfl, q, rfl⟩) | (go_at_call 5; refine Calls.mono (gw_at (e0 _)) ?_; rintro e w1 ⟨rfl, q0, rfl⟩))
  go_ret
  exact ⟨rfl, bBel⟩

set_option maxRecDepth 100000 in
set_option maxHeartbeats 16000000 in
theorem exact19_w (K R : Int) (A : Option Addr) (ca : Nat) (ps : List (Int × Int)) (K2 R2 : Int) (B_ : Option Addr) (cb : Nat) (qs : List (Int × Int)) (px py pa ux uy ua qx qy qa vx vy va : Int) (w : World) (hp : Pts w A ps) (hq : Pts w B_ qs) (T n1 n2 : Int) (D : Bool)
    (cW : ∀ w', Calls Tryz.prog 4 #[.agg #[.int .i64 K, .int .i64 R, .slice A ps.length ca, .int .i64 K2, .int .i64 R2, .slice B_ qs.length cb, .int .i64 px, .int .i64 py, .int .i64 pa, .int .i64 ux, .int .i64 uy, .int .i64 ua, .int .i64 qx, .int .i64 qy, .int .i64 qa, .int .i64 vx, .int .i64 vy, .int .i64 va]] w' fun e w'' => e = .returned (.bool true) ∧ Below w'.heap.size w' w'')
    (c1 : ∀ w', Pts w' A ps → Pts w' B_ qs → Calls Tryz.prog 6 #[.agg #[.int .i64 K, .int .i64 R, .slice A ps.length ca], .agg #[.int .i64 px, .int .i64 py, .int .i64 pa], .agg #[.int .i64 ux, .int .i64 uy, .int .i64 ua], .agg #[.int .i64 K2, .int .i64 R2, .slice B_ qs.length cb], .agg #[.int .i64 qx, .int .i64 qy, .int .i64 qa], .agg #[.int .i64 vx, .int .i64 vy, .int .i64 va]] w' fun e w'' => e = .returned (.tuple #[.int .i64 T, .bool D]) ∧ Below w'.heap.size w' w'')
    (c2 : ∀ w', Pts w' A ps → Pts w' B_ qs → Calls Tryz.prog 7 #[.agg #[.int .i64 K, .int .i64 R, .slice A ps.length ca], .agg #[.int .i64 px, .int .i64 py, .int .i64 pa], .agg #[.int .i64 ux, .int .i64 uy, .int .i64 ua], .agg #[.int .i64 K2, .int .i64 R2, .slice B_ qs.length cb], .agg #[.int .i64 qx, .int .i64 qy, .int .i64 qa], .agg #[.int .i64 vx, .int .i64 vy, .int .i64 va]] w' fun e w'' => e = .returned (.tuple #[.int .i64 T, .bool D]) ∧ Below w'.heap.size w' w'')
    (m1 : ∀ w', Pts w' A ps → Calls Tryz.prog 8 #[.agg #[.int .i64 K, .int .i64 R, .slice A ps.length ca], .agg #[.int .i64 px, .int .i64 py, .int .i64 pa], .agg #[.int .i64 ux, .int .i64 uy, .int .i64 ua]] w' fun e w'' => e = .returned (.int .i64 n1) ∧ Below w'.heap.size w' w'')
    (m2 : ∀ w', Pts w' B_ qs → Calls Tryz.prog 8 #[.agg #[.int .i64 K2, .int .i64 R2, .slice B_ qs.length cb], .agg #[.int .i64 qx, .int .i64 qy, .int .i64 qa], .agg #[.int .i64 vx, .int .i64 vy, .int .i64 va]] w' fun e w'' => e = .returned (.int .i64 n2) ∧ Below w'.heap.size w' w'')
    (r1 : ∀ w', Pts w' A ps → Calls Tryz.prog 9 #[.agg #[.int .i64 K, .int .i64 R, .slice A ps.length ca], .agg #[.int .i64 px, .int .i64 py, .int .i64 pa], .agg #[.int .i64 ux, .int .i64 uy, .int .i64 ua]] w' fun e w'' => e = .returned (.int .i64 n1) ∧ Below w'.heap.size w' w'')
    (r2 : ∀ w', Pts w' B_ qs → Calls Tryz.prog 9 #[.agg #[.int .i64 K2, .int .i64 R2, .slice B_ qs.length cb], .agg #[.int .i64 qx, .int .i64 qy, .int .i64 qa], .agg #[.int .i64 vx, .int .i64 vy, .int .i64 va]] w' fun e w'' => e = .returned (.int .i64 n2) ∧ Below w'.heap.size w' w'') : Calls Tryz.prog 3 #[.agg #[.int .i64 K, .int .i64 R, .slice A ps.length ca, .int .i64 K2, .int .i64 R2, .slice B_ qs.length cb, .int .i64 px, .int .i64 py, .int .i64 pa, .int .i64 ux, .int .i64 uy, .int .i64 ua, .int .i64 qx, .int .i64 qy, .int .i64 qa, .int .i64 vx, .int .i64 vy, .int .i64 va]] w fun e w' => e = .returned (.bool true) ∧ Below w.heap.size w w' := by
  have e0 := example19_b
  cases D
  · skip
    go_enter Tryz.func3, Tryz.ntmps3
    go_upto_region 1 with fail
    refine wp_named ?_
    intro W hW
    have kX : blk W w.heap.size #[.int .i64 K, .int .i64 R, .slice A ps.length ca, .int .i64 K2, .int .i64 R2, .slice B_ qs.length cb, .int .i64 px, .int .i64 py, .int .i64 pa, .int .i64 ux, .int .i64 uy, .int .i64 ua, .int .i64 qx, .int .i64 qy, .int .i64 qa, .int .i64 vx, .int .i64 vy, .int .i64 va] 31 := by rw [hW]; exact bBkn
    have hbW : Below w.heap.size w W := by rw [hW]; exact bBel
    have hszW := hbW.size
    clear hW
    have okX := blk_older kX
    have ckX_0 : _ = some _ := blk_cell kX 0
    have ckX_1 : _ = some _ := blk_cell kX 1
    have ckX_2 : _ = some _ := blk_cell kX 2
    have ckX_3 : _ = some _ := blk_cell kX 3
    have ckX_4 : _ = some _ := blk_cell kX 4
    have ckX_5 : _ = some _ := blk_cell kX 5
    have ckX_6 : _ = some _ := blk_cell kX 6
    have ckX_7 : _ = some _ := blk_cell kX 7
    have ckX_8 : _ = some _ := blk_cell kX 8
    have ckX_9 : _ = some _ := blk_cell kX 9
    have ckX_10 : _ = some _ := blk_cell kX 10
    have ckX_11 : _ = some _ := blk_cell kX 11
    have ckX_12 : _ = some _ := blk_cell kX 12
    have ckX_13 : _ = some _ := blk_cell kX 13
    have ckX_14 : _ = some _ := blk_cell kX 14
    have ckX_15 : _ = some _ := blk_cell kX 15
    have ckX_16 : _ = some _ := blk_cell kX 16
    have ckX_17 : _ = some _ := blk_cell kX 17
    have fkX_0 := blk_free kX 0
    have fkX_1 := blk_free kX 1
    have fkX_2 := blk_free kX 2
    have fkX_3 := blk_free kX 3
    have fkX_4 := blk_free kX 4
    have fkX_5 := blk_free kX 5
    have fkX_6 := blk_free kX 6
    have fkX_7 := blk_free kX 7
    have fkX_8 := blk_free kX 8
    have fkX_9 := blk_free kX 9
    have fkX_10 := blk_free kX 10
    have fkX_11 := blk_free kX 11
    have fkX_12 := blk_free kX 12
    have fkX_13 := blk_free kX 13
    have fkX_14 := blk_free kX 14
    have fkX_15 := blk_free kX 15
    have fkX_16 := blk_free kX 16
    have fkX_17 := blk_free kX 17
    go_upto_region 5 with (first | (refine wpList_load_mid rfl 31 _ rfl w.heap.size 0 rfl [.int .i64 K, .int .i64 R, .slice A ps.length ca, .int .i64 K2, .int .i64 R2, .slice B_ qs.length cb, .int .i64 px, .int .i64 py, .int .i64 pa, .int .i64 ux, .int .i64 uy, .int .i64 ua, .int .i64 qx, .int .i64 qy, .int .i64 qa, .int .i64 vx, .int .i64 vy, .int .i64 va] _ (rng_blk (by apply blk_of; (repeat (first | with_reducible exact kX | with_reducible apply blk_drew | with_reducible apply blk_gw | with_reducible apply blk_alloc | with_reducible apply blk_set | ((with_reducible apply blk_other); focus omega))); (first | rfl | simp))) Tryz.underlying31 rfl (by kernel_rfl) ?_) | (go_at_call 4; refine Calls.mono (gw_at (cW _)) ?_; rintro e w1 ⟨rfl, q, rfl⟩) | (go_at_call 6; refine Calls.mono (gw_at (c1 _ (Pts.to hp bBel) (Pts.to hq bBel))) ?_; rintro e w1 ⟨rfl, q4, rfl⟩) | (go_at_call 7; refine Calls.mono (gw_at (c2 _ (Pts.to hp bBel) (Pts.to hq bBel))) ?_; rintro e w1 ⟨rfl, q5, rfl⟩))
    refine wp_region_gw (by kernel_rfl) (by kernel_rfl) ?_
    repeat (go_big_quiet_step ((first | (go_at_call 8; with_reducible_and_instances exact gw_call (m1 _ (Pts.to hp bBel))) | (go_at_call 8; with_reducible_and_instances exact gw_call (m2 _ (Pts.to hq bBel))) | (go_at_call 9; with_reducible_and_instances exact gw_call (r1 _ (Pts.to hp bBel))) | (go_at_call 9; with_reducible_and_instances exact gw_call (r2 _ (Pts.to hq bBel))) | (go_at_call 5; with_reducible_and_instances exact gw_call (e0 _)))))
    refine wpQuiet_nil ?_
    intro w1 hw1
    obtain ⟨q, rfl⟩ := hw1
    go_wp2_with fail
    go_ret
    exact ⟨rfl, bBel⟩
  · skip
    go_enter Tryz.func3, Tryz.ntmps3
    go_upto_region 1 with fail
    refine wp_named ?_
    intro W hW
    have kX : blk W w.heap.size #[.int .i64 K, .int .i64 R, .slice A ps.length ca, .int .i64 K2, .int .i64 R2, .slice B_ qs.length cb, .int .i64 px, .int .i64 py, .int .i64 pa, .int .i64 ux, .int .i64 uy, .int .i64 ua, .int .i64 qx, .int .i64 qy, .int .i64 qa, .int .i64 vx, .int .i64 vy, .int .i64 va] 31 := by rw [hW]; exact bBkn
    have hbW : Below w.heap.size w W := by rw [hW]; exact bBel
    have hszW := hbW.size
    clear hW
    have okX := blk_older kX
    have ckX_0 : _ = some _ := blk_cell kX 0
    have ckX_1 : _ = some _ := blk_cell kX 1
    have ckX_2 : _ = some _ := blk_cell kX 2
    have ckX_3 : _ = some _ := blk_cell kX 3
    have ckX_4 : _ = some _ := blk_cell kX 4
    have ckX_5 : _ = some _ := blk_cell kX 5
    have ckX_6 : _ = some _ := blk_cell kX 6
    have ckX_7 : _ = some _ := blk_cell kX 7
    have ckX_8 : _ = some _ := blk_cell kX 8
    have ckX_9 : _ = some _ := blk_cell kX 9
    have ckX_10 : _ = some _ := blk_cell kX 10
    have ckX_11 : _ = some _ := blk_cell kX 11
    have ckX_12 : _ = some _ := blk_cell kX 12
    have ckX_13 : _ = some _ := blk_cell kX 13
    have ckX_14 : _ = some _ := blk_cell kX 14
    have ckX_15 : _ = some _ := blk_cell kX 15
    have ckX_16 : _ = some _ := blk_cell kX 16
    have ckX_17 : _ = some _ := blk_cell kX 17
    have fkX_0 := blk_free kX 0
    have fkX_1 := blk_free kX 1
    have fkX_2 := blk_free kX 2
    have fkX_3 := blk_free kX 3
    have fkX_4 := blk_free kX 4
    have fkX_5 := blk_free kX 5
    have fkX_6 := blk_free kX 6
    have fkX_7 := blk_free kX 7
    have fkX_8 := blk_free kX 8
    have fkX_9 := blk_free kX 9
    have fkX_10 := blk_free kX 10
    have fkX_11 := blk_free kX 11
    have fkX_12 := blk_free kX 12
    have fkX_13 := blk_free kX 13
    have fkX_14 := blk_free kX 14
    have fkX_15 := blk_free kX 15
    have fkX_16 := blk_free kX 16
    have fkX_17 := blk_free kX 17
    go_upto_region 5 with (first | (refine wpList_load_mid rfl 31 _ rfl w.heap.size 0 rfl [.int .i64 K, .int .i64 R, .slice A ps.length ca, .int .i64 K2, .int .i64 R2, .slice B_ qs.length cb, .int .i64 px, .int .i64 py, .int .i64 pa, .int .i64 ux, .int .i64 uy, .int .i64 ua, .int .i64 qx, .int .i64 qy, .int .i64 qa, .int .i64 vx, .int .i64 vy, .int .i64 va] _ (rng_blk (by apply blk_of; (repeat (first | with_reducible exact kX | with_reducible apply blk_drew | with_reducible apply blk_gw | with_reducible apply blk_alloc | with_reducible apply blk_set | ((with_reducible apply blk_other); focus omega))); (first | rfl | simp))) Tryz.underlying31 rfl (by kernel_rfl) ?_) | (go_at_call 4; refine Calls.mono (gw_at (cW _)) ?_; rintro e w1 ⟨rfl, q, rfl⟩) | (go_at_call 6; refine Calls.mono (gw_at (c1 _ (Pts.to hp bBel) (Pts.to hq bBel))) ?_; rintro e w1 ⟨rfl, q4, rfl⟩) | (go_at_call 7; refine Calls.mono (gw_at (c2 _ (Pts.to hp bBel) (Pts.to hq bBel))) ?_; rintro e w1 ⟨rfl, q5, rfl⟩))
    refine wp_region_gw (by kernel_rfl) (by kernel_rfl) ?_
    repeat (go_big_quiet_step ((first | (go_at_call 8; with_reducible_and_instances exact gw_call (m1 _ (Pts.to hp bBel))) | (go_at_call 8; with_reducible_and_instances exact gw_call (m2 _ (Pts.to hq bBel))) | (go_at_call 9; with_reducible_and_instances exact gw_call (r1 _ (Pts.to hp bBel))) | (go_at_call 9; with_reducible_and_instances exact gw_call (r2 _ (Pts.to hq bBel))) | (go_at_call 5; with_reducible_and_instances exact gw_call (e0 _)))))
    refine wpQuiet_nil ?_
    intro w1 hw1
    obtain ⟨q, rfl⟩ := hw1
    go_wp2_with fail
    go_ret
    exact ⟨rfl, bBel⟩

theorem exact19_b (K R : Int) (A : Option Addr) (ca : Nat) (ps : List (Int × Int)) (K2 R2 : Int) (B_ : Option Addr) (cb : Nat) (qs : List (Int × Int)) (px py pa ux uy ua qx qy qa vx vy va : Int) (w : World) (hp : Pts w A ps) (hl : ps.length ≤ ca) (hq : Pts w B_ qs) (hm : qs.length ≤ cb) : Calls Tryz.prog 3 #[.agg #[.int .i64 K, .int .i64 R, .slice A ps.length ca, .int .i64 K2, .int .i64 R2, .slice B_ qs.length cb, .int .i64 px, .int .i64 py, .int .i64 pa, .int .i64 ux, .int .i64 uy, .int .i64 ua, .int .i64 qx, .int .i64 qy, .int .i64 qa, .int .i64 vx, .int .i64 vy, .int .i64 va]] w fun e w' => e = .returned (.bool true) ∧ Below w.heap.size w w' := by
  by_cases hf : ps.length ≤ 20 ∧ qs.length ≤ 20
  rotate_left
  · exact exact19x_b K R A ca ps K2 R2 B_ cb qs px py pa ux uy ua qx qy qa vx vy va w hp hl hq hm hf
  have hf1 := hf.1
  have hf2 := hf.2
  obtain ⟨H, hH⟩ : ∃ H, toiS ⟨K, R, ps, px, py, pa, ux, uy, ua⟩ ⟨K2, R2, qs, qx, qy, qa, vx, vy, va⟩ = H := ⟨_, rfl⟩
  obtain ⟨T, D⟩ := H
  refine exact19_w K R A ca ps K2 R2 B_ cb qs px py pa ux uy ua qx qy qa vx vy va w hp hq T (Tv.mb ⟨K, R, ps, px, py, pa, ux, uy, ua⟩) (Tv.mb ⟨K2, R2, qs, qx, qy, qa, vx, vy, va⟩) D ?_ ?_ ?_ ?_ ?_ ?_ ?_
  · have cW := fun w' => few19_b K R A ca ps K2 R2 B_ cb qs px py pa ux uy ua qx qy qa vx vy va w'
    rw [decide_eq_true hf] at cW
    exact cW
  · exact fun w' h h' => ytoi_b K R K2 R2 A B_ ca cb ps qs px py pa ux uy ua qx qy qa vx vy va T D (by omega) (by omega) hl hm hH w' h h'
  · exact fun w' h h' => rtoi19_b K R K2 R2 A B_ ca cb ps qs px py pa ux uy ua qx qy qa vx vy va T D (by omega) (by omega) hH w' h h'
  · exact fun w' h => ymb_b K R A ca ps px py pa ux uy ua _ (by omega) hl rfl w' h
  · exact fun w' h => ymb_b K2 R2 B_ cb qs qx qy qa vx vy va _ (by omega) hm rfl w' h
  · exact fun w' h => rmb19_b K R A ca ps px py pa ux uy ua _ (by omega) rfl w' h
  · exact fun w' h => rmb19_b K2 R2 B_ cb qs qx qy qa vx vy va _ (by omega) rfl w' h

theorem walk_TOIExact (f : Mot) (w : World) (hf : MotIn w f) : Calls Tryz.prog 3 #[.agg #[.int .i64 f.K, .int .i64 f.R, .slice f.A f.ps.length f.ca, .int .i64 f.K2, .int .i64 f.R2, .slice f.B f.qs.length f.cb, .int .i64 f.px, .int .i64 f.py, .int .i64 f.pa, .int .i64 f.ux, .int .i64 f.uy, .int .i64 f.ua, .int .i64 f.qx, .int .i64 f.qy, .int .i64 f.qa, .int .i64 f.vx, .int .i64 f.vy, .int .i64 f.va]] w fun e w' => e = .returned (.bool true) ∧ Below w.heap.size w w' := by
  obtain ⟨hp, _, hl, _, hq, _, hm, _⟩ := hf
  exact exact19_b _ _ _ _ _ _ _ _ _ _ _ _ _ _ _ _ _ _ _ _ _ _ w hp hl hq hm

end Go.Proofs.YtipcbcngedpmkaaGreat
