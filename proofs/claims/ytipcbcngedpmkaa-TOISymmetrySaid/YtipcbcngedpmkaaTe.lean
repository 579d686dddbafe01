/- Laws of chapter 19: TOISymmetry, TOIBounds, TOIStart. -/
import Derived.Test.YtipcbcngedpmkaaTd
import Derived.Test.YtipcbcngedpmkaaCo9
set_option linter.unusedVariables false
namespace Go.Proofs.Ytipcbcngedpmkaa
open Go.RowKit Fx

set_option maxRecDepth 100000 in
set_option maxHeartbeats 16000000 in
theorem sym19_b (K R : Int) (A : Option Addr) (ca : Nat) (ps : List (Int × Int)) (K2 R2 : Int) (B_ : Option Addr) (cb : Nat) (qs : List (Int × Int)) (px py pa ux uy ua qx qy qa vx vy va : Int) (w : World) (hp : Pts w A ps) (hl : ps.length ≤ ca) (hq : Pts w B_ qs) (hm : qs.length ≤ cb) : Calls Try.prog 4 #[.agg #[.int .i64 K, .int .i64 R, .slice A ps.length ca, .int .i64 K2, .int .i64 R2, .slice B_ qs.length cb, .int .i64 px, .int .i64 py, .int .i64 pa, .int .i64 ux, .int .i64 uy, .int .i64 ua, .int .i64 qx, .int .i64 qy, .int .i64 qa, .int .i64 vx, .int .i64 vy, .int .i64 va]] w fun e w' => e = .returned (.bool true) ∧ Below w.heap.size w w' := by
  have e0 := example19_b
  have cW := fun w' => few19_b K R A ca ps K2 R2 B_ cb qs px py pa ux uy ua qx qy qa vx vy va w'
  by_cases hf : ps.length ≤ 20 ∧ qs.length ≤ 20
  rotate_left
  focus
    rw [decide_eq_false hf] at cW
    go_enter Try.func4, Try.ntmps4
    go_upto_region 1 with fail
    refine wp_named ?_
    intro W hW
    have kX : blk W w.heap.size #[.int .i64 K, .int .i64 R, .slice A ps.length ca, .int .i64 K2, .int .i64 R2, .slice B_ qs.length cb, .int .i64 px, .int .i64 py, .int .i64 pa, .int .i64 ux, .int .i64 uy, .int .i64 ua, .int .i64 qx, .int .i64 qy, .int .i64 qa, .int .i64 vx, .int .i64 vy, .int .i64 va] 31 := by rw [hW]; exact bBkn
    have hbW : Below w.heap.size w W := by rw [hW]; exact bBel
    have hszW := hbW.size
    clear hW
    have okX := blk_older kX
    have ckX_0 : _ = some _ := blk_cell kX 0
    have ckX_1 : _ = some _ := blk_cell kX 1
    have ckX_2 : _ = some _ := blk_cell kX 2
    have ckX_3 : _ = some _ := blk_cell kX 3
    have ckX_4 : _ = some _ := blk_cell kX 4
    have ckX_5 : _ = some _ := blk_cell kX 5
    have ckX_6 : _ = some _ := blk_cell kX 6
    have ckX_7 : _ = some _ := blk_cell kX 7
    have ckX_8 : _ = some _ := blk_cell kX 8
    have ckX_9 : _ = some _ := blk_cell kX 9
    have ckX_10 : _ = some _ := blk_cell kX 10
    have ckX_11 : _ = some _ := blk_cell kX 11
    have ckX_12 : _ = some _ := blk_cell kX 12
    have ckX_13 : _ = some _ := blk_cell kX 13
    have ckX_14 : _ = some _ := blk_cell kX 14
    have ckX_15 : _ = some _ := blk_cell kX 15
    have ckX_16 : _ = some _ := blk_cell kX 16
    have ckX_17 : _ = some _ := blk_cell kX 17
    have fkX_0 := blk_free kX 0
    have fkX_1 := blk_free kX 1
    have fkX_2 := blk_free kX 2
    have fkX_3 := blk_free kX 3
    have fkX_4 := blk_free kX 4
    have fkX_5 := blk_free kX 5
    have fkX_6 := blk_free kX 6
    have fkX_7 := blk_free kX 7
    have fkX_8 := blk_free kX 8
    have fkX_9 := blk_free kX 9
    have fkX_10 := blk_free kX 10
    have fkX_11 := blk_free kX 11
    have fkX_12 := blk_free kX 12
    have fkX_13 := blk_free kX 13
    have fkX_14 := blk_free kX 14
    have fkX_15 := blk_free kX 15
    have fkX_16 := blk_free kX 16
    have fkX_17 := blk_free kX 17
    go_wp2_with (first | (refine wpList_load_mid rfl 31 _ rfl w.heap.size 0 rfl [.int .i64 K, .int .i64 R, .slice A ps.length ca, .int .i64 K2, .int .i64 R2, .slice B_ qs.length cb, .int .i64 px, .int .i64 py, .int .i64 pa, .int .i64 ux, .int .i64 uy, .int .i64 ua, .int .i64 qx, .int .i64 qy, .int .i64 qa, .int .i64 vx, .int .i64 vy, .int .i64 va] _ (rng_blk (by apply blk_of; (repeat (first | with_reducible exact kX | with_reducible apply blk_drew | with_reducible apply blk_gw | with_reducible apply blk_alloc | with_reducible apply blk_set | ((with_reducible apply blk_other); focus omega))); (first | rfl | simp))) Try.underlying31 rfl (by kernel_rfl) ?_) | (go_at_call 6; refine Calls.mono (gw_at (cW _)) ?_; rintro e w1 ⟨rfl, q, rfl⟩) | (go_at_call 8; refine Calls.mono (gw_at (e0 _)) ?_; rintro e w1 ⟨rfl, q0, rfl⟩))
    go_ret
    exact ⟨rfl, bBel⟩
  rw [decide_eq_true hf] at cW
  have hin := toiS_in ⟨K, R, ps, px, py, pa, ux, uy, ua⟩ ⟨K2, R2, qs, qx, qy, qa, vx, vy, va⟩
  have hc := toiS_comm ⟨K, R, ps, px, py, pa, ux, uy, ua⟩ ⟨K2, R2, qs, qx, qy, qa, vx, vy, va⟩
  obtain ⟨H, hH⟩ : ∃ H, toiS ⟨K, R, ps, px, py, pa, ux, uy, ua⟩ ⟨K2, R2, qs, qx, qy, qa, vx, vy, va⟩ = H := ⟨_, rfl⟩
  obtain ⟨T, D⟩ := H
  rw [hH] at hc hin
  have c1 := fun w' h h' => ytoi_b K R K2 R2 A B_ ca cb ps qs px py pa ux uy ua qx qy qa vx vy va T D (by omega) (by omega) hl hm hH w' h h'
  have c2 := fun w' h h' => ytoi_b K2 R2 K R B_ A cb ca qs ps qx qy qa vx vy va px py pa ux uy ua T D (by omega) (by omega) hm hl hc w' h h'
  obtain ⟨⟨t0, t1⟩, t2⟩ := hin
  have t0 : 0 ≤ T := t0
  have t1 : T ≤ 65536 := t1
  clear hH hc hf
  cases D
  · obtain rfl : T = 0 := t2 rfl
    clear t2
    go_enter Try.func4, Try.ntmps4
    go_upto_region 1 with fail
    refine wp_named ?_
    intro W hW
    have kX : blk W w.heap.size #[.int .i64 K, .int .i64 R, .slice A ps.length ca, .int .i64 K2, .int .i64 R2, .slice B_ qs.length cb, .int .i64 px, .int .i64 py, .int .i64 pa, .int .i64 ux, .int .i64 uy, .int .i64 ua, .int .i64 qx, .int .i64 qy, .int .i64 qa, .int .i64 vx, .int .i64 vy, .int .i64 va] 31 := by rw [hW]; exact bBkn
    have hbW : Below w.heap.size w W := by rw [hW]; exact bBel
    have hszW := hbW.size
    clear hW
    have okX := blk_older kX
    have ckX_0 : _ = some _ := blk_cell kX 0
    have ckX_1 : _ = some _ := blk_cell kX 1
    have ckX_2 : _ = some _ := blk_cell kX 2
    have ckX_3 : _ = some _ := blk_cell kX 3
    have ckX_4 : _ = some _ := blk_cell kX 4
    have ckX_5 : _ = some _ := blk_cell kX 5
    have ckX_6 : _ = some _ := blk_cell kX 6
    have ckX_7 : _ = some _ := blk_cell kX 7
    have ckX_8 : _ = some _ := blk_cell kX 8
    have ckX_9 : _ = some _ := blk_cell kX 9
    have ckX_10 : _ = some _ := blk_cell kX 10
    have ckX_11 : _ = some _ := blk_cell kX 11
    have ckX_12 : _ = some _ := blk_cell kX 12
    have ckX_13 : _ = some _ := blk_cell kX 13
    have ckX_14 : _ = some _ := blk_cell kX 14
    have ckX_15 : _ = some _ := blk_cell kX 15
    have ckX_16 : _ = some _ := blk_cell kX 16
    have ckX_17 : _ = some _ := blk_cell kX 17
    have fkX_0 := blk_free kX 0
    have fkX_1 := blk_free kX 1
    have fkX_2 := blk_free kX 2
    have fkX_3 := blk_free kX 3
    have fkX_4 := blk_free kX 4
    have fkX_5 := blk_free kX 5
    have fkX_6 := blk_free kX 6
    have fkX_7 := blk_free kX 7
    have fkX_8 := blk_free kX 8
    have fkX_9 := blk_free kX 9
    have fkX_10 := blk_free kX 10
    have fkX_11 := blk_free kX 11
    have fkX_12 := blk_free kX 12
    have fkX_13 := blk_free kX 13
    have fkX_14 := blk_free kX 14
    have fkX_15 := blk_free kX 15
    have fkX_16 := blk_free kX 16
    have fkX_17 := blk_free kX 17
    go_wp2_with (first | (refine wpList_load_mid rfl 31 _ rfl w.heap.size 0 rfl [.int .i64 K, .int .i64 R, .slice A ps.length ca, .int .i64 K2, .int .i64 R2, .slice B_ qs.length cb, .int .i64 px, .int .i64 py, .int .i64 pa, .int .i64 ux, .int .i64 uy, .int .i64 ua, .int .i64 qx, .int .i64 qy, .int .i64 qa, .int .i64 vx, .int .i64 vy, .int .i64 va] _ (rng_blk (by apply blk_of; (repeat (first | with_reducible exact kX | with_reducible apply blk_drew | with_reducible apply blk_gw | with_reducible apply blk_alloc | with_reducible apply blk_set | ((with_reducible apply blk_other); focus omega))); (first | rfl | simp))) Try.underlying31 rfl (by kernel_rfl) ?_) | (go_at_call 6; refine Calls.mono (gw_at (cW _)) ?_; rintro e w1 ⟨rfl, q, rfl⟩) | (go_at_call 10; (with_reducible show Calls _ _ #[.agg #[.int .i64 K, .int .i64 R, .slice A _ _], _, _, _, _, _] _ _); refine Calls.mono (gw_at (c1 _ (Pts.to hp bBel) (Pts.to hq bBel))) ?_; rintro e w1 ⟨rfl, q1, rfl⟩) | (go_at_call 10; (with_reducible show Calls _ _ #[.agg #[.int .i64 K2, .int .i64 R2, .slice B_ _ _], _, _, _, _, _] _ _); refine Calls.mono (gw_at (c2 _ (Pts.to hq bBel) (Pts.to hp bBel))) ?_; rintro e w1 ⟨rfl, q2, rfl⟩) | (go_at_call 8; refine Calls.mono (gw_at (e0 _)) ?_; rintro e w1 ⟨rfl, q0, rfl⟩))
    go_ret
    exact ⟨rfl, bBel⟩
  · clear t2
    go_enter Try.func4, Try.ntmps4
    go_upto_region 1 with fail
    refine wp_named ?_
    intro W hW
    have kX : blk W w.heap.size #[.int .i64 K, .int .i64 R, .slice A ps.length ca, .int .i64 K2, .int .i64 R2, .slice B_ qs.length cb, .int .i64 px, .int .i64 py, .int .i64 pa, .int .i64 ux, .int .i64 uy, .int .i64 ua, .int .i64 qx, .int .i64 qy, .int .i64 qa, .int .i64 vx, .int .i64 vy, .int .i64 va] 31 := by rw [hW]; exact bBkn
    have hbW : Below w.heap.size w W := by rw [hW]; exact bBel
    have hszW := hbW.size
    clear hW
    have okX := blk_older kX
    have ckX_0 : _ = some _ := blk_cell kX 0
    have ckX_1 : _ = some _ := blk_cell kX 1
    have ckX_2 : _ = some _ := blk_cell kX 2
    have ckX_3 : _ = some _ := blk_cell kX 3
    have ckX_4 : _ = some _ := blk_cell kX 4
    have ckX_5 : _ = some _ := blk_cell kX 5
    have ckX_6 : _ = some _ := blk_cell kX 6
    have ckX_7 : _ = some _ := blk_cell kX 7
    have ckX_8 : _ = some _ := blk_cell kX 8
    have ckX_9 : _ = some _ := blk_cell kX 9
    have ckX_10 : _ = some _ := blk_cell kX 10
    have ckX_11 : _ = some _ := blk_cell kX 11
    have ckX_12 : _ = some _ := blk_cell kX 12
    have ckX_13 : _ = some _ := blk_cell kX 13
    have ckX_14 : _ = some _ := blk_cell kX 14
    have ckX_15 : _ = some _ := blk_cell kX 15
    have ckX_16 : _ = some _ := blk_cell kX 16
    have ckX_17 : _ = some _ := blk_cell kX 17
    have fkX_0 := blk_free kX 0
    have fkX_1 := blk_free kX 1
    have fkX_2 := blk_free kX 2
    have fkX_3 := blk_free kX 3
    have fkX_4 := blk_free kX 4
    have fkX_5 := blk_free kX 5
    have fkX_6 := blk_free kX 6
    have fkX_7 := blk_free kX 7
    have fkX_8 := blk_free kX 8
    have fkX_9 := blk_free kX 9
    have fkX_10 := blk_free kX 10
    have fkX_11 := blk_free kX 11
    have fkX_12 := blk_free kX 12
    have fkX_13 := blk_free kX 13
    have fkX_14 := blk_free kX 14
    have fkX_15 := blk_free kX 15
    have fkX_16 := blk_free kX 16
    have fkX_17 := blk_free kX 17
    go_wp2_with (first | (refine wpList_load_mid rfl 31 _ rfl w.heap.size 0 rfl [.int .i64 K, .int .i64 R, .slice A ps.length ca, .int .i64 K2, .int .i64 R2, .slice B_ qs.length cb, .int .i64 px, .int .i64 py, .int .i64 pa, .int .i64 ux, .int .i64 uy, .int .i64 ua, .int .i64 qx, .int .i64 qy, .int .i64 qa, .int .i64 vx, .int .i64 vy, .int .i64 va] _ (rng_blk (by apply blk_of; (repeat (first | with_reducible exact kX | with_reducible apply blk_drew | with_reducible apply blk_gw | with_reducible apply blk_alloc | with_reducible apply blk_set | ((with_reducible apply blk_other); focus omega))); (first | rfl | simp))) Try.underlying31 rfl (by kernel_rfl) ?_) | (go_at_call 6; refine Calls.mono (gw_at (cW _)) ?_; rintro e w1 ⟨rfl, q, rfl⟩) | (go_at_call 10; (with_reducible show Calls _ _ #[.agg #[.int .i64 K, .int .i64 R, .slice A _ _], _, _, _, _, _] _ _); refine Calls.mono (gw_at (c1 _ (Pts.to hp bBel) (Pts.to hq bBel))) ?_; rintro e w1 ⟨rfl, q1, rfl⟩) | (go_at_call 10; (with_reducible show Calls _ _ #[.agg #[.int .i64 K2, .int .i64 R2, .slice B_ _ _], _, _, _, _, _] _ _); refine Calls.mono (gw_at (c2 _ (Pts.to hq bBel) (Pts.to hp bBel))) ?_; rintro e w1 ⟨rfl, q2, rfl⟩) | (go_at_call 8; refine Calls.mono (gw_at (e0 _)) ?_; rintro e w1 ⟨rfl, q0, rfl⟩))
    go_ret
    exact ⟨rfl, bBel⟩

theorem walk_TOISymmetry (f : Mot) (w : World) (hf : MotIn w f) : Calls Try.prog 4 #[.agg #[.int .i64 f.K, .int .i64 f.R, .slice f.A f.ps.length f.ca, .int .i64 f.K2, .int .i64 f.R2, .slice f.B f.qs.length f.cb, .int .i64 f.px, .int .i64 f.py, .int .i64 f.pa, .int .i64 f.ux, .int .i64 f.uy, .int .i64 f.ua, .int .i64 f.qx, .int .i64 f.qy, .int .i64 f.qa, .int .i64 f.vx, .int .i64 f.vy, .int .i64 f.va]] w fun e w' => e = .returned (.bool true) ∧ Below w.heap.size w w' := by
  obtain ⟨hp, _, hl, _, hq, _, hm, _⟩ := hf
  exact sym19_b _ _ _ _ _ _ _ _ _ _ _ _ _ _ _ _ _ _ _ _ _ _ w hp hl hq hm

set_option maxRecDepth 100000 in
set_option maxHeartbeats 16000000 in
theorem bnd19x_b (K R : Int) (A : Option Addr) (ca : Nat) (ps : List (Int × Int)) (K2 R2 : Int) (B_ : Option Addr) (cb : Nat) (qs : List (Int × Int)) (px py pa ux uy ua qx qy qa vx vy va : Int) (w : World) (hp : Pts w A ps) (hl : ps.length ≤ ca) (hq : Pts w B_ qs) (hm : qs.length ≤ cb) (hv : ¬ valS K R ps = 0) : Calls Try.prog 5 #[.agg #[.int .i64 K, .int .i64 R, .slice A ps.length ca, .int .i64 K2, .int .i64 R2, .slice B_ qs.length cb, .int .i64 px, .int .i64 py, .int .i64 pa, .int .i64 ux, .int .i64 uy, .int .i64 ua, .int .i64 qx, .int .i64 qy, .int .i64 qa, .int .i64 vx, .int .i64 vy, .int .i64 va]] w fun e w' => e = .returned (.bool true) ∧ Below w.heap.size w w' := by
  have e0 := example19_b
  have cW := fun w' => few19_b K R A ca ps K2 R2 B_ cb qs px py pa ux uy ua qx qy qa vx vy va w'
  by_cases hf : ps.length ≤ 20 ∧ qs.length ≤ 20
  rotate_left
  focus
    rw [decide_eq_false hf] at cW
    go_enter Try.func5, Try.ntmps5
    go_upto_region 1 with fail
    refine wp_named ?_
    intro W hW
    have kX : blk W w.heap.size #[.int .i64 K, .int .i64 R, .slice A ps.length ca, .int .i64 K2, .int .i64 R2, .slice B_ qs.length cb, .int .i64 px, .int .i64 py, .int .i64 pa, .int .i64 ux, .int .i64 uy, .int .i64 ua, .int .i64 qx, .int .i64 qy, .int .i64 qa, .int .i64 vx, .int .i64 vy, .int .i64 va] 31 := by rw [hW]; exact bBkn
    have hbW : Below w.heap.size w W := by rw [hW]; exact bBel
    have hszW := hbW.size
    clear hW
    have okX := blk_older kX
    have ckX_0 : _ = some _ := blk_cell kX 0
    have ckX_1 : _ = some _ := blk_cell kX 1
    have ckX_2 : _ = some _ := blk_cell kX 2
    have ckX_3 : _ = some _ := blk_cell kX 3
    have ckX_4 : _ = some _ := blk_cell kX 4
    have ckX_5 : _ = some _ := blk_cell kX 5
    have ckX_6 : _ = some _ := blk_cell kX 6
    have ckX_7 : _ = some _ := blk_cell kX 7
    have ckX_8 : _ = some _ := blk_cell kX 8
    have ckX_9 : _ = some _ := blk_cell kX 9
    have ckX_10 : _ = some _ := blk_cell kX 10
    have ckX_11 : _ = some _ := blk_cell kX 11
    have ckX_12 : _ = some _ := blk_cell kX 12
    have ckX_13 : _ = some _ := blk_cell kX 13
    have ckX_14 : _ = some _ := blk_cell kX 14
    have ckX_15 : _ = some _ := blk_cell kX 15
    have ckX_16 : _ = some _ := blk_cell kX 16
    have ckX_17 : _ = some _ := blk_cell kX 17
    have fkX_0 := blk_free kX 0
    have fkX_1 := blk_free kX 1
    have fkX_2 := blk_free kX 2
    have fkX_3 := blk_free kX 3
    have fkX_4 := blk_free kX 4
    have fkX_5 := blk_free kX 5
    have fkX_6 := blk_free kX 6
    have fkX_7 := blk_free kX 7
    have fkX_8 := blk_free kX 8
    have fkX_9 := blk_free kX 9
    have fkX_10 := blk_free kX 10
    have fkX_11 := blk_free kX 11
    have fkX_12 := blk_free kX 12
    have fkX_13 := blk_free kX 13
    have fkX_14 := blk_free kX 14
    have fkX_15 := blk_free kX 15
    have fkX_16 := blk_free kX 16
    have fkX_17 := blk_free kX 17
    go_wp2_with (first | (refine wpList_load_mid rfl 31 _ rfl w.heap.size 0 rfl [.int .i64 K, .int .i64 R, .slice A ps.length ca, .int .i64 K2, .int .i64 R2, .slice B_ qs.length cb, .int .i64 px, .int .i64 py, .int .i64 pa, .int .i64 ux, .int .i64 uy, .int .i64 ua, .int .i64 qx, .int .i64 qy, .int .i64 qa, .int .i64 vx, .int .i64 vy, .int .i64 va] _ (rng_blk (by apply blk_of; (repeat (first | with_reducible exact kX | with_reducible apply blk_drew | with_reducible apply blk_gw | with_reducible apply blk_alloc | with_reducible apply blk_set | ((with_reducible apply blk_other); focus omega))); (first | rfl | simp))) Try.underlying31 rfl (by kernel_rfl) ?_) | (go_at_call 6; refine Calls.mono (gw_at (cW _)) ?_; rintro e w1 ⟨rfl, q, rfl⟩) | (go_at_call 8; refine Calls.mono (gw_at (e0 _)) ?_; rintro e w1 ⟨rfl, q0, rfl⟩))
    go_ret
    exact ⟨rfl, bBel⟩
  rw [decide_eq_true hf] at cW
  have hin := toiS_in ⟨K, R, ps, px, py, pa, ux, uy, ua⟩ ⟨K2, R2, qs, qx, qy, qa, vx, vy, va⟩
  have cV := fun w' h => rval_b K R A ca ps (by omega) w' h
  have cM := fun N hN w' h => ymb_b K R A ca ps px py pa ux uy ua N (by omega) hl hN w' h
  have cR := fun N hN w' h => ymb_b K R A ca ps px py pa px py pa N (by omega) hl hN w' h
  have c1 := fun w' h h' => ytoi_b K R K2 R2 A B_ ca cb ps qs px py pa ux uy ua qx qy qa vx vy va 0 false (by omega) (by omega) hl hm (toiS_bad fun h => hv h.1) w' h h'
  have cM := cM 0 (mb_bad hv)
  have b1 : (valS K R ps != 0) = true := by rw [bne_iff_ne]; exact hv
  generalize valS K R ps = V at *
  clear hv hin cR hf
  go_enter Try.func5, Try.ntmps5
  go_upto_region 1 with fail
  refine wp_named ?_
  intro W hW
  have kX : blk W w.heap.size #[.int .i64 K, .int .i64 R, .slice A ps.length ca, .int .i64 K2, .int .i64 R2, .slice B_ qs.length cb, .int .i64 px, .int .i64 py, .int .i64 pa, .int .i64 ux, .int .i64 uy, .int .i64 ua, .int .i64 qx, .int .i64 qy, .int .i64 qa, .int .i64 vx, .int .i64 vy, .int .i64 va] 31 := by rw [hW]; exact bBkn
  have hbW : Below w.heap.size w W := by rw [hW]; exact bBel
  have hszW := hbW.size
  clear hW
  have okX := blk_older kX
  have ckX_0 : _ = some _ := blk_cell kX 0
  have ckX_1 : _ = some _ := blk_cell kX 1
  have ckX_2 : _ = some _ := blk_cell kX 2
  have ckX_3 : _ = some _ := blk_cell kX 3
  have ckX_4 : _ = some _ := blk_cell kX 4
  have ckX_5 : _ = some _ := blk_cell kX 5
  have ckX_6 : _ = some _ := blk_cell kX 6
  have ckX_7 : _ = some _ := blk_cell kX 7
  have ckX_8 : _ = some _ := blk_cell kX 8
  have ckX_9 : _ = some _ := blk_cell kX 9
  have ckX_10 : _ = some _ := blk_cell kX 10
  have ckX_11 : _ = some _ := blk_cell kX 11
  have ckX_12 : _ = some _ := blk_cell kX 12
  have ckX_13 : _ = some _ := blk_cell kX 13
  have ckX_14 : _ = some _ := blk_cell kX 14
  have ckX_15 : _ = some _ := blk_cell kX 15
  have ckX_16 : _ = some _ := blk_cell kX 16
  have ckX_17 : _ = some _ := blk_cell kX 17
  have fkX_0 := blk_free kX 0
  have fkX_1 := blk_free kX 1
  have fkX_2 := blk_free kX 2
  have fkX_3 := blk_free kX 3
  have fkX_4 := blk_free kX 4
  have fkX_5 := blk_free kX 5
  have fkX_6 := blk_free kX 6
  have fkX_7 := blk_free kX 7
  have fkX_8 := blk_free kX 8
  have fkX_9 := blk_free kX 9
  have fkX_10 := blk_free kX 10
  have fkX_11 := blk_free kX 11
  have fkX_12 := blk_free kX 12
  have fkX_13 := blk_free kX 13
  have fkX_14 := blk_free kX 14
  have fkX_15 := blk_free kX 15
  have fkX_16 := blk_free kX 16
  have fkX_17 := blk_free kX 17
  go_wp2_with (first | (refine wpList_load_mid rfl 31 _ rfl w.heap.size 0 rfl [.int .i64 K, .int .i64 R, .slice A ps.length ca, .int .i64 K2, .int .i64 R2, .slice B_ qs.length cb, .int .i64 px, .int .i64 py, .int .i64 pa, .int .i64 ux, .int .i64 uy, .int .i64 ua, .int .i64 qx, .int .i64 qy, .int .i64 qa, .int .i64 vx, .int .i64 vy, .int .i64 va] _ (rng_blk (by apply blk_of; (repeat (first | with_reducible exact kX | with_reducible apply blk_drew | with_reducible apply blk_gw | with_reducible apply blk_alloc | with_reducible apply blk_set | ((with_reducible apply blk_other); focus omega))); (first | rfl | simp))) Try.underlying31 rfl (by kernel_rfl) ?_) | (go_at_call 6; refine Calls.mono (gw_at (cW _)) ?_; rintro e w1 ⟨rfl, q, rfl⟩) | (go_at_call 13; refine Calls.mono (gw_at (cM _ (Pts.to hp bBel))) ?_; rintro e w1 ⟨rfl, q2, rfl⟩) | (go_at_call 10; refine Calls.mono (gw_at (c1 _ (Pts.to hp bBel) (Pts.to hq bBel))) ?_; rintro e w1 ⟨rfl, q1, rfl⟩) | (go_at_call 7; refine Calls.mono (gw_at (cV _ (Pts.to hp bBel))) ?_; rintro e w1 ⟨rfl, q3, rfl⟩) | (go_at_call 8; refine Calls.mono (gw_at (e0 _)) ?_; rintro e w1 ⟨rfl, q0, rfl⟩))
  go_ret
  exact ⟨rfl, bBel⟩

set_option maxRecDepth 100000 in
set_option maxHeartbeats 16000000 in
theorem bnd19y_b (K R : Int) (A : Option Addr) (ca : Nat) (ps : List (Int × Int)) (K2 R2 : Int) (B_ : Option Addr) (cb : Nat) (qs : List (Int × Int)) (px py pa ux uy ua qx qy qa vx vy va : Int) (w : World) (hp : Pts w A ps) (hl : ps.length ≤ ca) (hq : Pts w B_ qs) (hm : qs.length ≤ cb) (hv : valS K R ps = 0) : Calls Try.prog 5 #[.agg #[.int .i64 K, .int .i64 R, .slice A ps.length ca, .int .i64 K2, .int .i64 R2, .slice B_ qs.length cb, .int .i64 px, .int .i64 py, .int .i64 pa, .int .i64 ux, .int .i64 uy, .int .i64 ua, .int .i64 qx, .int .i64 qy, .int .i64 qa, .int .i64 vx, .int .i64 vy, .int .i64 va]] w fun e w' => e = .returned (.bool true) ∧ Below w.heap.size w w' := by
  have e0 := example19_b
  have cW := fun w' => few19_b K R A ca ps K2 R2 B_ cb qs px py pa ux uy ua qx qy qa vx vy va w'
  by_cases hf : ps.length ≤ 20 ∧ qs.length ≤ 20
  rotate_left
  focus
    rw [decide_eq_false hf] at cW
    go_enter Try.func5, Try.ntmps5
    go_upto_region 1 with fail
    refine wp_named ?_
    intro W hW
    have kX : blk W w.heap.size #[.int .i64 K, .int .i64 R, .slice A ps.length ca, .int .i64 K2, .int .i64 R2, .slice B_ qs.length cb, .int .i64 px, .int .i64 py, .int .i64 pa, .int .i64 ux, .int .i64 uy, .int .i64 ua, .int .i64 qx, .int .i64 qy, .int .i64 qa, .int .i64 vx, .int .i64 vy, .int .i64 va] 31 := by rw [hW]; exact bBkn
    have hbW : Below w.heap.size w W := by rw [hW]; exact bBel
    have hszW := hbW.size
    clear hW
    have okX := blk_older kX
    have ckX_0 : _ = some _ := blk_cell kX 0
    have ckX_1 : _ = some _ := blk_cell kX 1
    have ckX_2 : _ = some _ := blk_cell kX 2
    have ckX_3 : _ = some _ := blk_cell kX 3
    have ckX_4 : _ = some _ := blk_cell kX 4
    have ckX_5 : _ = some _ := blk_cell kX 5
    have ckX_6 : _ = some _ := blk_cell kX 6
    have ckX_7 : _ = some _ := blk_cell kX 7
    have ckX_8 : _ = some _ := blk_cell kX 8
    have ckX_9 : _ = some _ := blk_cell kX 9
    have ckX_10 : _ = some _ := blk_cell kX 10
    have ckX_11 : _ = some _ := blk_cell kX 11
    have ckX_12 : _ = some _ := blk_cell kX 12
    have ckX_13 : _ = some _ := blk_cell kX 13
    have ckX_14 : _ = some _ := blk_cell kX 14
    have ckX_15 : _ = some _ := blk_cell kX 15
    have ckX_16 : _ = some _ := blk_cell kX 16
    have ckX_17 : _ = some _ := blk_cell kX 17
    have fkX_0 := blk_free kX 0
    have fkX_1 := blk_free kX 1
    have fkX_2 := blk_free kX 2
    have fkX_3 := blk_free kX 3
    have fkX_4 := blk_free kX 4
    have fkX_5 := blk_free kX 5
    have fkX_6 := blk_free kX 6
    have fkX_7 := blk_free kX 7
    have fkX_8 := blk_free kX 8
    have fkX_9 := blk_free kX 9
    have fkX_10 := blk_free kX 10
    have fkX_11 := blk_free kX 11
    have fkX_12 := blk_free kX 12
    have fkX_13 := blk_free kX 13
    have fkX_14 := blk_free kX 14
    have fkX_15 := blk_free kX 15
    have fkX_16 := blk_free kX 16
    have fkX_17 := blk_free kX 17
    go_wp2_with (first | (refine wpList_load_mid rfl 31 _ rfl w.heap.size 0 rfl [.int .i64 K, .int .i64 R, .slice A ps.length ca, .int .i64 K2, .int .i64 R2, .slice B_ qs.length cb, .int .i64 px, .int .i64 py, .int .i64 pa, .int .i64 ux, .int .i64 uy, .int .i64 ua, .int .i64 qx, .int .i64 qy, .int .i64 qa, .int .i64 vx, .int .i64 vy, .int .i64 va] _ (rng_blk (by apply blk_of; (repeat (first | with_reducible exact kX | with_reducible apply blk_drew | with_reducible apply blk_gw | with_reducible apply blk_alloc | with_reducible apply blk_set | ((with_reducible apply blk_other); focus omega))); (first | rfl | simp))) Try.underlying31 rfl (by kernel_rfl) ?_) | (go_at_call 6; refine Calls.mono (gw_at (cW _)) ?_; rintro e w1 ⟨rfl, q, rfl⟩) | (go_at_call 8; refine Calls.mono (gw_at (e0 _)) ?_; rintro e w1 ⟨rfl, q0, rfl⟩))
    go_ret
    exact ⟨rfl, bBel⟩
  rw [decide_eq_true hf] at cW
  have hin := toiS_in ⟨K, R, ps, px, py, pa, ux, uy, ua⟩ ⟨K2, R2, qs, qx, qy, qa, vx, vy, va⟩
  have cV := fun w' h => rval_b K R A ca ps (by omega) w' h
  have cM := fun N hN w' h => ymb_b K R A ca ps px py pa ux uy ua N (by omega) hl hN w' h
  have cR := fun N hN w' h => ymb_b K R A ca ps px py pa px py pa N (by omega) hl hN w' h
  rw [hv] at cV
  have n1 := mb_in (m := ⟨K, R, ps, px, py, pa, ux, uy, ua⟩) hv
  have cM := cM _ rfl
  have cR := cR 4 (rest_mb (m := ⟨K, R, ps, px, py, pa, ux, uy, ua⟩) hv)
  obtain ⟨H, hH⟩ : ∃ H, toiS ⟨K, R, ps, px, py, pa, ux, uy, ua⟩ ⟨K2, R2, qs, qx, qy, qa, vx, vy, va⟩ = H := ⟨_, rfl⟩
  obtain ⟨T, D⟩ := H
  rw [hH] at hin
  have c1 := fun w' h h' => ytoi_b K R K2 R2 A B_ ca cb ps qs px py pa ux uy ua qx qy qa vx vy va T D (by omega) (by omega) hl hm hH w' h h'
  generalize Tv.mb ⟨K, R, ps, px, py, pa, ux, uy, ua⟩ = N at *
  have t2 : D = false → T = 0 := hin.2
  clear hH hf hv hin
  cases D
  · obtain rfl : T = 0 := t2 rfl
    clear t2
    go_enter Try.func5, Try.ntmps5
    go_upto_region 1 with fail
    refine wp_named ?_
    intro W hW
    have kX : blk W w.heap.size #[.int .i64 K, .int .i64 R, .slice A ps.length ca, .int .i64 K2, .int .i64 R2, .slice B_ qs.length cb, .int .i64 px, .int .i64 py, .int .i64 pa, .int .i64 ux, .int .i64 uy, .int .i64 ua, .int .i64 qx, .int .i64 qy, .int .i64 qa, .int .i64 vx, .int .i64 vy, .int .i64 va] 31 := by rw [hW]; exact bBkn
    have hbW : Below w.heap.size w W := by rw [hW]; exact bBel
    have hszW := hbW.size
    clear hW
    have okX := blk_older kX
    have ckX_0 : _ = some _ := blk_cell kX 0
    have ckX_1 : _ = some _ := blk_cell kX 1
    have ckX_2 : _ = some _ := blk_cell kX 2
    have ckX_3 : _ = some _ := blk_cell kX 3
    have ckX_4 : _ = some _ := blk_cell kX 4
    have ckX_5 : _ = some _ := blk_cell kX 5
    have ckX_6 : _ = some _ := blk_cell kX 6
    have ckX_7 : _ = some _ := blk_cell kX 7
    have ckX_8 : _ = some _ := blk_cell kX 8
    have ckX_9 : _ = some _ := blk_cell kX 9
    have ckX_10 : _ = some _ := blk_cell kX 10
    have ckX_11 : _ = some _ := blk_cell kX 11
    have ckX_12 : _ = some _ := blk_cell kX 12
    have ckX_13 : _ = some _ := blk_cell kX 13
    have ckX_14 : _ = some _ := blk_cell kX 14
    have ckX_15 : _ = some _ := blk_cell kX 15
    have ckX_16 : _ = some _ := blk_cell kX 16
    have ckX_17 : _ = some _ := blk_cell kX 17
    have fkX_0 := blk_free kX 0
    have fkX_1 := blk_free kX 1
    have fkX_2 := blk_free kX 2
    have fkX_3 := blk_free kX 3
    have fkX_4 := blk_free kX 4
    have fkX_5 := blk_free kX 5
    have fkX_6 := blk_free kX 6
    have fkX_7 := blk_free kX 7
    have fkX_8 := blk_free kX 8
    have fkX_9 := blk_free kX 9
    have fkX_10 := blk_free kX 10
    have fkX_11 := blk_free kX 11
    have fkX_12 := blk_free kX 12
    have fkX_13 := blk_free kX 13
    have fkX_14 := blk_free kX 14
    have fkX_15 := blk_free kX 15
    have fkX_16 := blk_free kX 16
    have fkX_17 := blk_free kX 17
    go_wp2_with (first | (refine wpList_load_mid rfl 31 _ rfl w.heap.size 0 rfl [.int .i64 K, .int .i64 R, .slice A ps.length ca, .int .i64 K2, .int .i64 R2, .slice B_ qs.length cb, .int .i64 px, .int .i64 py, .int .i64 pa, .int .i64 ux, .int .i64 uy, .int .i64 ua, .int .i64 qx, .int .i64 qy, .int .i64 qa, .int .i64 vx, .int .i64 vy, .int .i64 va] _ (rng_blk (by apply blk_of; (repeat (first | with_reducible exact kX | with_reducible apply blk_drew | with_reducible apply blk_gw | with_reducible apply blk_alloc | with_reducible apply blk_set | ((with_reducible apply blk_other); focus omega))); (first | rfl | simp))) Try.underlying31 rfl (by kernel_rfl) ?_) | (go_at_call 6; refine Calls.mono (gw_at (cW _)) ?_; rintro e w1 ⟨rfl, q, rfl⟩) | (go_at_call 13; (with_reducible show Calls _ _ #[_, _, .agg #[.int .i64 ux, _, _]] _ _); refine Calls.mono (gw_at (cM _ (Pts.to hp bBel))) ?_; rintro e w1 ⟨rfl, q2, rfl⟩) | (go_at_call 13; (with_reducible show Calls _ _ #[_, _, .agg #[.int .i64 px, _, _]] _ _); refine Calls.mono (gw_at (cR _ (Pts.to hp bBel))) ?_; rintro e w1 ⟨rfl, q4, rfl⟩) | (go_at_call 10; refine Calls.mono (gw_at (c1 _ (Pts.to hp bBel) (Pts.to hq bBel))) ?_; rintro e w1 ⟨rfl, q1, rfl⟩) | (go_at_call 7; refine Calls.mono (gw_at (cV _ (Pts.to hp bBel))) ?_; rintro e w1 ⟨rfl, q3, rfl⟩) | (go_at_call 8; refine Calls.mono (gw_at (e0 _)) ?_; rintro e w1 ⟨rfl, q0, rfl⟩))
    go_ret
    exact ⟨rfl, bBel⟩
  · clear t2
    go_enter Try.func5, Try.ntmps5
    go_upto_region 1 with fail
    refine wp_named ?_
    intro W hW
    have kX : blk W w.heap.size #[.int .i64 K, .int .i64 R, .slice A ps.length ca, .int .i64 K2, .int .i64 R2, .slice B_ qs.length cb, .int .i64 px, .int .i64 py, .int .i64 pa, .int .i64 ux, .int .i64 uy, .int .i64 ua, .int .i64 qx, .int .i64 qy, .int .i64 qa, .int .i64 vx, .int .i64 vy, .int .i64 va] 31 := by rw [hW]; exact bBkn
    have hbW : Below w.heap.size w W := by rw [hW]; exact bBel
    have hszW := hbW.size
    clear hW
    have okX := blk_older kX
    have ckX_0 : _ = some _ := blk_cell kX 0
    have ckX_1 : _ = some _ := blk_cell kX 1
    have ckX_2 : _ = some _ := blk_cell kX 2
    have ckX_3 : _ = some _ := blk_cell kX 3
    have ckX_4 : _ = some _ := blk_cell kX 4
    have ckX_5 : _ = some _ := blk_cell kX 5
    have ckX_6 : _ = some _ := blk_cell kX 6
    have ckX_7 : _ = some _ := blk_cell kX 7
    have ckX_8 : _ = some _ := blk_cell kX 8
    have ckX_9 : _ = some _ := blk_cell kX 9
    have ckX_10 : _ = some _ := blk_cell kX 10
    have ckX_11 : _ = some _ := blk_cell kX 11
    have ckX_12 : _ = some _ := blk_cell kX 12
    have ckX_13 : _ = some _ := blk_cell kX 13
    have ckX_14 : _ = some _ := blk_cell kX 14
    have ckX_15 : _ = some _ := blk_cell kX 15
    have ckX_16 : _ = some _ := blk_cell kX 16
    have ckX_17 : _ = some _ := blk_cell kX 17
    have fkX_0 := blk_free kX 0
    have fkX_1 := blk_free kX 1
    have fkX_2 := blk_free kX 2
    have fkX_3 := blk_free kX 3
    have fkX_4 := blk_free kX 4
    have fkX_5 := blk_free kX 5
    have fkX_6 := blk_free kX 6
    have fkX_7 := blk_free kX 7
    have fkX_8 := blk_free kX 8
    have fkX_9 := blk_free kX 9
    have fkX_10 := blk_free kX 10
    have fkX_11 := blk_free kX 11
    have fkX_12 := blk_free kX 12
    have fkX_13 := blk_free kX 13
    have fkX_14 := blk_free kX 14
    have fkX_15 := blk_free kX 15
    have fkX_16 := blk_free kX 16
    have fkX_17 := blk_free kX 17
    go_wp2_with (first | (refine wpList_load_mid rfl 31 _ rfl w.heap.size 0 rfl [.int .i64 K, .int .i64 R, .slice A ps.length ca, .int .i64 K2, .int .i64 R2, .slice B_ qs.length cb, .int .i64 px, .int .i64 py, .int .i64 pa, .int .i64 ux, .int .i64 uy, .int .i64 ua, .int .i64 qx, .int .i64 qy, .int .i64 qa, .int .i64 vx, .int .i64 vy, .int .i64 va] _ (rng_blk (by apply blk_of; (repeat (first | with_reducible exact kX | with_reducible apply blk_drew | with_reducible apply blk_gw | with_reducible apply blk_alloc | with_reducible apply blk_set | ((with_reducible apply blk_other); focus omega))); (first | rfl | simp))) Try.underlying31 rfl (by kernel_rfl) ?_) | (go_at_call 6; refine Calls.mono (gw_at (cW _)) ?_; rintro e w1 ⟨rfl, q, rfl⟩) | (go_at_call 13; (with_reducible show Calls _ _ #[_, _, .agg #[.int .i64 ux, _, _]] _ _); refine Calls.mono (gw_at (cM _ (Pts.to hp bBel))) ?_; rintro e w1 ⟨rfl, q2, rfl⟩) | (go_at_call 13; (with_reducible show Calls _ _ #[_, _, .agg #[.int .i64 px, _, _]] _ _); refine Calls.mono (gw_at (cR _ (Pts.to hp bBel))) ?_; rintro e w1 ⟨rfl, q4, rfl⟩) | (go_at_call 10; refine Calls.mono (gw_at (c1 _ (Pts.to hp bBel) (Pts.to hq bBel))) ?_; rintro e w1 ⟨rfl, q1, rfl⟩) | (go_at_call 7; refine Calls.mono (gw_at (cV _ (Pts.to hp bBel))) ?_; rintro e w1 ⟨rfl, q3, rfl⟩) | (go_at_call 8; refine Calls.mono (gw_at (e0 _)) ?_; rintro e w1 ⟨rfl, q0, rfl⟩))
    go_ret
    exact ⟨rfl, bBel⟩

theorem bnd19_b (K R : Int) (A : Option Addr) (ca : Nat) (ps : List (Int × Int)) (K2 R2 : Int) (B_ : Option Addr) (cb : Nat) (qs : List (Int × Int)) (px py pa ux uy ua qx qy qa vx vy va : Int) (w : World) (hp : Pts w A ps) (hl : ps.length ≤ ca) (hq : Pts w B_ qs) (hm : qs.length ≤ cb) : Calls Try.prog 5 #[.agg #[.int .i64 K, .int .i64 R, .slice A ps.length ca, .int .i64 K2, .int .i64 R2, .slice B_ qs.length cb, .int .i64 px, .int .i64 py, .int .i64 pa, .int .i64 ux, .int .i64 uy, .int .i64 ua, .int .i64 qx, .int .i64 qy, .int .i64 qa, .int .i64 vx, .int .i64 vy, .int .i64 va]] w fun e w' => e = .returned (.bool true) ∧ Below w.heap.size w w' := by
  by_cases hv : valS K R ps = 0
  · exact bnd19y_b K R A ca ps K2 R2 B_ cb qs px py pa ux uy ua qx qy qa vx vy va w hp hl hq hm hv
  · exact bnd19x_b K R A ca ps K2 R2 B_ cb qs px py pa ux uy ua qx qy qa vx vy va w hp hl hq hm hv

theorem walk_TOIBounds (f : Mot) (w : World) (hf : MotIn w f) : Calls Try.prog 5 #[.agg #[.int .i64 f.K, .int .i64 f.R, .slice f.A f.ps.length f.ca, .int .i64 f.K2, .int .i64 f.R2, .slice f.B f.qs.length f.cb, .int .i64 f.px, .int .i64 f.py, .int .i64 f.pa, .int .i64 f.ux, .int .i64 f.uy, .int .i64 f.ua, .int .i64 f.qx, .int .i64 f.qy, .int .i64 f.qa, .int .i64 f.vx, .int .i64 f.vy, .int .i64 f.va]] w fun e w' => e = .returned (.bool true) ∧ Below w.heap.size w w' := by
  obtain ⟨hp, _, hl, _, hq, _, hm, _⟩ := hf
  exact bnd19_b _ _ _ _ _ _ _ _ _ _ _ _ _ _ _ _ _ _ _ _ _ _ w hp hl hq hm

end Go.Proofs.Ytipcbcngedpmkaa
