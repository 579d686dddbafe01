/- Laws of chapter 19: TOIStart. -/
import Derived.Test.YtipcbcngedpmkaaTd
import Derived.Test.YtipcbcngedpmkaaCo9
set_option linter.unusedVariables false
namespace Go.Proofs.Ytipcbcngedpmkaa
open Go.RowKit Fx

set_option maxRecDepth 100000 in
set_option maxHeartbeats 16000000 in
theorem start19x_b (K R : Int) (A : Option Addr) (ca : Nat) (ps : List (Int × Int)) (K2 R2 : Int) (B_ : Option Addr) (cb : Nat) (qs : List (Int × Int)) (px py pa ux uy ua qx qy qa vx vy va : Int) (w : World) (hp : Pts w A ps) (hl : ps.length ≤ ca) (hq : Pts w B_ qs) (hm : qs.length ≤ cb) (hf : ¬ (ps.length ≤ 20 ∧ qs.length ≤ 20)) : Calls Try.prog 3 #[.agg #[.int .i64 K, .int .i64 R, .slice A ps.length ca, .int .i64 K2, .int .i64 R2, .slice B_ qs.length cb, .int .i64 px, .int .i64 py, .int .i64 pa, .int .i64 ux, .int .i64 uy, .int .i64 ua, .int .i64 qx, .int .i64 qy, .int .i64 qa, .int .i64 vx, .int .i64 vy, .int .i64 va]] w fun e w' => e = .returned (.bool true) ∧ Below w.heap.size w w' := by
  have e0 := example19_b
  have cW := fun w' => few19_b K R A ca ps K2 R2 B_ cb qs px py pa ux uy ua qx qy qa vx vy va w'
  rw [decide_eq_false hf] at cW
  clear hf
  go_enter Try.func3, Try.ntmps3
  go_upto_region 1 with fail
  refine wp_named ?_
  intro W hW
  have kX : blk W w.heap.size #[.int .i64 K, .int .i64 R, .slice A ps.length ca, .int .i64 K2, .int .i64 R2, .slice B_ qs.length cb, .int .i64 px, .int .i64 py, .int .i64 pa, .int .i64 ux, .int .i64 uy, .int .i64 ua, .int .i64 qx, .int .i64 qy, .int .i64 qa, .int .i64 vx, .int .i64 vy, .int .i64 va] 31 := by rw [hW]; exact bBkn
  have hbW : Below w.heap.size w W := by rw [hW]; exact bBel
  have hszW := hbW.size
  clear hW
  have okX := blk_older kX
  have ckX_0 : _ = some _ := blk_cell kX 0
  have ckX_1 : _ = some _ := blk_cell kX 1
  have ckX_2 : _ = some _ := blk_cell kX 2
  have ckX_3 : _ = some _ := blk_cell kX 3
  have ckX_4 : _ = some _ := blk_cell kX 4
  have ckX_5 : _ = some _ := blk_cell kX 5
  have ckX_6 : _ = some _ := blk_cell kX 6
  have ckX_7 : _ = some _ := blk_cell kX 7
  have ckX_8 : _ = some _ := blk_cell kX 8
  have ckX_9 : _ = some _ := blk_cell kX 9
  have ckX_10 : _ = some _ := blk_cell kX 10
  have ckX_11 : _ = some _ := blk_cell kX 11
  have ckX_12 : _ = some _ := blk_cell kX 12
  have ckX_13 : _ = some _ := blk_cell kX 13
  have ckX_14 : _ = some _ := blk_cell kX 14
  have ckX_15 : _ = some _ := blk_cell kX 15
  have ckX_16 : _ = some _ := blk_cell kX 16
  have ckX_17 : _ = some _ := blk_cell kX 17
  have fkX_0 := blk_free kX 0
  have fkX_1 := blk_free kX 1
  have fkX_2 := blk_free kX 2
  have fkX_3 := blk_free kX 3
  have fkX_4 := blk_free kX 4
  have fkX_5 := blk_free kX 5
  have fkX_6 := blk_free kX 6
  have fkX_7 := blk_free kX 7
  have fkX_8 := blk_free kX 8
  have fkX_9 := blk_free kX 9
  have fkX_10 := blk_free kX 10
  have fkX_11 := blk_free kX 11
  have fkX_12 := blk_free kX 12
  have fkX_13 := blk_free kX 13
  have fkX_14 := blk_free kX 14
  have fkX_15 := blk_free kX 15
  have fkX_16 := blk_free kX 16
  have fkX_17 := blk_free kX 17
  go_wp2_with (first | (refine wpList_load_mid rfl 31 _ rfl w.heap.size 0 rfl [.int .i64 K, .int .i64 R, .slice A ps.length ca, .int .i64 K2, .int .i64 R2, .slice B_ qs.length cb, .int .i64 px, .int .i64 py, .int .i64 pa, .int .i64 ux, .int .i64 uy, .int .i64 ua, .int .i64 qx, .int .i64 qy, .int .i64 qa, .int .i64 vx, .int .i64 vy, .int .i64 va] _ (rng_blk (by apply blk_of; (repeat (first | with_reducible exact kX | with_reducible apply blk_drew | with_reducible apply blk_gw | with_reducible apply blk_alloc | with_reducible apply blk_set | ((with_reducible apply blk_other); focus omega))); (first | rfl | simp))) Try.underlying31 rfl (by kernel_rfl) ?_) | (go_at_call 6; refine Calls.mono (gw_at (cW _)) ?_; rintro e w1 ⟨rfl, q, rfl⟩) | (go_at_call 8; refine Calls.mono (gw_at (e0 _)) ?_; rintro e w1 ⟨rfl, q0, rfl⟩))
  go_ret
  exact ⟨rfl, bBel⟩

set_option maxRecDepth 100000 in
set_option maxHeartbeats 16000000 in
theorem start19y_b (K R : Int) (A : Option Addr) (ca : Nat) (ps : List (Int × Int)) (K2 R2 : Int) (B_ : Option Addr) (cb : Nat) (qs : List (Int × Int)) (px py pa ux uy ua qx qy qa vx vy va : Int) (w : World) (hp : Pts w A ps) (hl : ps.length ≤ ca) (hq : Pts w B_ qs) (hm : qs.length ≤ cb) (hf : ps.length ≤ 20 ∧ qs.length ≤ 20) (hv : ¬ (valS K R ps = 0 ∧ valS K2 R2 qs = 0)) : Calls Try.prog 3 #[.agg #[.int .i64 K, .int .i64 R, .slice A ps.length ca, .int .i64 K2, .int .i64 R2, .slice B_ qs.length cb, .int .i64 px, .int .i64 py, .int .i64 pa, .int .i64 ux, .int .i64 uy, .int .i64 ua, .int .i64 qx, .int .i64 qy, .int .i64 qa, .int .i64 vx, .int .i64 vy, .int .i64 va]] w fun e w' => e = .returned (.bool true) ∧ Below w.heap.size w w' := by
  have e0 := example19_b
  have cW := fun w' => few19_b K R A ca ps K2 R2 B_ cb qs px py pa ux uy ua qx qy qa vx vy va w'
  have cV := fun w' h => rval_b K R A ca ps (by omega) w' h
  have cU := fun w' h => rval_b K2 R2 B_ cb qs (by omega) w' h
  rw [decide_eq_true hf] at cW
  by_cases hv1 : valS K R ps = 0
  · have hv2 : ¬ valS K2 R2 qs = 0 := fun h => hv ⟨hv1, h⟩
    have b2 : (valS K2 R2 qs != 0) = true := by rw [bne_iff_ne]; exact hv2
    rw [hv1] at cV
    generalize valS K2 R2 qs = U at *
    clear hf hv hv1 hv2
    go_enter Try.func3, Try.ntmps3
    go_upto_region 1 with fail
    refine wp_named ?_
    intro W hW
    have kX : blk W w.heap.size #[.int .i64 K, .int .i64 R, .slice A ps.length ca, .int .i64 K2, .int .i64 R2, .slice B_ qs.length cb, .int .i64 px, .int .i64 py, .int .i64 pa, .int .i64 ux, .int .i64 uy, .int .i64 ua, .int .i64 qx, .int .i64 qy, .int .i64 qa, .int .i64 vx, .int .i64 vy, .int .i64 va] 31 := by rw [hW]; exact bBkn
    have hbW : Below w.heap.size w W := by rw [hW]; exact bBel
    have hszW := hbW.size
    clear hW
    have okX := blk_older kX
    have ckX_0 : _ = some _ := blk_cell kX 0
    have ckX_1 : _ = some _ := blk_cell kX 1
    have ckX_2 : _ = some _ := blk_cell kX 2
    have ckX_3 : _ = some _ := blk_cell kX 3
    have ckX_4 : _ = some _ := blk_cell kX 4
    have ckX_5 : _ = some _ := blk_cell kX 5
    have ckX_6 : _ = some _ := blk_cell kX 6
    have ckX_7 : _ = some _ := blk_cell kX 7
    have ckX_8 : _ = some _ := blk_cell kX 8
    have ckX_9 : _ = some _ := blk_cell kX 9
    have ckX_10 : _ = some _ := blk_cell kX 10
    have ckX_11 : _ = some _ := blk_cell kX 11
    have ckX_12 : _ = some _ := blk_cell kX 12
    have ckX_13 : _ = some _ := blk_cell kX 13
    have ckX_14 : _ = some _ := blk_cell kX 14
    have ckX_15 : _ = some _ := blk_cell kX 15
    have ckX_16 : _ = some _ := blk_cell kX 16
    have ckX_17 : _ = some _ := blk_cell kX 17
    have fkX_0 := blk_free kX 0
    have fkX_1 := blk_free kX 1
    have fkX_2 := blk_free kX 2
    have fkX_3 := blk_free kX 3
    have fkX_4 := blk_free kX 4
    have fkX_5 := blk_free kX 5
    have fkX_6 := blk_free kX 6
    have fkX_7 := blk_free kX 7
    have fkX_8 := blk_free kX 8
    have fkX_9 := blk_free kX 9
    have fkX_10 := blk_free kX 10
    have fkX_11 := blk_free kX 11
    have fkX_12 := blk_free kX 12
    have fkX_13 := blk_free kX 13
    have fkX_14 := blk_free kX 14
    have fkX_15 := blk_free kX 15
    have fkX_16 := blk_free kX 16
    have fkX_17 := blk_free kX 17
    go_wp2_with (first | (refine wpList_load_mid rfl 31 _ rfl w.heap.size 0 rfl [.int .i64 K, .int .i64 R, .slice A ps.length ca, .int .i64 K2, .int .i64 R2, .slice B_ qs.length cb, .int .i64 px, .int .i64 py, .int .i64 pa, .int .i64 ux, .int .i64 uy, .int .i64 ua, .int .i64 qx, .int .i64 qy, .int .i64 qa, .int .i64 vx, .int .i64 vy, .int .i64 va] _ (rng_blk (by apply blk_of; (repeat (first | with_reducible exact kX | with_reducible apply blk_drew | with_reducible apply blk_gw | with_reducible apply blk_alloc | with_reducible apply blk_set | ((with_reducible apply blk_other); focus omega))); (first | rfl | simp))) Try.underlying31 rfl (by kernel_rfl) ?_) | (go_at_call 6; refine Calls.mono (gw_at (cW _)) ?_; rintro e w1 ⟨rfl, q, rfl⟩) | (go_at_call 7; (with_reducible show Calls _ _ #[.agg #[.int .i64 K, .int .i64 R, .slice A _ _]] _ _); refine Calls.mono (gw_at (cV _ (Pts.to hp bBel))) ?_; rintro e w1 ⟨rfl, q1, rfl⟩) | (go_at_call 7; (with_reducible show Calls _ _ #[.agg #[.int .i64 K2, .int .i64 R2, .slice B_ _ _]] _ _); refine Calls.mono (gw_at (cU _ (Pts.to hq bBel))) ?_; rintro e w1 ⟨rfl, q2, rfl⟩) | (go_at_call 8; refine Calls.mono (gw_at (e0 _)) ?_; rintro e w1 ⟨rfl, q0, rfl⟩))
    go_ret
    exact ⟨rfl, bBel⟩
  · have b1 : (valS K R ps != 0) = true := by rw [bne_iff_ne]; exact hv1
    generalize valS K R ps = V at *
    clear hf hv hv1
    go_enter Try.func3, Try.ntmps3
    go_upto_region 1 with fail
    refine wp_named ?_
    intro W hW
    have kX : blk W w.heap.size #[.int .i64 K, .int .i64 R, .slice A ps.length ca, .int .i64 K2, .int .i64 R2, .slice B_ qs.length cb, .int .i64 px, .int .i64 py, .int .i64 pa, .int .i64 ux, .int .i64 uy, .int .i64 ua, .int .i64 qx, .int .i64 qy, .int .i64 qa, .int .i64 vx, .int .i64 vy, .int .i64 va] 31 := by rw [hW]; exact bBkn
    have hbW : Below w.heap.size w W := by rw [hW]; exact bBel
    have hszW := hbW.size
    clear hW
    have okX := blk_older kX
    have ckX_0 : _ = some _ := blk_cell kX 0
    have ckX_1 : _ = some _ := blk_cell kX 1
    have ckX_2 : _ = some _ := blk_cell kX 2
    have ckX_3 : _ = some _ := blk_cell kX 3
    have ckX_4 : _ = some _ := blk_cell kX 4
    have ckX_5 : _ = some _ := blk_cell kX 5
    have ckX_6 : _ = some _ := blk_cell kX 6
    have ckX_7 : _ = some _ := blk_cell kX 7
    have ckX_8 : _ = some _ := blk_cell kX 8
    have ckX_9 : _ = some _ := blk_cell kX 9
    have ckX_10 : _ = some _ := blk_cell kX 10
    have ckX_11 : _ = some _ := blk_cell kX 11
    have ckX_12 : _ = some _ := blk_cell kX 12
    have ckX_13 : _ = some _ := blk_cell kX 13
    have ckX_14 : _ = some _ := blk_cell kX 14
    have ckX_15 : _ = some _ := blk_cell kX 15
    have ckX_16 : _ = some _ := blk_cell kX 16
    have ckX_17 : _ = some _ := blk_cell kX 17
    have fkX_0 := blk_free kX 0
    have fkX_1 := blk_free kX 1
    have fkX_2 := blk_free kX 2
    have fkX_3 := blk_free kX 3
    have fkX_4 := blk_free kX 4
    have fkX_5 := blk_free kX 5
    have fkX_6 := blk_free kX 6
    have fkX_7 := blk_free kX 7
    have fkX_8 := blk_free kX 8
    have fkX_9 := blk_free kX 9
    have fkX_10 := blk_free kX 10
    have fkX_11 := blk_free kX 11
    have fkX_12 := blk_free kX 12
    have fkX_13 := blk_free kX 13
    have fkX_14 := blk_free kX 14
    have fkX_15 := blk_free kX 15
    have fkX_16 := blk_free kX 16
    have fkX_17 := blk_free kX 17
    go_wp2_with (first | (refine wpList_load_mid rfl 31 _ rfl w.heap.size 0 rfl [.int .i64 K, .int .i64 R, .slice A ps.length ca, .int .i64 K2, .int .i64 R2, .slice B_ qs.length cb, .int .i64 px, .int .i64 py, .int .i64 pa, .int .i64 ux, .int .i64 uy, .int .i64 ua, .int .i64 qx, .int .i64 qy, .int .i64 qa, .int .i64 vx, .int .i64 vy, .int .i64 va] _ (rng_blk (by apply blk_of; (repeat (first | with_reducible exact kX | with_reducible apply blk_drew | with_reducible apply blk_gw | with_reducible apply blk_alloc | with_reducible apply blk_set | ((with_reducible apply blk_other); focus omega))); (first | rfl | simp))) Try.underlying31 rfl (by kernel_rfl) ?_) | (go_at_call 6; refine Calls.mono (gw_at (cW _)) ?_; rintro e w1 ⟨rfl, q, rfl⟩) | (go_at_call 7; refine Calls.mono (gw_at (cV _ (Pts.to hp bBel))) ?_; rintro e w1 ⟨rfl, q1, rfl⟩) | (go_at_call 8; refine Calls.mono (gw_at (e0 _)) ?_; rintro e w1 ⟨rfl, q0, rfl⟩))
    go_ret
    exact ⟨rfl, bBel⟩

set_option maxRecDepth 100000 in
set_option maxHeartbeats 16000000 in
theorem start19_w (K R : Int) (A : Option Addr) (ca : Nat) (ps : List (Int × Int)) (K2 R2 : Int) (B_ : Option Addr) (cb : Nat) (qs : List (Int × Int)) (px py pa ux uy ua qx qy qa vx vy va : Int) (w : World) (hp : Pts w A ps) (hq : Pts w B_ qs) (S G T x1 y1 a1 x2 y2 a2 : Int) (D E : Bool)
    (cW : ∀ w', Calls Try.prog 6 #[.agg #[.int .i64 K, .int .i64 R, .slice A ps.length ca, .int .i64 K2, .int .i64 R2, .slice B_ qs.length cb, .int .i64 px, .int .i64 py, .int .i64 pa, .int .i64 ux, .int .i64 uy, .int .i64 ua, .int .i64 qx, .int .i64 qy, .int .i64 qa, .int .i64 vx, .int .i64 vy, .int .i64 va]] w' fun e w'' => e = .returned (.bool true) ∧ Below w'.heap.size w' w'')
    (cV : ∀ w', Pts w' A ps → Calls Try.prog 7 #[.agg #[.int .i64 K, .int .i64 R, .slice A ps.length ca]] w' fun e w'' => e = .returned (.int .i64 0) ∧ Below w'.heap.size w' w'')
    (cU : ∀ w', Pts w' B_ qs → Calls Try.prog 7 #[.agg #[.int .i64 K2, .int .i64 R2, .slice B_ qs.length cb]] w' fun e w'' => e = .returned (.int .i64 0) ∧ Below w'.heap.size w' w'')
    (cD : ∀ w', Pts w' A ps → Pts w' B_ qs → Calls Try.prog 9 #[.agg #[.int .i64 K, .int .i64 R, .slice A ps.length ca, .int .i64 K2, .int .i64 R2, .slice B_ qs.length cb, .int .i64 px, .int .i64 py, .int .i64 pa, .int .i64 ux, .int .i64 uy, .int .i64 ua, .int .i64 qx, .int .i64 qy, .int .i64 qa, .int .i64 vx, .int .i64 vy, .int .i64 va], .int .i64 0] w' fun e w'' => e = .returned (.int .i64 S) ∧ Below w'.heap.size w' w'')
    (c1 : ∀ w', Pts w' A ps → Pts w' B_ qs → Calls Try.prog 10 #[.agg #[.int .i64 K, .int .i64 R, .slice A ps.length ca], .agg #[.int .i64 px, .int .i64 py, .int .i64 pa], .agg #[.int .i64 ux, .int .i64 uy, .int .i64 ua], .agg #[.int .i64 K2, .int .i64 R2, .slice B_ qs.length cb], .agg #[.int .i64 qx, .int .i64 qy, .int .i64 qa], .agg #[.int .i64 vx, .int .i64 vy, .int .i64 va]] w' fun e w'' => e = .returned (.tuple #[.int .i64 T, .bool D]) ∧ Below w'.heap.size w' w'')
    (c2 : ∀ w', Pts w' A ps → Pts w' B_ qs → Calls Try.prog 10 #[.agg #[.int .i64 K, .int .i64 R, .slice A ps.length ca], .agg #[.int .i64 px, .int .i64 py, .int .i64 pa], .agg #[.int .i64 px, .int .i64 py, .int .i64 pa], .agg #[.int .i64 K2, .int .i64 R2, .slice B_ qs.length cb], .agg #[.int .i64 qx, .int .i64 qy, .int .i64 qa], .agg #[.int .i64 qx, .int .i64 qy, .int .i64 qa]] w' fun e w'' => e = .returned (.tuple #[.int .i64 0, .bool E]) ∧ Below w'.heap.size w' w'')
    (cI : ∀ w', Calls Try.prog 12 #[.agg #[.int .i64 px, .int .i64 py, .int .i64 pa], .agg #[.int .i64 px, .int .i64 py, .int .i64 pa], .int .i64 0] w' fun e w'' => e = .returned (.agg #[.int .i64 x1, .int .i64 y1, .int .i64 a1]) ∧ Below w'.heap.size w' w'')
    (cJ : ∀ w', Calls Try.prog 12 #[.agg #[.int .i64 qx, .int .i64 qy, .int .i64 qa], .agg #[.int .i64 qx, .int .i64 qy, .int .i64 qa], .int .i64 0] w' fun e w'' => e = .returned (.agg #[.int .i64 x2, .int .i64 y2, .int .i64 a2]) ∧ Below w'.heap.size w' w'')
    (cS : ∀ w', Pts w' A ps → Pts w' B_ qs → Calls Try.prog 11 #[.agg #[.int .i64 K, .int .i64 R, .slice A ps.length ca], .agg #[.int .i64 x1, .int .i64 y1, .int .i64 a1], .agg #[.int .i64 K2, .int .i64 R2, .slice B_ qs.length cb], .agg #[.int .i64 x2, .int .i64 y2, .int .i64 a2]] w' fun e w'' => e = .returned (.int .i64 G) ∧ Below w'.heap.size w' w'')
    (hS : S ≤ 512 ∧ T = 0 ∧ D = true ∨ ¬ S ≤ 512) (hG : G ≤ 512 ∧ E = true ∨ ¬ G ≤ 512 ∧ E = false) : Calls Try.prog 3 #[.agg #[.int .i64 K, .int .i64 R, .slice A ps.length ca, .int .i64 K2, .int .i64 R2, .slice B_ qs.length cb, .int .i64 px, .int .i64 py, .int .i64 pa, .int .i64 ux, .int .i64 uy, .int .i64 ua, .int .i64 qx, .int .i64 qy, .int .i64 qa, .int .i64 vx, .int .i64 vy, .int .i64 va]] w fun e w' => e = .returned (.bool true) ∧ Below w.heap.size w w' := by
  have e0 := example19_b
  rcases hG with ⟨hG, rfl⟩ | ⟨hG, rfl⟩
  · have g1 : decide (G ≤ 512) = true := decide_eq_true hG
    rcases hS with ⟨hS, rfl, rfl⟩ | hS
    · have s1 : decide (S ≤ 512) = true := decide_eq_true hS
      go_enter Try.func3, Try.ntmps3
      go_upto_region 1 with fail
      refine wp_named ?_
      intro W hW
      have kX : blk W w.heap.size #[.int .i64 K, .int .i64 R, .slice A ps.length ca, .int .i64 K2, .int .i64 R2, .slice B_ qs.length cb, .int .i64 px, .int .i64 py, .int .i64 pa, .int .i64 ux, .int .i64 uy, .int .i64 ua, .int .i64 qx, .int .i64 qy, .int .i64 qa, .int .i64 vx, .int .i64 vy, .int .i64 va] 31 := by rw [hW]; exact bBkn
      have hbW : Below w.heap.size w W := by rw [hW]; exact bBel
      have hszW := hbW.size
      clear hW
      have okX := blk_older kX
      have ckX_0 : _ = some _ := blk_cell kX 0
      have ckX_1 : _ = some _ := blk_cell kX 1
      have ckX_2 : _ = some _ := blk_cell kX 2
      have ckX_3 : _ = some _ := blk_cell kX 3
      have ckX_4 : _ = some _ := blk_cell kX 4
      have ckX_5 : _ = some _ := blk_cell kX 5
      have ckX_6 : _ = some _ := blk_cell kX 6
      have ckX_7 : _ = some _ := blk_cell kX 7
      have ckX_8 : _ = some _ := blk_cell kX 8
      have ckX_9 : _ = some _ := blk_cell kX 9
      have ckX_10 : _ = some _ := blk_cell kX 10
      have ckX_11 : _ = some _ := blk_cell kX 11
      have ckX_12 : _ = some _ := blk_cell kX 12
      have ckX_13 : _ = some _ := blk_cell kX 13
      have ckX_14 : _ = some _ := blk_cell kX 14
      have ckX_15 : _ = some _ := blk_cell kX 15
      have ckX_16 : _ = some _ := blk_cell kX 16
      have ckX_17 : _ = some _ := blk_cell kX 17
      have fkX_0 := blk_free kX 0
      have fkX_1 := blk_free kX 1
      have fkX_2 := blk_free kX 2
      have fkX_3 := blk_free kX 3
      have fkX_4 := blk_free kX 4
      have fkX_5 := blk_free kX 5
      have fkX_6 := blk_free kX 6
      have fkX_7 := blk_free kX 7
      have fkX_8 := blk_free kX 8
      have fkX_9 := blk_free kX 9
      have fkX_10 := blk_free kX 10
      have fkX_11 := blk_free kX 11
      have fkX_12 := blk_free kX 12
      have fkX_13 := blk_free kX 13
      have fkX_14 := blk_free kX 14
      have fkX_15 := blk_free kX 15
      have fkX_16 := blk_free kX 16
      have fkX_17 := blk_free kX 17
      go_upto_region 6 with (first | (refine wpList_load_mid rfl 31 _ rfl w.heap.size 0 rfl [.int .i64 K, .int .i64 R, .slice A ps.length ca, .int .i64 K2, .int .i64 R2, .slice B_ qs.length cb, .int .i64 px, .int .i64 py, .int .i64 pa, .int .i64 ux, .int .i64 uy, .int .i64 ua, .int .i64 qx, .int .i64 qy, .int .i64 qa, .int .i64 vx, .int .i64 vy, .int .i64 va] _ (rng_blk (by apply blk_of; (repeat (first | with_reducible exact kX | with_reducible apply blk_drew | with_reducible apply blk_gw | with_reducible apply blk_alloc | with_reducible apply blk_set | ((with_reducible apply blk_other); focus omega))); (first | rfl | simp))) Try.underlying31 rfl (by kernel_rfl) ?_) | (go_at_call 6; refine Calls.mono (gw_at (cW _)) ?_; rintro e w1 ⟨rfl, q, rfl⟩) | (go_at_call 7; (with_reducible show Calls _ _ #[.agg #[.int .i64 K, .int .i64 R, .slice A _ _]] _ _); refine Calls.mono (gw_at (cV _ (Pts.to hp bBel))) ?_; rintro e w1 ⟨rfl, q1, rfl⟩) | (go_at_call 7; (with_reducible show Calls _ _ #[.agg #[.int .i64 K2, .int .i64 R2, .slice B_ _ _]] _ _); refine Calls.mono (gw_at (cU _ (Pts.to hq bBel))) ?_; rintro e w1 ⟨rfl, q2, rfl⟩) | (go_at_call 9; refine Calls.mono (gw_at (cD _ (Pts.to hp bBel) (Pts.to hq bBel))) ?_; rintro e w1 ⟨rfl, q3, rfl⟩) | (go_at_call 10; (with_reducible show Calls _ _ #[_, _, .agg #[.int .i64 ux, _, _], _, _, _] _ _); refine Calls.mono (gw_at (c1 _ (Pts.to hp bBel) (Pts.to hq bBel))) ?_; rintro e w1 ⟨rfl, q4, rfl⟩) | (go_at_call 10; (with_reducible show Calls _ _ #[_, _, .agg #[.int .i64 px, _, _], _, _, _] _ _); refine Calls.mono (gw_at (c2 _ (Pts.to hp bBel) (Pts.to hq bBel))) ?_; rintro e w1 ⟨rfl, q5, rfl⟩))
      refine wp_region_gw (by kernel_rfl) (by kernel_rfl) ?_
      repeat (go_big_quiet_step ((first | (go_at_call 12; with_reducible_and_instances exact gw_call (cI _)) | (go_at_call 12; with_reducible_and_instances exact gw_call (cJ _)) | (go_at_call 11; with_reducible_and_instances exact gw_call (cS _ (Pts.to hp bBel) (Pts.to hq bBel))) | (go_at_call 8; with_reducible_and_instances exact gw_call (e0 _)))))
      refine wpQuiet_nil ?_
      intro w1 hw1
      obtain ⟨q, rfl⟩ := hw1
      go_wp2_with fail
      go_ret
      exact ⟨rfl, bBel⟩
    · have s1 : decide (S ≤ 512) = false := decide_eq_false hS
      go_enter Try.func3, Try.ntmps3
      go_upto_region 1 with fail
      refine wp_named ?_
      intro W hW
      have kX : blk W w.heap.size #[.int .i64 K, .int .i64 R, .slice A ps.length ca, .int .i64 K2, .int .i64 R2, .slice B_ qs.length cb, .int .i64 px, .int .i64 py, .int .i64 pa, .int .i64 ux, .int .i64 uy, .int .i64 ua, .int .i64 qx, .int .i64 qy, .int .i64 qa, .int .i64 vx, .int .i64 vy, .int .i64 va] 31 := by rw [hW]; exact bBkn
      have hbW : Below w.heap.size w W := by rw [hW]; exact bBel
      have hszW := hbW.size
      clear hW
      have okX := blk_older kX
      have ckX_0 : _ = some _ := blk_cell kX 0
      have ckX_1 : _ = some _ := blk_cell kX 1
      have ckX_2 : _ = some _ := blk_cell kX 2
      have ckX_3 : _ = some _ := blk_cell kX 3
      have ckX_4 : _ = some _ := blk_cell kX 4
      have ckX_5 : _ = some _ := blk_cell kX 5
      have ckX_6 : _ = some _ := blk_cell kX 6
      have ckX_7 : _ = some _ := blk_cell kX 7
      have ckX_8 : _ = some _ := blk_cell kX 8
      have ckX_9 : _ = some _ := blk_cell kX 9
      have ckX_10 : _ = some _ := blk_cell kX 10
      have ckX_11 : _ = some _ := blk_cell kX 11
      have ckX_12 : _ = some _ := blk_cell kX 12
      have ckX_13 : _ = some _ := blk_cell kX 13
      have ckX_14 : _ = some _ := blk_cell kX 14
      have ckX_15 : _ = some _ := blk_cell kX 15
      have ckX_16 : _ = some _ := blk_cell kX 16
      have ckX_17 : _ = some _ := blk_cell kX 17
      have fkX_0 := blk_free kX 0
      have fkX_1 := blk_free kX 1
      have fkX_2 := blk_free kX 2
      have fkX_3 := blk_free kX 3
      have fkX_4 := blk_free kX 4
      have fkX_5 := blk_free kX 5
      have fkX_6 := blk_free kX 6
      have fkX_7 := blk_free kX 7
      have fkX_8 := blk_free kX 8
      have fkX_9 := blk_free kX 9
      have fkX_10 := blk_free kX 10
      have fkX_11 := blk_free kX 11
      have fkX_12 := blk_free kX 12
      have fkX_13 := blk_free kX 13
      have fkX_14 := blk_free kX 14
      have fkX_15 := blk_free kX 15
      have fkX_16 := blk_free kX 16
      have fkX_17 := blk_free kX 17
      go_upto_region 6 with (first | (refine wpList_load_mid rfl 31 _ rfl w.heap.size 0 rfl [.int .i64 K, .int .i64 R, .slice A ps.length ca, .int .i64 K2, .int .i64 R2, .slice B_ qs.length cb, .int .i64 px, .int .i64 py, .int .i64 pa, .int .i64 ux, .int .i64 uy, .int .i64 ua, .int .i64 qx, .int .i64 qy, .int .i64 qa, .int .i64 vx, .int .i64 vy, .int .i64 va] _ (rng_blk (by apply blk_of; (repeat (first | with_reducible exact kX | with_reducible apply blk_drew | with_reducible apply blk_gw | with_reducible apply blk_alloc | with_reducible apply blk_set | ((with_reducible apply blk_other); focus omega))); (first | rfl | simp))) Try.underlying31 rfl (by kernel_rfl) ?_) | (go_at_call 6; refine Calls.mono (gw_at (cW _)) ?_; rintro e w1 ⟨rfl, q, rfl⟩) | (go_at_call 7; (with_reducible show Calls _ _ #[.agg #[.int .i64 K, .int .i64 R, .slice A _ _]] _ _); refine Calls.mono (gw_at (cV _ (Pts.to hp bBel))) ?_; rintro e w1 ⟨rfl, q1, rfl⟩) | (go_at_call 7; (with_reducible show Calls _ _ #[.agg #[.int .i64 K2, .int .i64 R2, .slice B_ _ _]] _ _); refine Calls.mono (gw_at (cU _ (Pts.to hq bBel))) ?_; rintro e w1 ⟨rfl, q2, rfl⟩) | (go_at_call 9; refine Calls.mono (gw_at (cD _ (Pts.to hp bBel) (Pts.to hq bBel))) ?_; rintro e w1 ⟨rfl, q3, rfl⟩) | (go_at_call 10; (with_reducible show Calls _ _ #[_, _, .agg #[.int .i64 ux, _, _], _, _, _] _ _); refine Calls.mono (gw_at (c1 _ (Pts.to hp bBel) (Pts.to hq bBel))) ?_; rintro e w1 ⟨rfl, q4, rfl⟩) | (go_at_call 10; (with_reducible show Calls _ _ #[_, _, .agg #[.int .i64 px, _, _], _, _, _] _ _); refine Calls.mono (gw_at (c2 _ (Pts.to hp bBel) (Pts.to hq bBel))) ?_; rintro e w1 ⟨rfl, q5, rfl⟩))
      refine wp_region_gw (by kernel_rfl) (by kernel_rfl) ?_
      repeat (go_big_quiet_step ((first | (go_at_call 12; with_reducible_and_instances exact gw_call (cI _)) | (go_at_call 12; with_reducible_and_instances exact gw_call (cJ _)) | (go_at_call 11; with_reducible_and_instances exact gw_call (cS _ (Pts.to hp bBel) (Pts.to hq bBel))) | (go_at_call 8; with_reducible_and_instances exact gw_call (e0 _)))))
      refine wpQuiet_nil ?_
      intro w1 hw1
      obtain ⟨q, rfl⟩ := hw1
      go_wp2_with fail
      go_ret
      exact ⟨rfl, bBel⟩
  · have g1 : decide (G ≤ 512) = false := decide_eq_false hG
    rcases hS with ⟨hS, rfl, rfl⟩ | hS
    · have s1 : decide (S ≤ 512) = true := decide_eq_true hS
      go_enter Try.func3, Try.ntmps3
      go_upto_region 1 with fail
      refine wp_named ?_
      intro W hW
      have kX : blk W w.heap.size #[.int .i64 K, .int .i64 R, .slice A ps.length ca, .int .i64 K2, .int .i64 R2, .slice B_ qs.length cb, .int .i64 px, .int .i64 py, .int .i64 pa, .int .i64 ux, .int .i64 uy, .int .i64 ua, .int .i64 qx, .int .i64 qy, .int .i64 qa, .int .i64 vx, .int .i64 vy, .int .i64 va] 31 := by rw [hW]; exact bBkn
      have hbW : Below w.heap.size w W := by rw [hW]; exact bBel
      have hszW := hbW.size
      clear hW
      have okX := blk_older kX
      have ckX_0 : _ = some _ := blk_cell kX 0
      have ckX_1 : _ = some _ := blk_cell kX 1
      have ckX_2 : _ = some _ := blk_cell kX 2
      have ckX_3 : _ = some _ := blk_cell kX 3
      have ckX_4 : _ = some _ := blk_cell kX 4
      have ckX_5 : _ = some _ := blk_cell kX 5
      have ckX_6 : _ = some _ := blk_cell kX 6
      have ckX_7 : _ = some _ := blk_cell kX 7
      have ckX_8 : _ = some _ := blk_cell kX 8
      have ckX_9 : _ = some _ := blk_cell kX 9
      have ckX_10 : _ = some _ := blk_cell kX 10
      have ckX_11 : _ = some _ := blk_cell kX 11
      have ckX_12 : _ = some _ := blk_cell kX 12
      have ckX_13 : _ = some _ := blk_cell kX 13
      have ckX_14 : _ = some _ := blk_cell kX 14
      have ckX_15 : _ = some _ := blk_cell kX 15
      have ckX_16 : _ = some _ := blk_cell kX 16
      have ckX_17 : _ = some _ := blk_cell kX 17
      have fkX_0 := blk_free kX 0
      have fkX_1 := blk_free kX 1
      have fkX_2 := blk_free kX 2
      have fkX_3 := blk_free kX 3
      have fkX_4 := blk_free kX 4
      have fkX_5 := blk_free kX 5
      have fkX_6 := blk_free kX 6
      have fkX_7 := blk_free kX 7
      have fkX_8 := blk_free kX 8
      have fkX_9 := blk_free kX 9
      have fkX_10 := blk_free kX 10
      have fkX_11 := blk_free kX 11
      have fkX_12 := blk_free kX 12
      have fkX_13 := blk_free kX 13
      have fkX_14 := blk_free kX 14
      have fkX_15 := blk_free kX 15
      have fkX_16 := blk_free kX 16
      have fkX_17 := blk_free kX 17
      go_upto_region 6 with (first | (refine wpList_load_mid rfl 31 _ rfl w.heap.size 0 rfl [.int .i64 K, .int .i64 R, .slice A ps.length ca, .int .i64 K2, .int .i64 R2, .slice B_ qs.length cb, .int .i64 px, .int .i64 py, .int .i64 pa, .int .i64 ux, .int .i64 uy, .int .i64 ua, .int .i64 qx, .int .i64 qy, .int .i64 qa, .int .i64 vx, .int .i64 vy, .int .i64 va] _ (rng_blk (by apply blk_of; (repeat (first | with_reducible exact kX | with_reducible apply blk_drew | with_reducible apply blk_gw | with_reducible apply blk_alloc | with_reducible apply blk_set | ((with_reducible apply blk_other); focus omega))); (first | rfl | simp))) Try.underlying31 rfl (by kernel_rfl) ?_) | (go_at_call 6; refine Calls.mono (gw_at (cW _)) ?_; rintro e w1 ⟨rfl, q, rfl⟩) | (go_at_call 7; (with_reducible show Calls _ _ #[.agg #[.int .i64 K, .int .i64 R, .slice A _ _]] _ _); refine Calls.mono (gw_at (cV _ (Pts.to hp bBel))) ?_; rintro e w1 ⟨rfl, q1, rfl⟩) | (go_at_call 7; (with_reducible show Calls _ _ #[.agg #[.int .i64 K2, .int .i64 R2, .slice B_ _ _]] _ _); refine Calls.mono (gw_at (cU _ (Pts.to hq bBel))) ?_; rintro e w1 ⟨rfl, q2, rfl⟩) | (go_at_call 9; refine Calls.mono (gw_at (cD _ (Pts.to hp bBel) (Pts.to hq bBel))) ?_; rintro e w1 ⟨rfl, q3, rfl⟩) | (go_at_call 10; (with_reducible show Calls _ _ #[_, _, .agg #[.int .i64 ux, _, _], _, _, _] _ _); refine Calls.mono (gw_at (c1 _ (Pts.to hp bBel) (Pts.to hq bBel))) ?_; rintro e w1 ⟨rfl, q4, rfl⟩) | (go_at_call 10; (with_reducible show Calls _ _ #[_, _, .agg #[.int .i64 px, _, _], _, _, _] _ _); refine Calls.mono (gw_at (c2 _ (Pts.to hp bBel) (Pts.to hq bBel))) ?_; rintro e w1 ⟨rfl, q5, rfl⟩))
      refine wp_region_gw (by kernel_rfl) (by kernel_rfl) ?_
      repeat (go_big_quiet_step ((first | (go_at_call 12; with_reducible_and_instances exact gw_call (cI _)) | (go_at_call 12; with_reducible_and_instances exact gw_call (cJ _)) | (go_at_call 11; with_reducible_and_instances exact gw_call (cS _ (Pts.to hp bBel) (Pts.to hq bBel))) | (go_at_call 8; with_reducible_and_instances exact gw_call (e0 _)))))
      refine wpQuiet_nil ?_
      intro w1 hw1
      obtain ⟨q, rfl⟩ := hw1
      go_wp2_with fail
      go_ret
      exact ⟨rfl, bBel⟩
    · have s1 : decide (S ≤ 512) = false := decide_eq_false hS
      go_enter Try.func3, Try.ntmps3
      go_upto_region 1 with fail
      refine wp_named ?_
      intro W hW
      have kX : blk W w.heap.size #[.int .i64 K, .int .i64 R, .slice A ps.length ca, .int .i64 K2, .int .i64 R2, .slice B_ qs.length cb, .int .i64 px, .int .i64 py, .int .i64 pa, .int .i64 ux, .int .i64 uy, .int .i64 ua, .int .i64 qx, .int .i64 qy, .int .i64 qa, .int .i64 vx, .int .i64 vy, .int .i64 va] 31 := by rw [hW]; exact bBkn
      have hbW : Below w.heap.size w W := by rw [hW]; exact bBel
      have hszW := hbW.size
      clear hW
      have okX := blk_older kX
      have ckX_0 : _ = some _ := blk_cell kX 0
      have ckX_1 : _ = some _ := blk_cell kX 1
      have ckX_2 : _ = some _ := blk_cell kX 2
      have ckX_3 : _ = some _ := blk_cell kX 3
      have ckX_4 : _ = some _ := blk_cell kX 4
      have ckX_5 : _ = some _ := blk_cell kX 5
      have ckX_6 : _ = some _ := blk_cell kX 6
      have ckX_7 : _ = some _ := blk_cell kX 7
      have ckX_8 : _ = some _ := blk_cell kX 8
      have ckX_9 : _ = some _ := blk_cell kX 9
      have ckX_10 : _ = some _ := blk_cell kX 10
      have ckX_11 : _ = some _ := blk_cell kX 11
      have ckX_12 : _ = some _ := blk_cell kX 12
      have ckX_13 : _ = some _ := blk_cell kX 13
      have ckX_14 : _ = some _ := blk_cell kX 14
      have ckX_15 : _ = some _ := blk_cell kX 15
      have ckX_16 : _ = some _ := blk_cell kX 16
      have ckX_17 : _ = some _ := blk_cell kX 17
      have fkX_0 := blk_free kX 0
      have fkX_1 := blk_free kX 1
      have fkX_2 := blk_free kX 2
      have fkX_3 := blk_free kX 3
      have fkX_4 := blk_free kX 4
      have fkX_5 := blk_free kX 5
      have fkX_6 := blk_free kX 6
      have fkX_7 := blk_free kX 7
      have fkX_8 := blk_free kX 8
      have fkX_9 := blk_free kX 9
      have fkX_10 := blk_free kX 10
      have fkX_11 := blk_free kX 11
      have fkX_12 := blk_free kX 12
      have fkX_13 := blk_free kX 13
      have fkX_14 := blk_free kX 14
      have fkX_15 := blk_free kX 15
      have fkX_16 := blk_free kX 16
      have fkX_17 := blk_free kX 17
      go_upto_region 6 with (first | (refine wpList_load_mid rfl 31 _ rfl w.heap.size 0 rfl [.int .i64 K, .int .i64 R, .slice A ps.length ca, .int .i64 K2, .int .i64 R2, .slice B_ qs.length cb, .int .i64 px, .int .i64 py, .int .i64 pa, .int .i64 ux, .int .i64 uy, .int .i64 ua, .int .i64 qx, .int .i64 qy, .int .i64 qa, .int .i64 vx, .int .i64 vy, .int .i64 va] _ (rng_blk (by apply blk_of; (repeat (first | with_reducible exact kX | with_reducible apply blk_drew | with_reducible apply blk_gw | with_reducible apply blk_alloc | with_reducible apply blk_set | ((with_reducible apply blk_other); focus omega))); (first | rfl | simp))) Try.underlying31 rfl (by kernel_rfl) ?_) | (go_at_call 6; refine Calls.mono (gw_at (cW _)) ?_; rintro e w1 ⟨rfl, q, rfl⟩) | (go_at_call 7; (with_reducible show Calls _ _ #[.agg #[.int .i64 K, .int .i64 R, .slice A _ _]] _ _); refine Calls.mono (gw_at (cV _ (Pts.to hp bBel))) ?_; rintro e w1 ⟨rfl, q1, rfl⟩) | (go_at_call 7; (with_reducible show Calls _ _ #[.agg #[.int .i64 K2, .int .i64 R2, .slice B_ _ _]] _ _); refine Calls.mono (gw_at (cU _ (Pts.to hq bBel))) ?_; rintro e w1 ⟨rfl, q2, rfl⟩) | (go_at_call 9; refine Calls.mono (gw_at (cD _ (Pts.to hp bBel) (Pts.to hq bBel))) ?_; rintro e w1 ⟨rfl, q3, rfl⟩) | (go_at_call 10; (with_reducible show Calls _ _ #[_, _, .agg #[.int .i64 ux, _, _], _, _, _] _ _); refine Calls.mono (gw_at (c1 _ (Pts.to hp bBel) (Pts.to hq bBel))) ?_; rintro e w1 ⟨rfl, q4, rfl⟩) | (go_at_call 10; (with_reducible show Calls _ _ #[_, _, .agg #[.int .i64 px, _, _], _, _, _] _ _); refine Calls.mono (gw_at (c2 _ (Pts.to hp bBel) (Pts.to hq bBel))) ?_; rintro e w1 ⟨rfl, q5, rfl⟩))
      refine wp_region_gw (by kernel_rfl) (by kernel_rfl) ?_
      repeat (go_big_quiet_step ((first | (go_at_call 12; with_reducible_and_instances exact gw_call (cI _)) | (go_at_call 12; with_reducible_and_instances exact gw_call (cJ _)) | (go_at_call 11; with_reducible_and_instances exact gw_call (cS _ (Pts.to hp bBel) (Pts.to hq bBel))) | (go_at_call 8; with_reducible_and_instances exact gw_call (e0 _)))))
      refine wpQuiet_nil ?_
      intro w1 hw1
      obtain ⟨q, rfl⟩ := hw1
      go_wp2_with fail
      go_ret
      exact ⟨rfl, bBel⟩

theorem start19_b (K R : Int) (A : Option Addr) (ca : Nat) (ps : List (Int × Int)) (K2 R2 : Int) (B_ : Option Addr) (cb : Nat) (qs : List (Int × Int)) (px py pa ux uy ua qx qy qa vx vy va : Int) (w : World) (hp : Pts w A ps) (hl : ps.length ≤ ca) (hq : Pts w B_ qs) (hm : qs.length ≤ cb) : Calls Try.prog 3 #[.agg #[.int .i64 K, .int .i64 R, .slice A ps.length ca, .int .i64 K2, .int .i64 R2, .slice B_ qs.length cb, .int .i64 px, .int .i64 py, .int .i64 pa, .int .i64 ux, .int .i64 uy, .int .i64 ua, .int .i64 qx, .int .i64 qy, .int .i64 qa, .int .i64 vx, .int .i64 vy, .int .i64 va]] w fun e w' => e = .returned (.bool true) ∧ Below w.heap.size w w' := by
  by_cases hf : ps.length ≤ 20 ∧ qs.length ≤ 20
  rotate_left
  · exact start19x_b K R A ca ps K2 R2 B_ cb qs px py pa ux uy ua qx qy qa vx vy va w hp hl hq hm hf
  by_cases hv : valS K R ps = 0 ∧ valS K2 R2 qs = 0
  rotate_left
  · exact start19y_b K R A ca ps K2 R2 B_ cb qs px py pa ux uy ua qx qy qa vx vy va w hp hl hq hm hf hv
  have hf1 := hf.1
  have hf2 := hf.2
  obtain ⟨H, hH⟩ : ∃ H, toiS ⟨K, R, ps, px, py, pa, ux, uy, ua⟩ ⟨K2, R2, qs, qx, qy, qa, vx, vy, va⟩ = H := ⟨_, rfl⟩
  obtain ⟨T, D⟩ := H
  have hrest : toiS ⟨K, R, ps, px, py, pa, px, py, pa⟩ ⟨K2, R2, qs, qx, qy, qa, qx, qy, qa⟩ = (0, decide (tvg ⟨K, R, ps, px, py, pa, px, py, pa⟩ ⟨K2, R2, qs, qx, qy, qa, qx, qy, qa⟩ 0 ≤ 512)) := toiS_rest (m := ⟨K, R, ps, px, py, pa, ux, uy, ua⟩) (n := ⟨K2, R2, qs, qx, qy, qa, vx, vy, va⟩) hv.1 hv.2
  refine start19_w K R A ca ps K2 R2 B_ cb qs px py pa ux uy ua qx qy qa vx vy va w hp hq (tvg ⟨K, R, ps, px, py, pa, ux, uy, ua⟩ ⟨K2, R2, qs, qx, qy, qa, vx, vy, va⟩ 0) (tvg ⟨K, R, ps, px, py, pa, px, py, pa⟩ ⟨K2, R2, qs, qx, qy, qa, qx, qy, qa⟩ 0) T (lerp px px 0) (lerp py py 0) (tang pa (mul (dif pa pa) 0)) (lerp qx qx 0) (lerp qy qy 0) (tang qa (mul (dif qa qa) 0)) D (decide (tvg ⟨K, R, ps, px, py, pa, px, py, pa⟩ ⟨K2, R2, qs, qx, qy, qa, qx, qy, qa⟩ 0 ≤ 512))
    ?_ ?_ ?_ ?_ ?_ ?_ ?_ ?_ ?_ ?_ ?_
  · have cW := fun w' => few19_b K R A ca ps K2 R2 B_ cb qs px py pa ux uy ua qx qy qa vx vy va w'
    rw [decide_eq_true hf] at cW
    exact cW
  · have cV := fun w' h => rval_b K R A ca ps (by omega) w' h
    rw [hv.1] at cV
    exact cV
  · have cU := fun w' h => rval_b K2 R2 B_ cb qs (by omega) w' h
    rw [hv.2] at cU
    exact cU
  · exact fun w' h h' => ydist_b K R A ca ps K2 R2 B_ cb qs px py pa ux uy ua qx qy qa vx vy va 0 _ (by omega) (by omega) hl hm rfl w' h h'
  · exact fun w' h h' => ytoi_b K R K2 R2 A B_ ca cb ps qs px py pa ux uy ua qx qy qa vx vy va T D (by omega) (by omega) hl hm hH w' h h'
  · exact fun w' h h' => ytoi_b K R K2 R2 A B_ ca cb ps qs px py pa px py pa qx qy qa qx qy qa 0 _ (by omega) (by omega) hl hm hrest w' h h'
  · exact fun w' => tint_b px py pa px py pa 0 w'
  · exact fun w' => tint_b qx qy qa qx qy qa 0 w'
  · exact fun w' h h' => ysep17_b K R K2 R2 A B_ ca cb ps qs _ _ _ _ _ _ (by omega) (by omega) hl hm w' h h'
  · by_cases h : tvg ⟨K, R, ps, px, py, pa, ux, uy, ua⟩ ⟨K2, R2, qs, qx, qy, qa, vx, vy, va⟩ 0 ≤ 512
    · have e := toiS_start (m := ⟨K, R, ps, px, py, pa, ux, uy, ua⟩) (n := ⟨K2, R2, qs, qx, qy, qa, vx, vy, va⟩) hv.1 hv.2 h
      rw [hH] at e
      cases e
      exact .inl ⟨h, rfl, rfl⟩
    · exact .inr h
  · by_cases h : tvg ⟨K, R, ps, px, py, pa, px, py, pa⟩ ⟨K2, R2, qs, qx, qy, qa, qx, qy, qa⟩ 0 ≤ 512
    · exact .inl ⟨h, decide_eq_true h⟩
    · exact .inr ⟨h, decide_eq_false h⟩

theorem walk_TOIStart (f : Mot) (w : World) (hf : MotIn w f) : Calls Try.prog 3 #[.agg #[.int .i64 f.K, .int .i64 f.R, .slice f.A f.ps.length f.ca, .int .i64 f.K2, .int .i64 f.R2, .slice f.B f.qs.length f.cb, .int .i64 f.px, .int .i64 f.py, .int .i64 f.pa, .int .i64 f.ux, .int .i64 f.uy, .int .i64 f.ua, .int .i64 f.qx, .int .i64 f.qy, .int .i64 f.qa, .int .i64 f.vx, .int .i64 f.vy, .int .i64 f.va]] w fun e w' => e = .returned (.bool true) ∧ Below w.heap.size w w' := by
  obtain ⟨hp, _, hl, _, hq, _, hm, _⟩ := hf
  exact start19_b _ _ _ _ _ _ _ _ _ _ _ _ _ _ _ _ _ _ _ _ _ _ w hp hl hq hm

end Go.Proofs.Ytipcbcngedpmkaa
