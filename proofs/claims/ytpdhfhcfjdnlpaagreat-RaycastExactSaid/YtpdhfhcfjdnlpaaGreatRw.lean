/- Contracts of chapter 18's reference: Cast; the law RaycastExact. -/
import Derived.Test.YtpdhfhcfjdnlpaaGreatRz
set_option linter.unusedVariables false
namespace Go.Proofs.YtpdhfhcfjdnlpaaGreat
open Go.RowKit Fx

set_option maxRecDepth 100000 in
set_option maxHeartbeats 16000000 in
theorem rcast_b (K R : Int) (A : Option Addr) (cap : Nat) (ps : List (Int × Int)) (px py pa fx fy gx gy t x y : Int) (b : Bool) (hl : ps.length ≤ 4611686018427387904) (hH : castS K R ps px py pa fx fy gx gy = ⟨t, x, y, b⟩) (w : World) (hp : Pts w A ps) : Calls Tryz.prog 6 #[.agg #[.int .i64 K, .int .i64 R, .slice A ps.length cap], .agg #[.int .i64 px, .int .i64 py, .int .i64 pa], .agg #[.int .i64 fx, .int .i64 fy], .agg #[.int .i64 gx, .int .i64 gy]] w fun e w' => e = .returned (.tuple #[.int .i64 t, .agg #[.int .i64 x, .int .i64 y], .bool b]) ∧ Below w.heap.size w w' := by
  have cX := fun w' h => hull18_ex (rvert_b K R A cap ps px py pa hl w' h)
  by_cases hv : valS K R ps = 0
  rotate_left
  focus
    rw [castS_bad _ _ _ _ _ _ _ hv] at hH
    cases hH
    rw [core_no _ _ _ hv] at cX
    clear hv
    go_enter Tryz.func6, Tryz.ntmps6
    go_wp2_with (go_at_call 12; refine Calls.mono (cX _ (Pts.to hp bBel)) ?_; rintro e w1 ⟨⟨A1, c1, rfl, hP1⟩, q1, rfl⟩)
    refine post_named ?_
    intro Z hZ
    have kZ : blk Z (w.heap.size + 4) #[.int .i64 0, .int .i64 0] 27 := by rw [hZ]; exact bBkn
    have hbZ : Below w.heap.size w Z := by rw [hZ]; exact bBel
    clear hZ
    have okZ := blk_older kZ
    have ckZ_0 : _ = some _ := blk_cell kZ 0
    have ckZ_1 : _ = some _ := blk_cell kZ 1
    have fkZ_0 := blk_free kZ 0
    have fkZ_1 := blk_free kZ 1
    refine bodyPost_ret (v := .tuple #[.int .i64 0, .agg #[.int .i64 0, .int .i64 0], .bool false]) (by simp [results, Tryz.results6, go_sem, ckZ_0, ckZ_1]) rfl ⟨rfl, hbZ⟩
  obtain ⟨h1, h8, h2⟩ := core_hp18 (px := px) (py := py) (a := pa) hv
  have hK := (valS_zero.1 hv).1
  have cC := fun w' h => rcon_b K R A cap ps px py pa fx fy hl w' h
  have hin := @castS_in K R ps px py pa fx fy gx gy
  have hto := @castS_to K R ps px py pa fx fy gx gy hv
  rw [hH] at hin hto
  clear hH hv
  generalize conS K R ps px py pa fx fy = C at *
  generalize core K R ps px py pa = L at *
  have b0 : ((L.length : Int) == 0) = false := by rw [beq_eq_false_iff_ne]; omega
  go_enter Tryz.func6, Tryz.ntmps6
  go_upto_region 2 with (go_at_call 12; refine Calls.mono (cX _ (Pts.to hp bBel)) ?_; rintro e w1 ⟨⟨A1, c1, rfl, hP1⟩, q1, rfl⟩)
  refine wp_named ?_
  intro W hW
  have kS : blk W w.heap.size #[.int .i64 K, .int .i64 R, .slice A ps.length cap] 25 := by rw [hW]; exact bBkn
  have kT : blk W (w.heap.size + 1) #[.int .i64 px, .int .i64 py, .int .i64 pa] 29 := by rw [hW]; exact bBkn
  have kF : blk W (w.heap.size + 2) #[.int .i64 fx, .int .i64 fy] 27 := by rw [hW]; exact bBkn
  have kG : blk W (w.heap.size + 3) #[.int .i64 gx, .int .i64 gy] 27 := by rw [hW]; exact bBkn
  have kR : blk W (w.heap.size + 4) #[.int .i64 0, .int .i64 0] 27 := by rw [hW]; exact bBkn
  have hbW : Below w.heap.size w W := by rw [hW]; exact bBel
  have hPL : Pts W A1 L := by rw [hW]; exact Pts.to hP1 bBel
  clear hW hP1 cX
  have hszW := hbW.size
  have okS := blk_older kS
  have ckS_0 : _ = some _ := blk_cell kS 0
  have ckS_1 : _ = some _ := blk_cell kS 1
  have ckS_2 : _ = some _ := blk_cell kS 2
  have fkS_0 := blk_free kS 0
  have fkS_1 := blk_free kS 1
  have fkS_2 := blk_free kS 2
  have okT := blk_older kT
  have ckT_0 : _ = some _ := blk_cell kT 0
  have ckT_1 : _ = some _ := blk_cell kT 1
  have ckT_2 : _ = some _ := blk_cell kT 2
  have fkT_0 := blk_free kT 0
  have fkT_1 := blk_free kT 1
  have fkT_2 := blk_free kT 2
  have okF := blk_older kF
  have ckF_0 : _ = some _ := blk_cell kF 0
  have ckF_1 : _ = some _ := blk_cell kF 1
  have fkF_0 := blk_free kF 0
  have fkF_1 := blk_free kF 1
  have okG := blk_older kG
  have ckG_0 : _ = some _ := blk_cell kG 0
  have ckG_1 : _ = some _ := blk_cell kG 1
  have fkG_0 := blk_free kG 0
  have fkG_1 := blk_free kG 1
  have okR := blk_older kR
  have ckR_0 : _ = some _ := blk_cell kR 0
  have ckR_1 : _ = some _ := blk_cell kR 1
  have fkR_0 := blk_free kR 0
  have fkR_1 := blk_free kR 1
  cases C
  rotate_left
  focus
    have hi := hin rfl
    have z0 : Hid (t = 0) := by injection hi
    have z1 : Hid (x = 0) := by injection hi
    have z2 : Hid (y = 0) := by injection hi
    have z3 : Hid (b = true) := by injection hi
    clear hi hin hto
    go_wp2_with (go_at_call 13; refine Calls.mono (gw_at (cC _ (Pts.to hp bBel))) ?_; rintro e w1 ⟨rfl, q2, rfl⟩)
    refine post_named ?_
    intro Z hZ
    have kZ : blk Z (w.heap.size + 4) #[.int .i64 0, .int .i64 0] 27 := by rw [hZ]; exact (by apply blk_of; (repeat (first | with_reducible exact kR | with_reducible apply blk_drew | with_reducible apply blk_gw | with_reducible apply blk_alloc | with_reducible apply blk_set | ((with_reducible apply blk_other); focus omega))); (first | rfl | simp))
    have hbZ : Below w.heap.size w Z := by rw [hZ]; exact bBel
    clear hZ
    have okZ := blk_older kZ
    have ckZ_0 : _ = some _ := blk_cell kZ 0
    have ckZ_1 : _ = some _ := blk_cell kZ 1
    have fkZ_0 := blk_free kZ 0
    have fkZ_1 := blk_free kZ 1
    refine bodyPost_ret (v := .tuple #[.int .i64 0, .agg #[.int .i64 0, .int .i64 0], .bool true]) (by simp [results, Tryz.results6, go_sem, ckZ_0, ckZ_1]) rfl ⟨by rw [z0.out, z1.out, z2.out, z3.out], hbZ⟩
  have hc := hto rfl
  clear hin hto
  obtain ⟨b1, off1, hA1, hc1⟩ := pts_open0 hPL (by omega)
  subst hA1
  have hcases : K = 1 ∨ K = 2 ∨ K = 3 := by omega
  clear hK
  rcases hcases with rfl | rfl | rfl
  · unfold castL at hc
    rw [if_pos rfl, hp_get (show 0 < L.length by omega)] at hc
    obtain ⟨d0, d1⟩ := hc1 0 (by omega)
    rw [Nat.zero_mul, Nat.add_zero] at d0 d1
    have od := older_of_cell d0
    have i0 : (0 : Int) < (L.length : Int) := by omega
    clear hc1
    generalize L[0].1 = u0 at *
    generalize L[0].2 = v0 at *
    have cc := fun w' => rcc18_b u0 v0 R fx fy gx gy t x y b hc.symm w'
    clear hc
    go_upto_region 7 with (go_at_call 13; refine Calls.mono (gw_at (cC _ (Pts.to hp bBel))) ?_; rintro e w1 ⟨rfl, q2, rfl⟩)
    refine wp_region_gw_tail 12 (by kernel_rfl) (by kernel_rfl) ?_
    simp only [List.take_succ_cons, List.take_zero, List.drop_succ_cons, List.drop_zero]
    repeat (go_big_quiet_step ((first | (go_at_call 14; with_reducible_and_instances exact gw_call (cc _)))))
    refine wpQuiet_nil ?_
    intro w1 hw1
    obtain ⟨q, rfl⟩ := hw1
    go_wp2_with fail
    refine post_named ?_
    intro Z hZ
    have kZ : blk Z (w.heap.size + 4) #[.int .i64 x, .int .i64 y] 27 := by rw [hZ]; exact (by apply blk_of; (repeat (first | with_reducible exact kR | with_reducible apply blk_drew | with_reducible apply blk_gw | with_reducible apply blk_alloc | with_reducible apply blk_set | ((with_reducible apply blk_other); focus omega))); (first | rfl | simp))
    have hbZ : Below w.heap.size w Z := by rw [hZ]; exact bBel
    clear hZ
    have okZ := blk_older kZ
    have ckZ_0 : _ = some _ := blk_cell kZ 0
    have ckZ_1 : _ = some _ := blk_cell kZ 1
    have fkZ_0 := blk_free kZ 0
    have fkZ_1 := blk_free kZ 1
    refine bodyPost_ret (v := .tuple #[.int .i64 t, .agg #[.int .i64 x, .int .i64 y], .bool b]) (by simp [results, Tryz.results6, go_sem, ckZ_0, ckZ_1]) rfl ⟨rfl, hbZ⟩
  · unfold castL at hc
    have hL2 := h2 rfl
    obtain ⟨p0, q0, rfl⟩ := len_two hL2
    obtain ⟨u0, v0⟩ := p0
    obtain ⟨u1, v1⟩ := q0
    rw [if_neg (by decide), if_pos rfl] at hc
    have hc' : castK u0 v0 u1 v1 R fx fy gx gy = ⟨t, x, y, b⟩ := hc.symm
    have cc := fun c1 w' h => rck_b (some ⟨b1, off1, none⟩) c1 u0 v0 u1 v1 R fx fy gx gy t x y b hc' w' h
    clear hc hc' hc1 h2 hL2 h1 h8
    go_wp2_with (first | (go_at_call 13; refine Calls.mono (gw_at (cC _ (Pts.to hp bBel))) ?_; rintro e w1 ⟨rfl, q2, rfl⟩) | (go_at_call 16; refine Calls.mono (gw_at (cc _ _ (Pts.to hPL bBel))) ?_; rintro e w1 ⟨rfl, q3, rfl⟩))
    refine post_named ?_
    intro Z hZ
    have kZ : blk Z (w.heap.size + 4) #[.int .i64 x, .int .i64 y] 27 := by rw [hZ]; exact (by apply blk_of; (repeat (first | with_reducible exact kR | with_reducible apply blk_drew | with_reducible apply blk_gw | with_reducible apply blk_alloc | with_reducible apply blk_set | ((with_reducible apply blk_other); focus omega))); (first | rfl | simp))
    have hbZ : Below w.heap.size w Z := by rw [hZ]; exact bBel
    clear hZ
    have okZ := blk_older kZ
    have ckZ_0 : _ = some _ := blk_cell kZ 0
    have ckZ_1 : _ = some _ := blk_cell kZ 1
    have fkZ_0 := blk_free kZ 0
    have fkZ_1 := blk_free kZ 1
    refine bodyPost_ret (v := .tuple #[.int .i64 t, .agg #[.int .i64 x, .int .i64 y], .bool b]) (by simp [results, Tryz.results6, go_sem, ckZ_0, ckZ_1]) rfl ⟨rfl, hbZ⟩
  · unfold castL at hc
    rw [if_neg (by decide), if_neg (by decide)] at hc
    have cc := fun c1 w' h => rcp18_b (some ⟨b1, off1, none⟩) c1 L fx fy gx gy t x y b (by omega) hc.symm w' h
    clear hc hc1 h2
    go_wp2_with (first | (go_at_call 13; refine Calls.mono (gw_at (cC _ (Pts.to hp bBel))) ?_; rintro e w1 ⟨rfl, q2, rfl⟩) | (go_at_call 15; refine Calls.mono (gw_at (cc _ _ (Pts.to hPL bBel))) ?_; rintro e w1 ⟨rfl, q3, rfl⟩))
    refine post_named ?_
    intro Z hZ
    have kZ : blk Z (w.heap.size + 4) #[.int .i64 x, .int .i64 y] 27 := by rw [hZ]; exact (by apply blk_of; (repeat (first | with_reducible exact kR | with_reducible apply blk_drew | with_reducible apply blk_gw | with_reducible apply blk_alloc | with_reducible apply blk_set | ((with_reducible apply blk_other); focus omega))); (first | rfl | simp))
    have hbZ : Below w.heap.size w Z := by rw [hZ]; exact bBel
    clear hZ
    have okZ := blk_older kZ
    have ckZ_0 : _ = some _ := blk_cell kZ 0
    have ckZ_1 : _ = some _ := blk_cell kZ 1
    have fkZ_0 := blk_free kZ 0
    have fkZ_1 := blk_free kZ 1
    refine bodyPost_ret (v := .tuple #[.int .i64 t, .agg #[.int .i64 x, .int .i64 y], .bool b]) (by simp [results, Tryz.results6, go_sem, ckZ_0, ckZ_1]) rfl ⟨rfl, hbZ⟩

set_option maxRecDepth 100000 in
set_option maxHeartbeats 8000000 in
theorem walk_RaycastExact (K R : Int) (A : Option Addr) (cap : Nat) (ps : List (Int × Int)) (px py pa fx fy gx gy : Int) (w : World) (hp : Pts w A ps) (hl : ps.length ≤ cap) (hc : cap ≤ maxLen) : Calls Tryz.prog 3 #[.agg #[.int .i64 K, .int .i64 R, .slice A ps.length cap], .agg #[.int .i64 px, .int .i64 py, .int .i64 pa], .agg #[.int .i64 fx, .int .i64 fy, .int .i64 gx, .int .i64 gy]] w fun e w' => e = .returned (.bool true) ∧ Below w.heap.size w w' := by
  have e0 := example18_b
  by_cases n0 : 20 < (ps.length : Int)
  focus
    go_enter Tryz.func3, Tryz.ntmps3
    go_wp2_with (go_at_call 4; refine Calls.mono (gw_at (e0 _)) ?_; rintro e w1 ⟨rfl, q, rfl⟩)
    go_ret
    exact ⟨rfl, bBel⟩
  obtain ⟨H, hH⟩ : ∃ H, castS K R ps px py pa fx fy gx gy = H := ⟨_, rfl⟩
  obtain ⟨t, x, y, b⟩ := H
  have c1 := fun w' h => ycast_b K R A cap ps px py pa fx fy gx gy t x y b (by omega) hl hH w' h
  have c2 := fun w' h => rcast_b K R A cap ps px py pa fx fy gx gy t x y b (by omega) hH w' h
  clear hH
  go_enter Tryz.func3, Tryz.ntmps3
  go_wp2_with (first | (go_at_call 5; refine Calls.mono (gw_at (c1 _ (Pts.to hp bBel))) ?_; rintro e w1 ⟨rfl, q1, rfl⟩) | (go_at_call 6; refine Calls.mono (gw_at (c2 _ (Pts.to hp bBel))) ?_; rintro e w1 ⟨rfl, q2, rfl⟩) | (go_at_call 4; refine Calls.mono (gw_at (e0 _)) ?_; rintro e w1 ⟨rfl, q, rfl⟩))
  go_ret
  exact ⟨rfl, bBel⟩

end Go.Proofs.YtpdhfhcfjdnlpaaGreat
