/- Contracts of chapter 19's reference: MotionBound, TimeOfImpact. -/
import Derived.Test.YtipcbcngedpmkaaGreatDs
import Derived.Test.YtipcbcngedpmkaaGreatTb
set_option linter.unusedVariables false
namespace Go.Proofs.YtipcbcngedpmkaaGreat
open Go.RowKit Fx

set_option maxRecDepth 100000 in
set_option maxHeartbeats 8000000 in
theorem rmb19_b (K R : Int) (A : Option Addr) (ca : Nat) (ps : List (Int × Int)) (px py pa ux uy ua N : Int) (hl : ps.length ≤ 1000000) (hN : Tv.mb ⟨K, R, ps, px, py, pa, ux, uy, ua⟩ = N) (w : World) (hp : Pts w A ps) : Calls Tryz.prog 9 #[.agg #[.int .i64 K, .int .i64 R, .slice A ps.length ca], .agg #[.int .i64 px, .int .i64 py, .int .i64 pa], .agg #[.int .i64 ux, .int .i64 uy, .int .i64 ua]] w fun e w' => e = .returned (.int .i64 N) ∧ Below w.heap.size w w' := by
  have cV := fun w' h => rval_b K R A ca ps (by omega) w' h
  unfold Tv.mb at hN
  dsimp only at hN
  by_cases hv : valS K R ps = 0
  rotate_left
  · rw [if_neg hv] at hN
    subst hN
    have b1 : (valS K R ps != 0) = true := by rw [bne_iff_ne]; exact hv
    generalize valS K R ps = V at *
    clear hv
    go_enter Tryz.func9, Tryz.ntmps9
    go_wp2_with (go_at_call 13; refine Calls.mono (gw_at (cV _ (Pts.to hp bBel))) ?_; rintro e w1 ⟨rfl, q, rfl⟩)
    go_ret
    exact ⟨rfl, bBel⟩
  rw [if_pos hv] at hN
  rw [hv] at cV
  have cB := fun w' h => rbr_b K R A ca ps (by omega) w' h
  have cS := fun w' => rvsub_b ux uy px py w'
  generalize bradS K R ps = B at *
  generalize sub ux px = dx at *
  generalize sub uy py = dy at *
  have cL := fun w' => rvlen_b dx dy w'
  have cD := fun w' => rdif_b pa ua w'
  have d1 := dif_ge pa ua
  have d2 := dif_lt pa ua
  generalize vlen dx dy = L at *
  generalize dif pa ua = D at *
  clear hv
  by_cases c : D < 0
  · rw [iabs_neg c] at hN
    have cM := fun w' => rmul_b (-D) B w'
    generalize mul (-D) B = C at *
    have c1 := fun w' => radd_b L C w'
    generalize add L C = E at *
    have c2 := fun w' => radd_b E 4 w'
    rw [hN] at c2
    clear hN
    go_enter Tryz.func9, Tryz.ntmps9
    go_wp2_with (first | (go_at_call 13; refine Calls.mono (gw_at (cV _ (Pts.to hp bBel))) ?_; rintro e w1 ⟨rfl, q, rfl⟩) | (go_at_call 24; refine Calls.mono (gw_at (cS _)) ?_; rintro e w1 ⟨rfl, q1, rfl⟩) | (go_at_call 23; refine Calls.mono (gw_at (cL _)) ?_; rintro e w1 ⟨rfl, q2, rfl⟩) | (go_at_call 22; refine Calls.mono (gw_at (cD _)) ?_; rintro e w1 ⟨rfl, q3, rfl⟩) | (go_at_call 27; refine Calls.mono (gw_at (cB _ (Pts.to hp bBel))) ?_; rintro e w1 ⟨rfl, q4, rfl⟩) | (go_at_call 26; refine Calls.mono (gw_at (cM _)) ?_; rintro e w1 ⟨rfl, q5, rfl⟩) | (go_at_call 25; (with_reducible show Calls _ _ #[.int .i64 L, _] _ _); refine Calls.mono (gw_at (c1 _)) ?_; rintro e w1 ⟨rfl, q6, rfl⟩) | (go_at_call 25; (with_reducible show Calls _ _ #[.int .i64 E, _] _ _); refine Calls.mono (gw_at (c2 _)) ?_; rintro e w1 ⟨rfl, q7, rfl⟩))
    go_ret
    exact ⟨rfl, bBel⟩
  · rw [iabs_pos (by omega)] at hN
    have cM := fun w' => rmul_b (D) B w'
    generalize mul (D) B = C at *
    have c1 := fun w' => radd_b L C w'
    generalize add L C = E at *
    have c2 := fun w' => radd_b E 4 w'
    rw [hN] at c2
    clear hN
    go_enter Tryz.func9, Tryz.ntmps9
    go_wp2_with (first | (go_at_call 13; refine Calls.mono (gw_at (cV _ (Pts.to hp bBel))) ?_; rintro e w1 ⟨rfl, q, rfl⟩) | (go_at_call 24; refine Calls.mono (gw_at (cS _)) ?_; rintro e w1 ⟨rfl, q1, rfl⟩) | (go_at_call 23; refine Calls.mono (gw_at (cL _)) ?_; rintro e w1 ⟨rfl, q2, rfl⟩) | (go_at_call 22; refine Calls.mono (gw_at (cD _)) ?_; rintro e w1 ⟨rfl, q3, rfl⟩) | (go_at_call 27; refine Calls.mono (gw_at (cB _ (Pts.to hp bBel))) ?_; rintro e w1 ⟨rfl, q4, rfl⟩) | (go_at_call 26; refine Calls.mono (gw_at (cM _)) ?_; rintro e w1 ⟨rfl, q5, rfl⟩) | (go_at_call 25; (with_reducible show Calls _ _ #[.int .i64 L, _] _ _); refine Calls.mono (gw_at (c1 _)) ?_; rintro e w1 ⟨rfl, q6, rfl⟩) | (go_at_call 25; (with_reducible show Calls _ _ #[.int .i64 E, _] _ _); refine Calls.mono (gw_at (c2 _)) ?_; rintro e w1 ⟨rfl, q7, rfl⟩))
    go_ret
    exact ⟨rfl, bBel⟩

set_option maxRecDepth 100000 in
set_option maxHeartbeats 16000000 in
theorem rtoi19_b (K R K2 R2 : Int) (A B_ : Option Addr) (ca cb : Nat) (ps qs : List (Int × Int)) (px py pa ux uy ua qx qy qa vx vy va T : Int) (D : Bool) (hl : ps.length ≤ 1000000) (hm : qs.length ≤ 1000000) (hH : toiS ⟨K, R, ps, px, py, pa, ux, uy, ua⟩ ⟨K2, R2, qs, qx, qy, qa, vx, vy, va⟩ = (T, D)) (w : World) (hp : Pts w A ps) (hq : Pts w B_ qs) : Calls Tryz.prog 7 #[.agg #[.int .i64 K, .int .i64 R, .slice A ps.length ca], .agg #[.int .i64 px, .int .i64 py, .int .i64 pa], .agg #[.int .i64 ux, .int .i64 uy, .int .i64 ua], .agg #[.int .i64 K2, .int .i64 R2, .slice B_ qs.length cb], .agg #[.int .i64 qx, .int .i64 qy, .int .i64 qa], .agg #[.int .i64 vx, .int .i64 vy, .int .i64 va]] w fun e w' => e = .returned (.tuple #[.int .i64 T, .bool D]) ∧ Below w.heap.size w w' := by
  have cV := fun w' h => rval_b K R A ca ps (by omega) w' h
  have cU := fun w' h => rval_b K2 R2 B_ cb qs (by omega) w' h
  by_cases hv1 : valS K R ps = 0
  rotate_left
  · rw [toiS_bad fun h => hv1 h.1] at hH
    cases hH
    have b1 : (valS K R ps != 0) = true := by rw [bne_iff_ne]; exact hv1
    generalize valS K R ps = V at *
    clear hv1
    go_enter Tryz.func7, Tryz.ntmps7
    go_wp2_with (go_at_call 13; refine Calls.mono (gw_at (cV _ (Pts.to hp bBel))) ?_; rintro e w1 ⟨rfl, q, rfl⟩)
    (try rw [Exit.noGoto_ret])
    refine bodyPost_ret (v := .tuple #[.int .i64 0, .bool false]) (by simp [results, Tryz.results7, go_sem]) rfl ⟨rfl, bBel⟩
  rw [hv1] at cV
  by_cases hv2 : valS K2 R2 qs = 0
  rotate_left
  · rw [toiS_bad fun h => hv2 h.2] at hH
    cases hH
    have b1 : (valS K2 R2 qs != 0) = true := by rw [bne_iff_ne]; exact hv2
    generalize valS K2 R2 qs = V at *
    clear hv1 hv2
    go_enter Tryz.func7, Tryz.ntmps7
    go_wp2_with (first | (go_at_call 13; (with_reducible show Calls _ _ #[.agg #[.int .i64 K, .int .i64 R, .slice A _ _]] _ _); refine Calls.mono (gw_at (cV _ (Pts.to hp bBel))) ?_; rintro e w1 ⟨rfl, q, rfl⟩) | (go_at_call 13; (with_reducible show Calls _ _ #[.agg #[.int .i64 K2, .int .i64 R2, .slice B_ _ _]] _ _); refine Calls.mono (gw_at (cU _ (Pts.to hq bBel))) ?_; rintro e w1 ⟨rfl, q2, rfl⟩))
    (try rw [Exit.noGoto_ret])
    refine bodyPost_ret (v := .tuple #[.int .i64 0, .bool false]) (by simp [results, Tryz.results7, go_sem]) rfl ⟨rfl, bBel⟩
  rw [hv2] at cU
  have m1 := mb_in (m := ⟨K, R, ps, px, py, pa, ux, uy, ua⟩) hv1
  have m2 := mb_in (m := ⟨K2, R2, qs, qx, qy, qa, vx, vy, va⟩) hv2
  rw [toiS_ok hv1 hv2] at hH
  have cM := fun w' h => rmb19_b K R A ca ps px py pa ux uy ua _ hl rfl w' h
  have cN := fun w' h => rmb19_b K2 R2 B_ cb qs qx qy qa vx vy va _ hm rfl w' h
  have gin := tvg_in ⟨K, R, ps, px, py, pa, ux, uy, ua⟩ ⟨K2, R2, qs, qx, qy, qa, vx, vy, va⟩
  obtain ⟨x1, y1, a1, cI, cS1⟩ : ∃ x1 y1 a1 : Int → Int, (∀ t w', Calls Tryz.prog 15 #[.agg #[.int .i64 px, .int .i64 py, .int .i64 pa], .agg #[.int .i64 ux, .int .i64 uy, .int .i64 ua], .int .i64 t] w' fun e w'' => e = .returned (.agg #[.int .i64 (x1 t), .int .i64 (y1 t), .int .i64 (a1 t)]) ∧ Below w'.heap.size w' w'') ∧ ∃ x2 y2 a2 : Int → Int, (∀ t w', Calls Tryz.prog 15 #[.agg #[.int .i64 qx, .int .i64 qy, .int .i64 qa], .agg #[.int .i64 vx, .int .i64 vy, .int .i64 va], .int .i64 t] w' fun e w'' => e = .returned (.agg #[.int .i64 (x2 t), .int .i64 (y2 t), .int .i64 (a2 t)]) ∧ Below w'.heap.size w' w'') ∧ ∀ t w', Pts w' A ps → Pts w' B_ qs → Calls Tryz.prog 14 #[.agg #[.int .i64 K, .int .i64 R, .slice A ps.length ca], .agg #[.int .i64 (x1 t), .int .i64 (y1 t), .int .i64 (a1 t)], .agg #[.int .i64 K2, .int .i64 R2, .slice B_ qs.length cb], .agg #[.int .i64 (x2 t), .int .i64 (y2 t), .int .i64 (a2 t)]] w' fun e w'' => e = .returned (.int .i64 (tvg ⟨K, R, ps, px, py, pa, ux, uy, ua⟩ ⟨K2, R2, qs, qx, qy, qa, vx, vy, va⟩ t)) ∧ Below w'.heap.size w' w'' :=
    ⟨fun t => lerp px ux t, fun t => lerp py uy t, fun t => tang pa (mul (dif pa ua) t), fun t w' => rtint_b px py pa ux uy ua t w', fun t => lerp qx vx t, fun t => lerp qy vy t, fun t => tang qa (mul (dif qa va) t), fun t w' => rtint_b qx qy qa vx vy va t w', fun t w' h h' => rsep17_b K R K2 R2 A B_ ca cb ps qs _ _ _ _ _ _ hl hm w' h h'⟩
  obtain ⟨x2, y2, a2, cJ, cS⟩ := cS1
  generalize tvg ⟨K, R, ps, px, py, pa, ux, uy, ua⟩ ⟨K2, R2, qs, qx, qy, qa, vx, vy, va⟩ = g at *
  generalize Tv.mb ⟨K, R, ps, px, py, pa, ux, uy, ua⟩ = n1 at *
  generalize Tv.mb ⟨K2, R2, qs, qx, qy, qa, vx, vy, va⟩ = n2 at *
  have hH2 : Hid (adv g (2 * (n1 + n2)) 40 0 = (T, D)) := hH
  clear hH hv1 hv2
  go_enter Tryz.func7, Tryz.ntmps7
  go_upto_region 3 with (first | (go_at_call 13; (with_reducible show Calls _ _ #[.agg #[.int .i64 K, .int .i64 R, .slice A _ _]] _ _); refine Calls.mono (gw_at (cV _ (Pts.to hp bBel))) ?_; rintro e w1 ⟨rfl, q, rfl⟩) | (go_at_call 13; (with_reducible show Calls _ _ #[.agg #[.int .i64 K2, .int .i64 R2, .slice B_ _ _]] _ _); refine Calls.mono (gw_at (cU _ (Pts.to hq bBel))) ?_; rintro e w1 ⟨rfl, q2, rfl⟩))
  refine wp_named ?_
  intro W hW
  have k1 : blk W w.heap.size #[.int .i64 K, .int .i64 R, .slice A ps.length ca] 25 := by rw [hW]; exact bBkn
  have k2 : blk W (w.heap.size + 1) #[.int .i64 px, .int .i64 py, .int .i64 pa] 29 := by rw [hW]; exact bBkn
  have k3 : blk W (w.heap.size + 2) #[.int .i64 ux, .int .i64 uy, .int .i64 ua] 29 := by rw [hW]; exact bBkn
  have k4 : blk W (w.heap.size + 3) #[.int .i64 K2, .int .i64 R2, .slice B_ qs.length cb] 25 := by rw [hW]; exact bBkn
  have k5 : blk W (w.heap.size + 4) #[.int .i64 qx, .int .i64 qy, .int .i64 qa] 29 := by rw [hW]; exact bBkn
  have k6 : blk W (w.heap.size + 5) #[.int .i64 vx, .int .i64 vy, .int .i64 va] 29 := by rw [hW]; exact bBkn
  have hbW : Below w.heap.size w W := by rw [hW]; exact bBel
  have hszW := hbW.size
  clear hW cV cU
  have hpW := Pts.to hp hbW
  have hqW := Pts.to hq hbW
  have ok1 := blk_older k1
  have ck1_0 : _ = some _ := blk_cell k1 0
  have ck1_1 : _ = some _ := blk_cell k1 1
  have ck1_2 : _ = some _ := blk_cell k1 2
  have fk1_0 := blk_free k1 0
  have fk1_1 := blk_free k1 1
  have fk1_2 := blk_free k1 2
  have ok2 := blk_older k2
  have ck2_0 : _ = some _ := blk_cell k2 0
  have ck2_1 : _ = some _ := blk_cell k2 1
  have ck2_2 : _ = some _ := blk_cell k2 2
  have fk2_0 := blk_free k2 0
  have fk2_1 := blk_free k2 1
  have fk2_2 := blk_free k2 2
  have ok3 := blk_older k3
  have ck3_0 : _ = some _ := blk_cell k3 0
  have ck3_1 : _ = some _ := blk_cell k3 1
  have ck3_2 : _ = some _ := blk_cell k3 2
  have fk3_0 := blk_free k3 0
  have fk3_1 := blk_free k3 1
  have fk3_2 := blk_free k3 2
  have ok4 := blk_older k4
  have ck4_0 : _ = some _ := blk_cell k4 0
  have ck4_1 : _ = some _ := blk_cell k4 1
  have ck4_2 : _ = some _ := blk_cell k4 2
  have fk4_0 := blk_free k4 0
  have fk4_1 := blk_free k4 1
  have fk4_2 := blk_free k4 2
  have ok5 := blk_older k5
  have ck5_0 : _ = some _ := blk_cell k5 0
  have ck5_1 : _ = some _ := blk_cell k5 1
  have ck5_2 : _ = some _ := blk_cell k5 2
  have fk5_0 := blk_free k5 0
  have fk5_1 := blk_free k5 1
  have fk5_2 := blk_free k5 2
  have ok6 := blk_older k6
  have ck6_0 : _ = some _ := blk_cell k6 0
  have ck6_1 : _ = some _ := blk_cell k6 1
  have ck6_2 : _ = some _ := blk_cell k6 2
  have fk6_0 := blk_free k6 0
  have fk6_1 := blk_free k6 1
  have fk6_2 := blk_free k6 2
  refine wp_region_gw (by kernel_rfl) (by kernel_rfl) ?_
  repeat (go_big_quiet_step ((first | (go_at_call 9; with_reducible_and_instances exact gw_call (cM _ (Pts.to hpW bBel))) | (go_at_call 9; with_reducible_and_instances exact gw_call (cN _ (Pts.to hqW bBel))))))
  refine wpQuiet_nil ?_
  intro w1 hw1
  obtain ⟨q, rfl⟩ := hw1
  clear cM cN
  have hn : 8 ≤ n1 + n2 ∧ n1 + n2 ≤ 1073741822 := by omega
  obtain ⟨N, hN⟩ : ∃ N, n1 + n2 = N := ⟨_, rfl⟩
  rw [hN] at hn hH2
  clear m1 m2
  go_wp2_with fail
  go_loopw [15, 16] (fun t i wr => ∃ (k : Nat) (u : Int), k ≤ 40 ∧ i = .int .i64 (k : Int) ∧ t = .int .i64 u ∧ 0 ≤ u ∧ u ≤ 65536 ∧ Hid (adv g (2 * N) (40 - k) u = (T, D)) ∧ Below W.heap.size W wr ∧ Below w.heap.size w wr)
    (fun _ i _ => (40 - intOf i).toNat)
  case atStart => exact ⟨0, 0, by omega, rfl, rfl, by omega, by omega, hH2, bBel, bBel⟩
  case round =>
    obtain ⟨k, u, hk, rfl, rfl, hu0, hu1, hA, hbR, hbT⟩ := hrel
    clear hH2
    have hszR := hbR.size
    have hszT := hbT.size
    have r1 := blk_to k1 hbR
    have r2 := blk_to k2 hbR
    have r3 := blk_to k3 hbR
    have r4 := blk_to k4 hbR
    have r5 := blk_to k5 hbR
    have r6 := blk_to k6 hbR
    have hpR := Pts.to hpW hbR
    have hqR := Pts.to hqW hbR
    by_cases hlt : k < 40
    · have j0 : (0 : Int) ≤ (k : Int) := by omega
      have j1 : (k : Int) < 40 := by omega
      have hA2 : Hid (adv g (2 * N) (39 - k + 1) u = (T, D)) := by rw [show 39 - k + 1 = 40 - k from by omega]; exact hA
      clear hA
      have cI1 := cI u
      have cJ1 := cJ u
      have cS1 := cS u
      have gu := gin u
      have hst : Hid (stp g (2 * N) u = u + max 1 ((g u * 65536).tdiv (2 * N))) := rfl
      have hgu : Hid (g u = g u) := rfl
      obtain ⟨G, hG⟩ : ∃ G, Hid (g u = G) := ⟨_, rfl⟩
      rw [hG.out] at cS1 gu hst
      generalize x1 u = X1 at *
      generalize y1 u = Y1 at *
      generalize a1 u = A1 at *
      generalize x2 u = X2 at *
      generalize y2 u = Y2 at *
      generalize a2 u = A2 at *
      clear cI cJ cS gin hgu
      clear ok1 ck1_0 ck1_1 ck1_2 fk1_0 fk1_1 fk1_2 ok2 ck2_0 ck2_1 ck2_2 fk2_0 fk2_1 fk2_2 ok3 ck3_0 ck3_1 ck3_2 fk3_0 fk3_1 fk3_2 ok4 ck4_0 ck4_1 ck4_2 fk4_0 fk4_1 fk4_2 ok5 ck5_0 ck5_1 ck5_2 fk5_0 fk5_1 fk5_2 ok6 ck6_0 ck6_1 ck6_2 fk6_0 fk6_1 fk6_2
      have or1 := blk_older r1
      have cr1_0 : _ = some _ := blk_cell r1 0
      have cr1_1 : _ = some _ := blk_cell r1 1
      have cr1_2 : _ = some _ := blk_cell r1 2
      have fr1_0 := blk_free r1 0
      have fr1_1 := blk_free r1 1
      have fr1_2 := blk_free r1 2
      have or2 := blk_older r2
      have cr2_0 : _ = some _ := blk_cell r2 0
      have cr2_1 : _ = some _ := blk_cell r2 1
      have cr2_2 : _ = some _ := blk_cell r2 2
      have fr2_0 := blk_free r2 0
      have fr2_1 := blk_free r2 1
      have fr2_2 := blk_free r2 2
      have or3 := blk_older r3
      have cr3_0 : _ = some _ := blk_cell r3 0
      have cr3_1 : _ = some _ := blk_cell r3 1
      have cr3_2 : _ = some _ := blk_cell r3 2
      have fr3_0 := blk_free r3 0
      have fr3_1 := blk_free r3 1
      have fr3_2 := blk_free r3 2
      have or4 := blk_older r4
      have cr4_0 : _ = some _ := blk_cell r4 0
      have cr4_1 : _ = some _ := blk_cell r4 1
      have cr4_2 : _ = some _ := blk_cell r4 2
      have fr4_0 := blk_free r4 0
      have fr4_1 := blk_free r4 1
      have fr4_2 := blk_free r4 2
      have or5 := blk_older r5
      have cr5_0 : _ = some _ := blk_cell r5 0
      have cr5_1 : _ = some _ := blk_cell r5 1
      have cr5_2 : _ = some _ := blk_cell r5 2
      have fr5_0 := blk_free r5 0
      have fr5_1 := blk_free r5 1
      have fr5_2 := blk_free r5 2
      have or6 := blk_older r6
      have cr6_0 : _ = some _ := blk_cell r6 0
      have cr6_1 : _ = some _ := blk_cell r6 1
      have cr6_2 : _ = some _ := blk_cell r6 2
      have fr6_0 := blk_free r6 0
      have fr6_1 := blk_free r6 1
      have fr6_2 := blk_free r6 2
      go_upto_region 8 with fail
      refine wp_region_gw (by kernel_rfl) (by kernel_rfl) ?_
      repeat (go_big_quiet_step ((first | (go_at_call 15; with_reducible_and_instances exact gw_call (cI1 _)) | (go_at_call 15; with_reducible_and_instances exact gw_call (cJ1 _)) | (go_at_call 14; with_reducible_and_instances exact gw_call (cS1 _ (Pts.to hpR bBel) (Pts.to hqR bBel))))))
      refine wpQuiet_nil ?_
      intro w1 hw1
      obtain ⟨q, rfl⟩ := hw1
      by_cases c1 : G ≤ 512
      · have e := adv_hit (g := g) (t := u) (2 * N) (39 - k) (by rw [hG.out]; exact c1)
        rw [hA2.out] at e
        cases e
        go_wp2_with fail
        (try rw [Exit.noGoto_ret])
        refine bodyPost_ret (v := .tuple #[.int .i64 T, .bool true]) (by simp [results, Tryz.results7, go_sem]) rfl ⟨rfl, bBel⟩
      obtain ⟨q1, q2, q3⟩ := quo_in gu hn.1
      have hst2 : Hid (stp g (2 * N) u = u + max 1 (G * 65536 / (2 * N))) := by show _ = _; rw [hst.out, q1]
      clear hst
      generalize G * 65536 / (2 * N) = Q at *
      by_cases c2 : 65536 < u + max 1 Q
      · have e := adv_out (g := g) (M := 2 * N) (t := u) (39 - k) (by rw [hG.out]; exact c1) (by rw [hst2.out]; exact c2)
        rw [hA2.out] at e
        cases e
        go_wp2_with fail
        (try rw [Exit.noGoto_ret])
        refine bodyPost_ret (v := .tuple #[.int .i64 0, .bool false]) (by simp [results, Tryz.results7, go_sem]) rfl ⟨rfl, bBel⟩
      · have e := adv_go (g := g) (M := 2 * N) (t := u) (39 - k) (by rw [hG.out]; exact c1) (by rw [hst2.out]; exact c2)
        have hA3 : Hid (adv g (2 * N) (40 - (k + 1)) (u + max 1 Q) = (T, D)) := by
          show _ = _
          rw [show 40 - (k + 1) = 39 - k from by omega, ← hst2.out, ← e]; exact hA2.out
        clear e hA2
        have c3 : Hid (u + max 1 Q ≤ 65536) := by show _ ≤ _; omega
        go_wp2_with fail
        exact ⟨⟨k + 1, u + max 1 Q, by omega, by go_num, rfl, by omega, c3.out, hA3, bBel, bBel⟩, by (try go_num); simp [intOf]; (try omega)⟩
    · obtain rfl : k = 40 := by omega
      have e := adv_0 g (2 * N) u
      have hA2 : adv g (2 * N) 0 u = (T, D) := hA
      rw [hA2] at e
      cases e
      go_wp2_with fail
      (try rw [Exit.noGoto_ret])
      refine bodyPost_ret (v := .tuple #[.int .i64 T, .bool true]) (by simp [results, Tryz.results7, go_sem]) rfl ⟨rfl, bBel⟩

end Go.Proofs.YtipcbcngedpmkaaGreat
