/- Laws of chapter 16: ManifoldDistance. -/
import Derived.Test.YtiecpebckmihgaaGreatMnG
import Derived.Test.YtiecpebckmihgaaGreatMnL
import Derived.Test.YtiecpebckmihgaaGreatCo6
set_option linter.unusedVariables false
namespace Go.Proofs.YtiecpebckmihgaaGreat
open Go.RowKit Fx

theorem rnd_dec {K G : Int} {l : List Cnt} {D : Bool} (hD : decide (l ≠ []) = D) (h : K ≠ 3 → (l ≠ [] ↔ G ≤ 1024)) : K ≠ 3 → D = decide (G ≤ 1024) := fun k => by rw [← hD]; exact decide_eq_decide.2 (h k)
set_option maxRecDepth 100000 in
set_option maxHeartbeats 16000000 in
theorem dist_no (K R : Int) (A : Option Addr) (cap : Nat) (ps : List (Int × Int)) (px py pa : Int) (r : Int) (qx qy qa : Int) (w : World) (hp : Pts w A ps) (hl : ps.length ≤ cap) (hc : cap ≤ maxLen)
    (h : (20 : Int) < (ps.length : Int) ∨ (¬ (20 : Int) < (ps.length : Int) ∧ r < 2048) ∨ (¬ (20 : Int) < (ps.length : Int) ∧ ¬ r < 2048 ∧ 524288 < r) ∨ (¬ (20 : Int) < (ps.length : Int) ∧ ¬ r < 2048 ∧ ¬ 524288 < r ∧ valS K R ps ≠ 0) ∨ (¬ (20 : Int) < (ps.length : Int) ∧ ¬ r < 2048 ∧ ¬ 524288 < r ∧ valS K R ps = 0 ∧ tval px py pa = false) ∨ (¬ (20 : Int) < (ps.length : Int) ∧ ¬ r < 2048 ∧ ¬ 524288 < r ∧ valS K R ps = 0 ∧ tval px py pa = true ∧ tval qx qy qa = false)) :
    Calls Tryz.prog 5 #[.agg #[.int .i64 K, .int .i64 R, .slice A ps.length cap], .agg #[.int .i64 px, .int .i64 py, .int .i64 pa], .int .i64 r, .agg #[.int .i64 qx, .int .i64 qy, .int .i64 qa]] w fun e w' => e = .returned (.bool true) ∧ Below w.heap.size w w' := by
  have e0 := example16_b
  have cP := fun w' => rtval_b px py pa w'
  have cQ := fun w' => rtval_b qx qy qa w'
  rcases h with c1 | ⟨c1, c2⟩ | ⟨c1, c2, c3⟩ | ⟨c1, c2, c3, c4⟩ | ⟨c1, c2, c3, c4, c5⟩ | ⟨c1, c2, c3, c4, c5, c6⟩
  focus
    go_enter Tryz.func5, Tryz.ntmps5
    go_wp2_with (go_at_call 7; refine Calls.mono (gw_at (e0 _)) ?_; rintro e w1 ⟨rfl, q, rfl⟩)
    go_ret
    exact ⟨rfl, bBel⟩
  all_goals
    have cV := fun w' h => rval_b K R A cap ps (by omega) w' h
  focus
    go_enter Tryz.func5, Tryz.ntmps5
    go_wp2_with (go_at_call 7; refine Calls.mono (gw_at (e0 _)) ?_; rintro e w1 ⟨rfl, q, rfl⟩)
    go_ret
    exact ⟨rfl, bBel⟩
  focus
    go_enter Tryz.func5, Tryz.ntmps5
    go_wp2_with (go_at_call 7; refine Calls.mono (gw_at (e0 _)) ?_; rintro e w1 ⟨rfl, q, rfl⟩)
    go_ret
    exact ⟨rfl, bBel⟩
  focus
    have c4b : (valS K R ps != 0) = true := by rw [bne_iff_ne]; exact c4
    generalize valS K R ps = V0 at *
    clear c4
    go_enter Tryz.func5, Tryz.ntmps5
    go_wp2_with (first | (go_at_call 9; refine Calls.mono (gw_at (cV _ (Pts.to hp bBel))) ?_; rintro e w1 ⟨rfl, q7, rfl⟩) | (go_at_call 12; (with_reducible show Calls _ _ #[.agg #[.int .i64 px, _, _]] _ _); refine Calls.mono (gw_at (cP _)) ?_; rintro e w1 ⟨rfl, q8, rfl⟩) | (go_at_call 12; (with_reducible show Calls _ _ #[.agg #[.int .i64 qx, _, _]] _ _); refine Calls.mono (gw_at (cQ _)) ?_; rintro e w1 ⟨rfl, q9, rfl⟩) | (go_at_call 7; refine Calls.mono (gw_at (e0 _)) ?_; rintro e w1 ⟨rfl, q, rfl⟩))
    go_ret
    exact ⟨rfl, bBel⟩
  focus
    rw [c4] at cV
    rw [c5] at cP
    clear c4 c5
    go_enter Tryz.func5, Tryz.ntmps5
    go_wp2_with (first | (go_at_call 9; refine Calls.mono (gw_at (cV _ (Pts.to hp bBel))) ?_; rintro e w1 ⟨rfl, q7, rfl⟩) | (go_at_call 12; (with_reducible show Calls _ _ #[.agg #[.int .i64 px, _, _]] _ _); refine Calls.mono (gw_at (cP _)) ?_; rintro e w1 ⟨rfl, q8, rfl⟩) | (go_at_call 12; (with_reducible show Calls _ _ #[.agg #[.int .i64 qx, _, _]] _ _); refine Calls.mono (gw_at (cQ _)) ?_; rintro e w1 ⟨rfl, q9, rfl⟩) | (go_at_call 7; refine Calls.mono (gw_at (e0 _)) ?_; rintro e w1 ⟨rfl, q, rfl⟩))
    go_ret
    exact ⟨rfl, bBel⟩
  focus
    rw [c4] at cV
    rw [c5] at cP
    rw [c6] at cQ
    clear c4 c5 c6
    go_enter Tryz.func5, Tryz.ntmps5
    go_wp2_with (first | (go_at_call 9; refine Calls.mono (gw_at (cV _ (Pts.to hp bBel))) ?_; rintro e w1 ⟨rfl, q7, rfl⟩) | (go_at_call 12; (with_reducible show Calls _ _ #[.agg #[.int .i64 px, _, _]] _ _); refine Calls.mono (gw_at (cP _)) ?_; rintro e w1 ⟨rfl, q8, rfl⟩) | (go_at_call 12; (with_reducible show Calls _ _ #[.agg #[.int .i64 qx, _, _]] _ _); refine Calls.mono (gw_at (cQ _)) ?_; rintro e w1 ⟨rfl, q9, rfl⟩) | (go_at_call 7; refine Calls.mono (gw_at (e0 _)) ?_; rintro e w1 ⟨rfl, q, rfl⟩))
    go_ret
    exact ⟨rfl, bBel⟩

set_option maxRecDepth 100000 in
set_option maxHeartbeats 32000000 in
theorem dist_go (K R : Int) (A : Option Addr) (cap : Nat) (ps : List (Int × Int)) (px py pa : Int) (r : Int) (qx qy qa : Int) (w : World) (hp : Pts w A ps) (hl : ps.length ≤ cap) (hc : cap ≤ maxLen) (h20 : ps.length ≤ 20) (hr : 2048 ≤ r ∧ r ≤ 524288) (hV : valS K R ps = 0) (htp : tval px py pa = true) (htq : tval qx qy qa = true) :
    Calls Tryz.prog 5 #[.agg #[.int .i64 K, .int .i64 R, .slice A ps.length cap], .agg #[.int .i64 px, .int .i64 py, .int .i64 pa], .int .i64 r, .agg #[.int .i64 qx, .int .i64 qy, .int .i64 qa]] w fun e w' => e = .returned (.bool true) ∧ Below w.heap.size w w' := by
  have e0 := example16_b
  have cV := fun w' h => rval_b K R A cap ps (by omega) w' h
  have cP := fun w' => rtval_b px py pa w'
  have cQ := fun w' => rtval_b qx qy qa w'
  obtain ⟨hcon, hrnd⟩ := col_dist (K := K) (R := R) (qa := qa) hV hr htp htq
  rw [hV] at cV
  rw [htp] at cP
  rw [htq] at cQ
  have hval := val_len hV
  have cX := fun b w' h1 h2 => mnt_ex (mcol_b K R 1 r A (some ⟨b, 0, none⟩) cap 1 ps [(0, 0)] px py pa qx qy qa (by omega) (by decide) hl (by decide) (fun _ _ _ hk _ => absurd rfl hk) w' h1 h2)
  have cN := fun w' h => ycon_b K R A cap ps px py pa qx qy (by omega) w' h hl
  have cL : ∀ w', Pts w' A ps → Calls Tryz.prog 14 #[.agg #[.int .i64 K, .int .i64 R, .slice A ps.length cap], .agg #[.int .i64 px, .int .i64 py, .int .i64 pa]] w' fun e w'' => (∃ A' cap', e = .returned (.slice A' ps.length cap') ∧ Pts w'' A' (ps.map (tr px py pa))) ∧ ∃ q, w'' = gw w' q := fun w' h => (yvert_b K R A cap ps px py pa (by omega) w' h hl).mono fun e w'' ⟨⟨A', cap', h1, _, _, h2⟩, h3⟩ => by
    rw [core_ok px py pa hV] at h1 h2
    rw [List.length_map] at h1
    exact ⟨⟨A', cap', h1, h2⟩, gw_of_below h3⟩
  have hr1 : ¬ r < 2048 := by omega
  have hr2 : ¬ 524288 < r := by omega
  have cC := circ_b r
  have k13 := (valS_zero.1 hV).1
  generalize col K R ps px py pa 1 r [(0, 0)] qx qy qa = N at *
  obtain ⟨D, hD⟩ : ∃ D, decide (N.l ≠ []) = D := ⟨_, rfl⟩
  have hcD : conS K R ps px py pa qx qy = true → D = true := fun h => by rw [← hD]; exact decide_eq_true (hcon h)
  have hrD := rnd_dec hD hrnd
  have cA : ∀ b w', Pts w' A ps → Pts w' (some ⟨b, 0, none⟩) [(0, 0)] → Calls Tryz.prog 8 #[.agg #[.int .i64 K, .int .i64 R, .slice A ps.length cap], .agg #[.int .i64 px, .int .i64 py, .int .i64 pa], .agg #[.int .i64 1, .int .i64 r, .slice (some ⟨b, 0, none⟩) 1 1], .agg #[.int .i64 qx, .int .i64 qy, .int .i64 qa]] w' fun e w'' => (∃ A' cap' x5 y5 n5, e = .returned (.tuple #[.agg #[.int .i64 x5, .int .i64 y5, .slice A' n5 cap'], .bool D])) ∧ ∃ q, w'' = gw w' q := fun b w' h1 h2 => (cX b w' h1 h2).mono fun e w'' ⟨⟨A', cap', h1, _⟩, h3⟩ => ⟨⟨A', cap', N.nx, N.ny, N.l.length, by rw [h1, hD]⟩, h3⟩
  clear cX hcon hrnd hV htp htq hr
  generalize conS K R ps px py pa qx qy = cn at *
  have hLl : (ps.map (tr px py pa)).length = ps.length := List.length_map ..
  have h20' : ¬ (20 : Int) < (ps.length : Int) := by omega
  generalize ps.map (tr px py pa) = L at *
  clear hD
  have hLH : Hid (L.length = ps.length) := hLl
  clear hLl
  generalize hn : ps.length = n at *
  have hnH : Hid (ps.length = n) := hn
  clear hn
  go_enter Tryz.func5, Tryz.ntmps5
  go_upto_region 3 with (first | (go_at_call 9; refine Calls.mono (gw_at (cV _ (Pts.to hp bBel))) ?_; rintro e w1 ⟨rfl, q7, rfl⟩) | (go_at_call 12; (with_reducible show Calls _ _ #[.agg #[.int .i64 px, _, _]] _ _); refine Calls.mono (gw_at (cP _)) ?_; rintro e w1 ⟨rfl, q8, rfl⟩) | (go_at_call 12; (with_reducible show Calls _ _ #[.agg #[.int .i64 qx, _, _]] _ _); refine Calls.mono (gw_at (cQ _)) ?_; rintro e w1 ⟨rfl, q9, rfl⟩) | (go_at_call 7; refine Calls.mono (gw_at (e0 _)) ?_; rintro e w1 ⟨rfl, q, rfl⟩))
  refine wp_named ?_
  intro W hW
  have kA : blk W w.heap.size #[.int .i64 K, .int .i64 R, .slice A n cap] 25 := by rw [hW]; exact bBkn
  have kP : blk W (w.heap.size + 1) #[.int .i64 px, .int .i64 py, .int .i64 pa] 29 := by rw [hW]; exact bBkn
  have kQ : blk W (w.heap.size + 2) #[.int .i64 qx, .int .i64 qy, .int .i64 qa] 29 := by rw [hW]; exact bBkn
  have hbW : Below w.heap.size w W := by rw [hW]; exact bBel
  have hpW := Pts.to hp hbW
  clear hW cV cP cQ hr1 hr2 h20'
  have hszW := hbW.size
  have hcellB : ∀ w', Below W.heap.size W w' → Below W.heap.size W w' ∧ w'.cell? ⟨w.heap.size, 0, none⟩ = some (.int .i64 K) ∧ w'.cell? ⟨w.heap.size, 1, none⟩ = some (.int .i64 R) ∧ w'.cell? ⟨w.heap.size, 2, none⟩ = some (.slice A n cap) ∧ w'.cell? ⟨w.heap.size + 1, 0, none⟩ = some (.int .i64 px) ∧ w'.cell? ⟨w.heap.size + 1, 1, none⟩ = some (.int .i64 py) ∧ w'.cell? ⟨w.heap.size + 1, 2, none⟩ = some (.int .i64 pa) ∧ w'.cell? ⟨w.heap.size + 2, 0, none⟩ = some (.int .i64 qx) ∧ w'.cell? ⟨w.heap.size + 2, 1, none⟩ = some (.int .i64 qy) ∧ w'.cell? ⟨w.heap.size + 2, 2, none⟩ = some (.int .i64 qa) := fun w' h => ⟨h, (h.cell (p := ⟨w.heap.size, 0, none⟩) (blk_lt kA)).trans (blk_cell kA 0), (h.cell (p := ⟨w.heap.size, 1, none⟩) (blk_lt kA)).trans (blk_cell kA 1), (h.cell (p := ⟨w.heap.size, 2, none⟩) (blk_lt kA)).trans (blk_cell kA 2), (h.cell (p := ⟨w.heap.size + 1, 0, none⟩) (blk_lt kP)).trans (blk_cell kP 0), (h.cell (p := ⟨w.heap.size + 1, 1, none⟩) (blk_lt kP)).trans (blk_cell kP 1), (h.cell (p := ⟨w.heap.size + 1, 2, none⟩) (blk_lt kP)).trans (blk_cell kP 2), (h.cell (p := ⟨w.heap.size + 2, 0, none⟩) (blk_lt kQ)).trans (blk_cell kQ 0), (h.cell (p := ⟨w.heap.size + 2, 1, none⟩) (blk_lt kQ)).trans (blk_cell kQ 1), (h.cell (p := ⟨w.heap.size + 2, 2, none⟩) (blk_lt kQ)).trans (blk_cell kQ 2)⟩
  go_cut [9, 10] (fun mm ok wx => ∃ M, mm = .pointer (some ⟨M, 0, none⟩) ∧ ok = .bool D ∧ Below W.heap.size W wx)
  case first =>
    go_region_held3 (fun w' => Below W.heap.size W w' ∧ w'.cell? ⟨w.heap.size, 0, none⟩ = some (.int .i64 K) ∧ w'.cell? ⟨w.heap.size, 1, none⟩ = some (.int .i64 R) ∧ w'.cell? ⟨w.heap.size, 2, none⟩ = some (.slice A n cap) ∧ w'.cell? ⟨w.heap.size + 1, 0, none⟩ = some (.int .i64 px) ∧ w'.cell? ⟨w.heap.size + 1, 1, none⟩ = some (.int .i64 py) ∧ w'.cell? ⟨w.heap.size + 1, 2, none⟩ = some (.int .i64 pa) ∧ w'.cell? ⟨w.heap.size + 2, 0, none⟩ = some (.int .i64 qx) ∧ w'.cell? ⟨w.heap.size + 2, 1, none⟩ = some (.int .i64 qy) ∧ w'.cell? ⟨w.heap.size + 2, 2, none⟩ = some (.int .i64 qa)) (first | (refine hcellB _ ?_; exact bBel)) (first | (go_at_call 13; refine Calls.mono (cC _) ?_; rintro e w1 ⟨⟨b1, rfl, hP1⟩, q1, rfl⟩) | (go_at_call 8; refine Calls.mono (cA _ _ (Pts.to hpW bBel) (Pts.to hP1 bBel)) ?_; rintro e w1 ⟨⟨A5, c5, x5, y5, n5, rfl⟩, q5, rfl⟩))
    all_goals
      go_wp2_with fail
    all_goals
      go_meet
      exact ⟨_, rfl, rfl, bBel⟩
  case rest =>
  obtain ⟨M, rfl, rfl, hbX⟩ := hcut
  generalize wc = X at *
  have kA1 := blk_below hbX kA
  have kP1 := blk_below hbX kP
  have kQ1 := blk_below hbX kQ
  have hbX2 : Below w.heap.size w X := Below.trans hbW (hbX.mono hszW)
  have hpX := Pts.to hpW hbX
  clear hcellB kA kP kQ hbX hbW hpW hp cA cC
  have hszX := hbX2.size
  have okA1 := blk_older kA1
  have ckA1_0 : _ = some _ := blk_cell kA1 0
  have ckA1_1 : _ = some _ := blk_cell kA1 1
  have ckA1_2 : _ = some _ := blk_cell kA1 2
  have fkA1_0 := blk_free kA1 0
  have fkA1_1 := blk_free kA1 1
  have fkA1_2 := blk_free kA1 2
  have okP1 := blk_older kP1
  have ckP1_0 : _ = some _ := blk_cell kP1 0
  have ckP1_1 : _ = some _ := blk_cell kP1 1
  have ckP1_2 : _ = some _ := blk_cell kP1 2
  have fkP1_0 := blk_free kP1 0
  have fkP1_1 := blk_free kP1 1
  have fkP1_2 := blk_free kP1 2
  have okQ1 := blk_older kQ1
  have ckQ1_0 : _ = some _ := blk_cell kQ1 0
  have ckQ1_1 : _ = some _ := blk_cell kQ1 1
  have ckQ1_2 : _ = some _ := blk_cell kQ1 2
  have fkQ1_0 := blk_free kQ1 0
  have fkQ1_1 := blk_free kQ1 1
  have fkQ1_2 := blk_free kQ1 2
  go_upto_region 5 with (go_at_call 14; refine Calls.mono (cL _ (Pts.to hpX bBel)) ?_; rintro e w1 ⟨⟨A6, c6, rfl, hP6⟩, q6, rfl⟩)
  refine wp_named ?_
  intro V hV
  have hPV : Pts V A6 L := by rw [hV]; exact Pts.to hP6 bBel
  have hbV : Below X.heap.size X V := by rw [hV]; exact bBel
  have kA2 := blk_below hbV kA1
  have kP2 := blk_below hbV kP1
  have kQ2 := blk_below hbV kQ1
  have hpV := Pts.to hpX hbV
  have hbV2 : Below w.heap.size w V := Below.trans hbX2 (hbV.mono hszX)
  have hszV := hbV2.size
  clear hV okA1 ckA1_0 ckA1_1 ckA1_2 fkA1_0 fkA1_1 fkA1_2 okP1 ckP1_0 ckP1_1 ckP1_2 fkP1_0 fkP1_1 fkP1_2 okQ1 ckQ1_0 ckQ1_1 ckQ1_2 fkQ1_0 fkQ1_1 fkQ1_2 kA1 kP1 kQ1 hP6 hpX hbX2 hbV cL
  have okA2 := blk_older kA2
  have ckA2_0 : _ = some _ := blk_cell kA2 0
  have ckA2_1 : _ = some _ := blk_cell kA2 1
  have ckA2_2 : _ = some _ := blk_cell kA2 2
  have fkA2_0 := blk_free kA2 0
  have fkA2_1 := blk_free kA2 1
  have fkA2_2 := blk_free kA2 2
  have okP2 := blk_older kP2
  have ckP2_0 : _ = some _ := blk_cell kP2 0
  have ckP2_1 : _ = some _ := blk_cell kP2 1
  have ckP2_2 : _ = some _ := blk_cell kP2 2
  have fkP2_0 := blk_free kP2 0
  have fkP2_1 := blk_free kP2 1
  have fkP2_2 := blk_free kP2 2
  have okQ2 := blk_older kQ2
  have ckQ2_0 : _ = some _ := blk_cell kQ2 0
  have ckQ2_1 : _ = some _ := blk_cell kQ2 1
  have ckQ2_2 : _ = some _ := blk_cell kQ2 2
  have fkQ2_0 := blk_free kQ2 0
  have fkQ2_1 := blk_free kQ2 1
  have fkQ2_2 := blk_free kQ2 2
  have hLn := hLH.out
  clear hLH
  by_cases k3 : K = 3
  focus
    clear hrD hval
    subst k3
    cases D
    focus
      obtain rfl : cn = false := by cases cn with | false => rfl | true => exact absurd (hcD rfl) (by decide)
      clear hcD
      go_wp2_with (first | (go_at_call 15; refine Calls.mono (gw_at (cN _ (Pts.to hpV bBel))) ?_; rintro e w1 ⟨rfl, q3, rfl⟩) | (go_at_call 7; refine Calls.mono (gw_at (e0 _)) ?_; rintro e w1 ⟨rfl, q, rfl⟩))
      go_ret
      exact ⟨rfl, bBel⟩
    focus
      clear hcD
      cases cn
      all_goals
        go_wp2_with (first | (go_at_call 15; refine Calls.mono (gw_at (cN _ (Pts.to hpV bBel))) ?_; rintro e w1 ⟨rfl, q3, rfl⟩) | (go_at_call 7; refine Calls.mono (gw_at (e0 _)) ?_; rintro e w1 ⟨rfl, q, rfl⟩))
        go_ret
        exact ⟨rfl, bBel⟩
  have hrE := hrD k3
  clear hrD
  have hK := hval.2.2
  rcases (show K = 1 ∨ K = 2 by omega) with rfl | rfl
  focus
    obtain rfl := hK.1 rfl
    clear hK hval k3 k13
    obtain ⟨b6, o6, rfl, hc6⟩ := pts_open0 hPV (by omega)
    obtain ⟨g0, g1⟩ := hc6 0 (by omega)
    rw [Nat.zero_mul, Nat.add_zero] at g0 g1
    have og := older_of_cell g0
    rw [Nat.sub_self, hp_get (show 0 < L.length by omega)] at hrE
    have cS := fun w' => xsdist_b L[0].1 L[0].2 L[0].1 L[0].2 qx qy qx qy w'
    generalize sdist L[0].1 L[0].2 L[0].1 L[0].2 qx qy qx qy = d0 at *
    generalize L[0].1 = u1 at *
    generalize L[0].2 = u2 at *
    clear hc6 hLn
    have cs1 := fun w' => sub_b d0 R w'
    have cs2 := fun w' => sub_b (sub d0 R) r w'
    generalize sub (sub d0 R) r = G at *
    generalize sub d0 R = d1 at *
    by_cases hG : G ≤ 1024
    focus
      have hg : decide (G ≤ 1024) = true := decide_eq_true hG
      rw [hg] at hrE
      subst hrE
      clear hcD hG
      cases cn
      all_goals
        go_upto_region 9 with (first | (go_at_call 15; refine Calls.mono (gw_at (cN _ (Pts.to hpV bBel))) ?_; rintro e w1 ⟨rfl, q3, rfl⟩) | (go_at_call 7; refine Calls.mono (gw_at (e0 _)) ?_; rintro e w1 ⟨rfl, q, rfl⟩))
        refine wp_region_gw (by kernel_rfl) (by kernel_rfl) ?_
        repeat (go_big_quiet_step ((first | (go_at_call 16; with_reducible_and_instances exact gw_call (cS _)))))
        refine wpQuiet_nil ?_
        intro w1 hw1
        obtain ⟨q, rfl⟩ := hw1
        go_wp2_with (first | (go_at_call 17; (with_reducible show Calls _ _ #[.int .i64 d0, _] _ _); refine Calls.mono (gw_at (cs1 _)) ?_; rintro e w1 ⟨rfl, q3, rfl⟩) | (go_at_call 17; (with_reducible show Calls _ _ #[.int .i64 d1, _] _ _); refine Calls.mono (gw_at (cs2 _)) ?_; rintro e w1 ⟨rfl, q3, rfl⟩) | (go_at_call 7; refine Calls.mono (gw_at (e0 _)) ?_; rintro e w1 ⟨rfl, q, rfl⟩))
        go_ret
        exact ⟨rfl, bBel⟩
    focus
      have hg : decide (G ≤ 1024) = false := decide_eq_false hG
      rw [hg] at hrE
      subst hrE
      obtain rfl : cn = false := by cases cn with | false => rfl | true => exact absurd (hcD rfl) (by decide)
      clear hcD hG
      go_upto_region 9 with (first | (go_at_call 15; refine Calls.mono (gw_at (cN _ (Pts.to hpV bBel))) ?_; rintro e w1 ⟨rfl, q3, rfl⟩) | (go_at_call 7; refine Calls.mono (gw_at (e0 _)) ?_; rintro e w1 ⟨rfl, q, rfl⟩))
      refine wp_region_gw (by kernel_rfl) (by kernel_rfl) ?_
      repeat (go_big_quiet_step ((first | (go_at_call 16; with_reducible_and_instances exact gw_call (cS _)))))
      refine wpQuiet_nil ?_
      intro w1 hw1
      obtain ⟨q, rfl⟩ := hw1
      go_wp2_with (first | (go_at_call 17; (with_reducible show Calls _ _ #[.int .i64 d0, _] _ _); refine Calls.mono (gw_at (cs1 _)) ?_; rintro e w1 ⟨rfl, q3, rfl⟩) | (go_at_call 17; (with_reducible show Calls _ _ #[.int .i64 d1, _] _ _); refine Calls.mono (gw_at (cs2 _)) ?_; rintro e w1 ⟨rfl, q3, rfl⟩) | (go_at_call 7; refine Calls.mono (gw_at (e0 _)) ?_; rintro e w1 ⟨rfl, q, rfl⟩))
      go_ret
      exact ⟨rfl, bBel⟩
  focus
    obtain rfl := hK.2.1 rfl
    clear hK hval k3 k13
    obtain ⟨b6, o6, rfl, hc6⟩ := pts_open0 hPV (by omega)
    obtain ⟨g0, g1⟩ := hc6 0 (by omega)
    obtain ⟨g2, g3⟩ := hc6 1 (by omega)
    rw [Nat.zero_mul, Nat.add_zero] at g0 g1
    rw [Nat.one_mul] at g2 g3
    have og := older_of_cell g0
    rw [show (2 : Nat) - 1 = 1 from rfl, hp_get (show 0 < L.length by omega), hp_get (show 1 < L.length by omega)] at hrE
    have cS := fun w' => xsdist_b L[0].1 L[0].2 L[1].1 L[1].2 qx qy qx qy w'
    generalize sdist L[0].1 L[0].2 L[1].1 L[1].2 qx qy qx qy = d0 at *
    generalize L[0].1 = u1 at *
    generalize L[0].2 = u2 at *
    generalize L[1].1 = v1 at *
    generalize L[1].2 = v2 at *
    clear hc6 hLn
    have cs1 := fun w' => sub_b d0 R w'
    have cs2 := fun w' => sub_b (sub d0 R) r w'
    generalize sub (sub d0 R) r = G at *
    generalize sub d0 R = d1 at *
    by_cases hG : G ≤ 1024
    focus
      have hg : decide (G ≤ 1024) = true := decide_eq_true hG
      rw [hg] at hrE
      subst hrE
      clear hcD hG
      cases cn
      all_goals
        go_upto_region 9 with (first | (go_at_call 15; refine Calls.mono (gw_at (cN _ (Pts.to hpV bBel))) ?_; rintro e w1 ⟨rfl, q3, rfl⟩) | (go_at_call 7; refine Calls.mono (gw_at (e0 _)) ?_; rintro e w1 ⟨rfl, q, rfl⟩))
        refine wp_region_gw (by kernel_rfl) (by kernel_rfl) ?_
        repeat (go_big_quiet_step ((first | (go_at_call 16; with_reducible_and_instances exact gw_call (cS _)))))
        refine wpQuiet_nil ?_
        intro w1 hw1
        obtain ⟨q, rfl⟩ := hw1
        go_wp2_with (first | (go_at_call 17; (with_reducible show Calls _ _ #[.int .i64 d0, _] _ _); refine Calls.mono (gw_at (cs1 _)) ?_; rintro e w1 ⟨rfl, q3, rfl⟩) | (go_at_call 17; (with_reducible show Calls _ _ #[.int .i64 d1, _] _ _); refine Calls.mono (gw_at (cs2 _)) ?_; rintro e w1 ⟨rfl, q3, rfl⟩) | (go_at_call 7; refine Calls.mono (gw_at (e0 _)) ?_; rintro e w1 ⟨rfl, q, rfl⟩))
        go_ret
        exact ⟨rfl, bBel⟩
    focus
      have hg : decide (G ≤ 1024) = false := decide_eq_false hG
      rw [hg] at hrE
      subst hrE
      obtain rfl : cn = false := by cases cn with | false => rfl | true => exact absurd (hcD rfl) (by decide)
      clear hcD hG
      go_upto_region 9 with (first | (go_at_call 15; refine Calls.mono (gw_at (cN _ (Pts.to hpV bBel))) ?_; rintro e w1 ⟨rfl, q3, rfl⟩) | (go_at_call 7; refine Calls.mono (gw_at (e0 _)) ?_; rintro e w1 ⟨rfl, q, rfl⟩))
      refine wp_region_gw (by kernel_rfl) (by kernel_rfl) ?_
      repeat (go_big_quiet_step ((first | (go_at_call 16; with_reducible_and_instances exact gw_call (cS _)))))
      refine wpQuiet_nil ?_
      intro w1 hw1
      obtain ⟨q, rfl⟩ := hw1
      go_wp2_with (first | (go_at_call 17; (with_reducible show Calls _ _ #[.int .i64 d0, _] _ _); refine Calls.mono (gw_at (cs1 _)) ?_; rintro e w1 ⟨rfl, q3, rfl⟩) | (go_at_call 17; (with_reducible show Calls _ _ #[.int .i64 d1, _] _ _); refine Calls.mono (gw_at (cs2 _)) ?_; rintro e w1 ⟨rfl, q3, rfl⟩) | (go_at_call 7; refine Calls.mono (gw_at (e0 _)) ?_; rintro e w1 ⟨rfl, q, rfl⟩))
      go_ret
      exact ⟨rfl, bBel⟩

theorem walk_ManifoldDistance (K R : Int) (A : Option Addr) (cap : Nat) (ps : List (Int × Int)) (px py pa : Int) (r : Int) (qx qy qa : Int) (w : World) (hp : Pts w A ps) (hl : ps.length ≤ cap) (hc : cap ≤ maxLen) : Calls Tryz.prog 5 #[.agg #[.int .i64 K, .int .i64 R, .slice A ps.length cap], .agg #[.int .i64 px, .int .i64 py, .int .i64 pa], .int .i64 r, .agg #[.int .i64 qx, .int .i64 qy, .int .i64 qa]] w fun e w' => e = .returned (.bool true) ∧ Below w.heap.size w w' := by
  by_cases c1 : (20 : Int) < (ps.length : Int)
  · exact dist_no K R A cap ps px py pa r qx qy qa w hp hl hc (.inl c1)
  by_cases c2 : r < 2048
  · exact dist_no K R A cap ps px py pa r qx qy qa w hp hl hc (.inr (.inl ⟨c1, c2⟩))
  by_cases c3 : 524288 < r
  · exact dist_no K R A cap ps px py pa r qx qy qa w hp hl hc (.inr (.inr (.inl ⟨c1, c2, c3⟩)))
  by_cases c4 : valS K R ps = 0
  rotate_left
  · exact dist_no K R A cap ps px py pa r qx qy qa w hp hl hc (.inr (.inr (.inr (.inl ⟨c1, c2, c3, c4⟩))))
  cases c5 : tval px py pa
  · exact dist_no K R A cap ps px py pa r qx qy qa w hp hl hc (.inr (.inr (.inr (.inr (.inl ⟨c1, c2, c3, c4, c5⟩)))))
  cases c6 : tval qx qy qa
  · exact dist_no K R A cap ps px py pa r qx qy qa w hp hl hc (.inr (.inr (.inr (.inr (.inr ⟨c1, c2, c3, c4, c5, c6⟩)))))
  exact dist_go K R A cap ps px py pa r qx qy qa w hp hl hc (by omega) ⟨by omega, by omega⟩ c4 c5 c6

end Go.Proofs.YtiecpebckmihgaaGreat
