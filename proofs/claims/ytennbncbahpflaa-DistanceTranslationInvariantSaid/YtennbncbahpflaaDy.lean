/- Laws of chapter 17: DistanceToCircle, DistanceTranslationInvariant. -/
import Derived.Test.YtennbncbahpflaaDl
set_option linter.unusedVariables false
namespace Go.Proofs.Ytennbncbahpflaa
open Go.RowKit Fx

theorem pt_in {K R : Int} {ps : List Pt} {px py pa x y : Int} : 0 ≤ ptS K R ps px py pa x y ∧ ptS K R ps px py pa x y ≤ 536870911 := by
  refine ⟨pt_nn .., ?_⟩
  unfold ptS ptC
  split
  · split
    · decide
    · have : sub (gap (ps.map (tr px py pa)) [(x, y)]) R ≤ 536870911 := by unfold sub; exact sat_le _
      omega
  · decide

set_option maxRecDepth 100000 in
set_option maxHeartbeats 16000000 in
theorem walk_DistanceToCircle (K R : Int) (A : Option Addr) (cap : Nat) (ps : List (Int × Int)) (px py pa cx cy r : Int) (w : World) (hp : Pts w A ps) (hl : ps.length ≤ cap) (hc : cap ≤ maxLen) : Calls Try.prog 4 #[.agg #[.int .i64 K, .int .i64 R, .slice A ps.length cap], .agg #[.int .i64 px, .int .i64 py, .int .i64 pa], .agg #[.int .i64 cx, .int .i64 cy], .int .i64 r] w fun e w' => e = .returned (.bool true) ∧ Below w.heap.size w w' := by
  have e0 := example17_b
  by_cases n0 : 20 < (ps.length : Int)
  focus
    go_enter Try.func4, Try.ntmps4
    go_wp2_with (go_at_call 7; refine Calls.mono (gw_at (e0 _)) ?_; rintro e w1 ⟨rfl, q, rfl⟩)
    go_ret
    exact ⟨rfl, bBel⟩
  have cV := fun w' h => rval_b K R A cap ps (by omega) w' h
  by_cases hv : valS K R ps = 0
  rotate_left
  focus
    have b1 : (valS K R ps != 0) = true := by rw [bne_iff_ne]; exact hv
    generalize valS K R ps = V at *
    clear hv
    go_enter Try.func4, Try.ntmps4
    go_wp2_with (first | (go_at_call 9; refine Calls.mono (gw_at (cV _ (Pts.to hp bBel))) ?_; rintro e w1 ⟨rfl, q, rfl⟩) | (go_at_call 7; refine Calls.mono (gw_at (e0 _)) ?_; rintro e w1 ⟨rfl, q, rfl⟩))
    go_ret
    exact ⟨rfl, bBel⟩
  rw [hv] at cV
  have hcs : (r < 2048 ∨ (¬ r < 2048 ∧ 524288 < r) ∨ (¬ r < 2048 ∧ ¬ 524288 < r ∧ cx < -536870911) ∨ (¬ r < 2048 ∧ ¬ 524288 < r ∧ ¬ cx < -536870911 ∧ 536870911 < cx) ∨ (¬ r < 2048 ∧ ¬ 524288 < r ∧ ¬ cx < -536870911 ∧ ¬ 536870911 < cx ∧ cy < -536870911) ∨ (¬ r < 2048 ∧ ¬ 524288 < r ∧ ¬ cx < -536870911 ∧ ¬ 536870911 < cx ∧ ¬ cy < -536870911 ∧ 536870911 < cy)) ∨ (¬ r < 2048 ∧ ¬ 524288 < r ∧ ¬ cx < -536870911 ∧ ¬ 536870911 < cx ∧ ¬ cy < -536870911 ∧ ¬ 536870911 < cy) := by omega
  rcases hcs with hcs | ⟨r0, r1, r2, r3, r4, r5⟩
  · clear hv
    rcases hcs with c | ⟨c, d⟩ | ⟨c, d, f⟩ | ⟨c, d, f, g⟩ | ⟨c, d, f, g, h⟩ | ⟨c, d, f, g, h, i⟩
    all_goals
      go_enter Try.func4, Try.ntmps4
      go_wp2_with (first | (go_at_call 9; refine Calls.mono (gw_at (cV _ (Pts.to hp bBel))) ?_; rintro e w1 ⟨rfl, q, rfl⟩) | (go_at_call 7; refine Calls.mono (gw_at (e0 _)) ?_; rintro e w1 ⟨rfl, q, rfl⟩))
      go_ret
      exact ⟨rfl, bBel⟩
  have cC := circ17_b r
  have cP := fun w' h => ypt17_b K R A cap ps px py pa cx cy (by omega) hl w' h
  have cS : ∀ A2 w', Pts w' A ps → Pts w' A2 [(0, 0)] → Calls Try.prog 8 #[.agg #[.int .i64 K, .int .i64 R, .slice A ps.length cap], .agg #[.int .i64 px, .int .i64 py, .int .i64 pa], .agg #[.int .i64 1, .int .i64 r, .slice A2 1 1], .agg #[.int .i64 cx, .int .i64 cy, .int .i64 0]] w' fun e w'' => e = .returned (.int .i64 (max (ptS K R ps px py pa cx cy - r) 0)) ∧ Below w'.heap.size w' w'' := fun A2 w' h1 h2 => by
    have := ysep17_b K R 1 r A A2 cap 1 ps [(0, 0)] px py pa cx cy 0 (by omega) (by simp) hl (by simp) w' h1 h2
    rw [circle_sep hv ⟨by omega, by omega⟩ ⟨by omega, by omega⟩ ⟨by omega, by omega⟩] at this
    exact this
  have hP := @pt_in K R ps px py pa cx cy
  generalize ptS K R ps px py pa cx cy = P at *
  have e1 : IntKind.i64.wrap (P - r) = P - r := by rw [IntWalk.i64_left, IntWalk.wrap64_in _ (by omega)]
  clear hv hP
  go_enter Try.func4, Try.ntmps4
  go_upto_region 3 with (go_at_call 9; refine Calls.mono (gw_at (cV _ (Pts.to hp bBel))) ?_; rintro e w1 ⟨rfl, q, rfl⟩)
  refine wp_named ?_
  intro W hW
  have kA : blk W w.heap.size #[.int .i64 K, .int .i64 R, .slice A ps.length cap] 25 := by rw [hW]; exact bBkn
  have kT : blk W (w.heap.size + 1) #[.int .i64 px, .int .i64 py, .int .i64 pa] 29 := by rw [hW]; exact bBkn
  have kV : blk W (w.heap.size + 2) #[.int .i64 cx, .int .i64 cy] 27 := by rw [hW]; exact bBkn
  have hbW : Below w.heap.size w W := by rw [hW]; exact bBel
  clear hW
  have hszW := hbW.size
  have hpW := Pts.to hp hbW
  have okA := blk_older kA
  have ckA_0 : _ = some _ := blk_cell kA 0
  have ckA_1 : _ = some _ := blk_cell kA 1
  have ckA_2 : _ = some _ := blk_cell kA 2
  have fkA_0 := blk_free kA 0
  have fkA_1 := blk_free kA 1
  have fkA_2 := blk_free kA 2
  have okT := blk_older kT
  have ckT_0 : _ = some _ := blk_cell kT 0
  have ckT_1 : _ = some _ := blk_cell kT 1
  have ckT_2 : _ = some _ := blk_cell kT 2
  have fkT_0 := blk_free kT 0
  have fkT_1 := blk_free kT 1
  have fkT_2 := blk_free kT 2
  have okV := blk_older kV
  have ckV_0 : _ = some _ := blk_cell kV 0
  have ckV_1 : _ = some _ := blk_cell kV 1
  have fkV_0 := blk_free kV 0
  have fkV_1 := blk_free kV 1
  refine wp_mix 8 [0, 0, 0, 4, 0, 16, 63, 127] [] [0, 1, 2, 3, 4, 5, 6, 7] (by kernel_rfl) (by kernel_rfl) ?_
  repeat (first | (refine mix_skip (by rfl) (by rfl) (by rfl) (by rfl) ?_) | (refine mix_early (by rfl) (by rfl) (by rfl) ?_; go_big_quiet_step (fail); with_reducible refine wpQuiet_nil ?_) | (refine mix_late (by rfl) (by rfl) (by rfl) ?_; go_big_quiet_step (fail); with_reducible refine wpQuiet_nil ?_) | (refine mix_call (by rfl) (by rfl) (by rfl) ?_; intro pM Qs hQs; go_wp2_with (first | (go_at_call 11; refine Calls.mono (cC _) ?_; rintro e w1 ⟨⟨b1, rfl, hP1⟩, q1, rfl⟩) | (go_at_call 8; refine Calls.mono (gw_at (cS _ _ (Pts.to hpW bBel) (Pts.to hP1 bBel))) ?_; rintro e w1 ⟨rfl, q2, rfl⟩)); refine hQs _ _ bBel ?_))
  refine mix_end ?_
  intro pE
  simp only [List.drop_succ_cons, List.drop_zero]
  go_wp2_with (first | (go_at_call 12; refine Calls.mono (gw_at (cP _ (Pts.to hpW bBel))) ?_; rintro e w1 ⟨rfl, q3, rfl⟩) | (go_at_call 7; refine Calls.mono (gw_at (e0 _)) ?_; rintro e w1 ⟨rfl, q4, rfl⟩))
  go_ret
  exact ⟨rfl, bBel⟩

set_option maxRecDepth 100000 in
set_option maxHeartbeats 16000000 in
theorem walk_DistanceTranslationInvariant (K R : Int) (A : Option Addr) (cap : Nat) (ps : List (Int × Int)) (px py pa : Int) (K2 R2 : Int) (B_ : Option Addr) (cap2 : Nat) (qs : List (Int × Int)) (qx qy qa dx dy : Int) (w : World) (hp : Pts w A ps) (hl : ps.length ≤ cap) (hc : cap ≤ maxLen) (hq : Pts w B_ qs) (hm : qs.length ≤ cap2) (hc2 : cap2 ≤ maxLen) : Calls Try.prog 5 #[.agg #[.int .i64 K, .int .i64 R, .slice A ps.length cap], .agg #[.int .i64 px, .int .i64 py, .int .i64 pa], .agg #[.int .i64 K2, .int .i64 R2, .slice B_ qs.length cap2], .agg #[.int .i64 qx, .int .i64 qy, .int .i64 qa], .agg #[.int .i64 dx, .int .i64 dy]] w fun e w' => e = .returned (.bool true) ∧ Below w.heap.size w w' := by
  have e0 := example17_b
  have cW := fun w' => small17_b K R K2 R2 A B_ cap cap2 ps qs w'
  have c1 := fun w' => near17_b px py w'
  have c2 := fun w' => near17_b qx qy w'
  have c3 := fun w' => near17_b dx dy w'
  have hn1 := @nrB_iff px py
  have hn2 := @nrB_iff qx qy
  have hn3 := @nrB_iff dx dy
  have hsm : decide (ps.length ≤ 20 ∧ qs.length ≤ 20) = true → ps.length ≤ 20 ∧ qs.length ≤ 20 := of_decide_eq_true
  generalize decide (ps.length ≤ 20 ∧ qs.length ≤ 20) = D0 at *
  generalize nrB px py = D1 at *
  generalize nrB qx qy = D2 at *
  generalize nrB dx dy = D3 at *
  cases D0
  focus
    clear hn1 hn2 hn3 hsm
    go_enter Try.func5, Try.ntmps5
    go_wp2_with (first | (go_at_call 6; refine Calls.mono (gw_at (cW _)) ?_; rintro e w1 ⟨rfl, q, rfl⟩) | (go_at_call 7; refine Calls.mono (gw_at (e0 _)) ?_; rintro e w1 ⟨rfl, q, rfl⟩))
    go_ret
    exact ⟨rfl, bBel⟩
  cases D1
  focus
    clear hn1 hn2 hn3 hsm
    go_enter Try.func5, Try.ntmps5
    go_wp2_with (first | (go_at_call 6; refine Calls.mono (gw_at (cW _)) ?_; rintro e w1 ⟨rfl, q, rfl⟩) | (go_at_call 13; (with_reducible show Calls _ _ #[.agg #[.int .i64 px, _]] _ _); refine Calls.mono (gw_at (c1 _)) ?_; rintro e w1 ⟨rfl, q1, rfl⟩) | (go_at_call 7; refine Calls.mono (gw_at (e0 _)) ?_; rintro e w1 ⟨rfl, q, rfl⟩))
    go_ret
    exact ⟨rfl, bBel⟩
  cases D2
  focus
    clear hn1 hn2 hn3 hsm
    go_enter Try.func5, Try.ntmps5
    go_wp2_with (first | (go_at_call 6; refine Calls.mono (gw_at (cW _)) ?_; rintro e w1 ⟨rfl, q, rfl⟩) | (go_at_call 13; (with_reducible show Calls _ _ #[.agg #[.int .i64 px, _]] _ _); refine Calls.mono (gw_at (c1 _)) ?_; rintro e w1 ⟨rfl, q1, rfl⟩) | (go_at_call 13; (with_reducible show Calls _ _ #[.agg #[.int .i64 qx, _]] _ _); refine Calls.mono (gw_at (c2 _)) ?_; rintro e w1 ⟨rfl, q2, rfl⟩) | (go_at_call 7; refine Calls.mono (gw_at (e0 _)) ?_; rintro e w1 ⟨rfl, q, rfl⟩))
    go_ret
    exact ⟨rfl, bBel⟩
  cases D3
  focus
    clear hn1 hn2 hn3 hsm
    go_enter Try.func5, Try.ntmps5
    go_wp2_with (first | (go_at_call 6; refine Calls.mono (gw_at (cW _)) ?_; rintro e w1 ⟨rfl, q, rfl⟩) | (go_at_call 13; (with_reducible show Calls _ _ #[.agg #[.int .i64 px, _]] _ _); refine Calls.mono (gw_at (c1 _)) ?_; rintro e w1 ⟨rfl, q1, rfl⟩) | (go_at_call 13; (with_reducible show Calls _ _ #[.agg #[.int .i64 qx, _]] _ _); refine Calls.mono (gw_at (c2 _)) ?_; rintro e w1 ⟨rfl, q2, rfl⟩) | (go_at_call 13; (with_reducible show Calls _ _ #[.agg #[.int .i64 dx, _]] _ _); refine Calls.mono (gw_at (c3 _)) ?_; rintro e w1 ⟨rfl, q3, rfl⟩) | (go_at_call 7; refine Calls.mono (gw_at (e0 _)) ?_; rintro e w1 ⟨rfl, q, rfl⟩))
    go_ret
    exact ⟨rfl, bBel⟩
  obtain ⟨m1, m2⟩ := hn1 rfl
  obtain ⟨m3, m4⟩ := hn2 rfl
  obtain ⟨m5, m6⟩ := hn3 rfl
  have hf := hsm rfl
  have cS := fun w' h h' => ysep17_b K R K2 R2 A B_ cap cap2 ps qs px py pa qx qy qa (by omega) (by omega) hl hm w' h h'
  have cT := fun w' h h' => ysep17_b K R K2 R2 A B_ cap cap2 ps qs (px + dx) (py + dy) pa (qx + dx) (qy + dy) qa (by omega) (by omega) hl hm w' h h'
  rw [sepS_mv K R ps px py pa K2 R2 qs qx qy qa m1 m2 m3 m4 m5 m6] at cT
  generalize sepS K R ps px py pa K2 R2 qs qx qy qa = S at *
  have wr : ∀ a b : Int, nr a → nr b → IntKind.i64.wrap (a + b) = a + b := fun a b h1 h2 => by
    unfold nr at h1 h2; rw [IntWalk.i64_left, IntWalk.wrap64_in _ (by omega)]
  have w1 := wr px dx m1 m5
  have w2 := wr py dy m2 m6
  have w3 := wr qx dx m3 m5
  have w4 := wr qy dy m4 m6
  obtain ⟨x1, hx1⟩ : ∃ x, px + dx = x := ⟨_, rfl⟩
  obtain ⟨y1, hy1⟩ : ∃ x, py + dy = x := ⟨_, rfl⟩
  obtain ⟨x2, hx2⟩ : ∃ x, qx + dx = x := ⟨_, rfl⟩
  obtain ⟨y2, hy2⟩ : ∃ x, qy + dy = x := ⟨_, rfl⟩
  rw [hx1, hy1, hx2, hy2] at cT
  replace w1 := w1.trans hx1
  replace w2 := w2.trans hy1
  replace w3 := w3.trans hx2
  replace w4 := w4.trans hy2
  clear hx1 hy1 hx2 hy2 wr m1 m2 m3 m4 m5 m6 hn1 hn2 hn3 hsm hf
  go_enter Try.func5, Try.ntmps5
  go_upto_region 5 with (first | (go_at_call 6; refine Calls.mono (gw_at (cW _)) ?_; rintro e w1 ⟨rfl, q, rfl⟩) | (go_at_call 13; (with_reducible show Calls _ _ #[.agg #[.int .i64 px, _]] _ _); refine Calls.mono (gw_at (c1 _)) ?_; rintro e w1 ⟨rfl, q1, rfl⟩) | (go_at_call 13; (with_reducible show Calls _ _ #[.agg #[.int .i64 qx, _]] _ _); refine Calls.mono (gw_at (c2 _)) ?_; rintro e w1 ⟨rfl, q2, rfl⟩) | (go_at_call 13; (with_reducible show Calls _ _ #[.agg #[.int .i64 dx, _]] _ _); refine Calls.mono (gw_at (c3 _)) ?_; rintro e w1 ⟨rfl, q3, rfl⟩))
  refine wp_region_gw (by kernel_rfl) (by kernel_rfl) ?_
  repeat (go_big_quiet_step (first | (go_at_call 8; (with_reducible show Calls _ _ #[_, .agg #[.int .i64 x1, _, _], _, _] _ _); exact gw_call (cT _ (Pts.to hp bBel) (Pts.to hq bBel))) | (go_at_call 8; (with_reducible show Calls _ _ #[_, .agg #[.int .i64 px, _, _], _, _] _ _); exact gw_call (cS _ (Pts.to hp bBel) (Pts.to hq bBel))) | (go_at_call 7; exact gw_call (e0 _))))
  refine wpQuiet_nil ?_
  intro w9 hw9
  obtain ⟨q9, rfl⟩ := hw9
  go_wp2_with fail
  go_ret
  exact ⟨rfl, bBel⟩

end Go.Proofs.Ytennbncbahpflaa
