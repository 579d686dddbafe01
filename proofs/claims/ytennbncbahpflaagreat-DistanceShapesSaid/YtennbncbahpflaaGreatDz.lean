/- Laws of chapter 17: DistanceShapes, DistanceOwnPoints. -/
import Derived.Test.YtennbncbahpflaaGreatDl
import Derived.Test.YtennbncbahpflaaGreatDt
set_option linter.unusedVariables false
namespace Go.Proofs.YtennbncbahpflaaGreat
open Go.RowKit Fx

set_option maxRecDepth 100000 in
set_option maxHeartbeats 16000000 in
theorem walk_DistanceShapes (K R : Int) (A : Option Addr) (cap : Nat) (ps : List (Int × Int)) (px py pa : Int) (K2 R2 : Int) (B_ : Option Addr) (cap2 : Nat) (qs : List (Int × Int)) (qx qy qa x y : Int) (w : World) (hp : Pts w A ps) (hl : ps.length ≤ cap) (hc : cap ≤ maxLen) (hq : Pts w B_ qs) (hm : qs.length ≤ cap2) (hc2 : cap2 ≤ maxLen) : Calls Tryz.prog 3 #[.agg #[.int .i64 K, .int .i64 R, .slice A ps.length cap], .agg #[.int .i64 px, .int .i64 py, .int .i64 pa], .agg #[.int .i64 K2, .int .i64 R2, .slice B_ qs.length cap2], .agg #[.int .i64 qx, .int .i64 qy, .int .i64 qa], .agg #[.int .i64 x, .int .i64 y]] w fun e w' => e = .returned (.bool true) ∧ Below w.heap.size w w' := by
  have e0 := example17_b
  have cW := fun w' => small17_b K R K2 R2 A B_ cap cap2 ps qs w'
  by_cases hf : ps.length ≤ 20 ∧ qs.length ≤ 20
  rotate_left
  focus
    rw [decide_eq_false hf] at cW
    go_enter Tryz.func3, Tryz.ntmps3
    go_wp2_with (first | (go_at_call 5; refine Calls.mono (gw_at (cW _)) ?_; rintro e w1 ⟨rfl, q, rfl⟩) | (go_at_call 6; refine Calls.mono (gw_at (e0 _)) ?_; rintro e w1 ⟨rfl, q, rfl⟩))
    go_ret
    exact ⟨rfl, bBel⟩
  rw [decide_eq_true hf] at cW
  have c1 := fun w' h h' => ysep17_b K R K2 R2 A B_ cap cap2 ps qs px py pa qx qy qa (by omega) (by omega) hl hm w' h h'
  have c2 := fun w' h h' => rsep17_b K R K2 R2 A B_ cap cap2 ps qs px py pa qx qy qa (by omega) (by omega) w' h h'
  have c3 := fun w' h h' => yovl17_b K R K2 R2 A B_ cap cap2 ps qs px py pa qx qy qa (by omega) (by omega) hl hm w' h h'
  have c4 := fun w' h h' => rovl17_b K R K2 R2 A B_ cap cap2 ps qs px py pa qx qy qa (by omega) (by omega) w' h h'
  have c5 := fun w' h => ypt17_b K R A cap ps px py pa x y (by omega) hl w' h
  have c6 := fun w' h => rpt17_b K R A cap ps px py pa x y (by omega) w' h
  generalize sepS K R ps px py pa K2 R2 qs qx qy qa = S at *
  generalize ptS K R ps px py pa x y = P at *
  generalize decide (S = 0) = D at *
  clear hf
  go_enter Tryz.func3, Tryz.ntmps3
  go_upto_region 3 with (go_at_call 5; refine Calls.mono (gw_at (cW _)) ?_; rintro e w1 ⟨rfl, q, rfl⟩)
  refine wp_region_gw (by kernel_rfl) (by kernel_rfl) ?_
  repeat (go_big_quiet_step (first | (go_at_call 7; exact gw_call (c1 _ (Pts.to hp bBel) (Pts.to hq bBel))) | (go_at_call 8; exact gw_call (c2 _ (Pts.to hp bBel) (Pts.to hq bBel))) | (go_at_call 9; exact gw_call (c3 _ (Pts.to hp bBel) (Pts.to hq bBel))) | (go_at_call 10; exact gw_call (c4 _ (Pts.to hp bBel) (Pts.to hq bBel))) | (go_at_call 11; exact gw_call (c5 _ (Pts.to hp bBel))) | (go_at_call 12; exact gw_call (c6 _ (Pts.to hp bBel))) | (go_at_call 6; exact gw_call (e0 _))))
  refine wpQuiet_nil ?_
  intro w9 hw9
  obtain ⟨q9, rfl⟩ := hw9
  go_wp2_with fail
  go_ret
  exact ⟨rfl, bBel⟩

set_option maxRecDepth 100000 in
set_option maxHeartbeats 16000000 in
theorem walk_DistanceOwnPoints (K R : Int) (A : Option Addr) (cap : Nat) (ps : List (Int × Int)) (px py pa x y : Int) (w : World) (hp : Pts w A ps) (hl : ps.length ≤ cap) (hc : cap ≤ maxLen) : Calls Tryz.prog 4 #[.agg #[.int .i64 K, .int .i64 R, .slice A ps.length cap], .agg #[.int .i64 px, .int .i64 py, .int .i64 pa], .agg #[.int .i64 x, .int .i64 y]] w fun e w' => e = .returned (.bool true) ∧ Below w.heap.size w w' := by
  have e0 := example17_b
  by_cases n0 : 20 < (ps.length : Int)
  focus
    go_enter Tryz.func4, Tryz.ntmps4
    go_wp2_with (go_at_call 6; refine Calls.mono (gw_at (e0 _)) ?_; rintro e w1 ⟨rfl, q, rfl⟩)
    go_ret
    exact ⟨rfl, bBel⟩
  have cV := fun w' h => rval_b K R A cap ps (by omega) w' h
  have cP := fun x y w' h => ypt17_b K R A cap ps px py pa x y (by omega) hl w' h
  by_cases hv : valS K R ps = 0
  rotate_left
  focus
    have b1 : (valS K R ps != 0) = true := by rw [bne_iff_ne]; exact hv
    have cP1 := cP x y
    rw [pt_val _ _ _ _ _ hv] at cP1
    generalize valS K R ps = V at *
    clear hv cP
    go_enter Tryz.func4, Tryz.ntmps4
    go_wp2_with (first | (go_at_call 13; refine Calls.mono (gw_at (cV _ (Pts.to hp bBel))) ?_; rintro e w1 ⟨rfl, q, rfl⟩) | (go_at_call 11; refine Calls.mono (gw_at (cP1 _ (Pts.to hp bBel))) ?_; rintro e w1 ⟨rfl, q1, rfl⟩) | (go_at_call 6; refine Calls.mono (gw_at (e0 _)) ?_; rintro e w1 ⟨rfl, q2, rfl⟩))
    go_ret
    exact ⟨rfl, bBel⟩
  rw [hv] at cV
  have cX := fun w' h => hull_ex2 (rvert_b K R A cap ps px py pa (by omega) w' h)
  have cC := fun w' h => rcon_b K R A cap ps px py pa x y (by omega) w' h
  have cS := fun w' h h' => ysep17_b K R K R A A cap cap ps ps px py pa px py pa (by omega) (by omega) hl hl w' h h'
  rw [sep_self hv] at cS
  have cP1 := cP x y
  have hz := @pt_zero K R ps px py pa x y hv
  have hnn := pt_nn K R ps px py pa x y
  obtain ⟨e1, -, h8⟩ := core_hp (px := px) (py := py) (a := pa) hv
  have cQ : ∀ i, i < (core K R ps px py pa).length → ∀ w', Pts w' A ps → Calls Tryz.prog 11 #[.agg #[.int .i64 K, .int .i64 R, .slice A ps.length cap], .agg #[.int .i64 px, .int .i64 py, .int .i64 pa], .agg #[.int .i64 (hp' (core K R ps px py pa) i).1, .int .i64 (hp' (core K R ps px py pa) i).2]] w' fun e w'' => e = .returned (.int .i64 0) ∧ Below w'.heap.size w' w'' := fun i hi w' h => by
    have := cP (hp' (core K R ps px py pa) i).1 (hp' (core K R ps px py pa) i).2 w' h
    rw [e1] at this hi ⊢
    rw [List.length_map] at hi
    rw [pt_core hv hi] at this
    exact this
  clear cP e1 hv
  generalize core K R ps px py pa = L at *
  generalize conS K R ps px py pa x y = C at *
  generalize ptS K R ps px py pa x y = P at *
  go_enter Tryz.func4, Tryz.ntmps4
  go_upto_region 6 with (first | (go_at_call 13; refine Calls.mono (gw_at (cV _ (Pts.to hp bBel))) ?_; rintro e w1 ⟨rfl, q, rfl⟩) | (go_at_call 14; refine Calls.mono (cX _ (Pts.to hp bBel)) ?_; rintro e w1 ⟨⟨A1, c1, rfl, hle, hP1⟩, q1, rfl⟩))
  refine wp_named ?_
  intro W hW
  have kA : blk W w.heap.size #[.int .i64 K, .int .i64 R, .slice A ps.length cap] 25 := by rw [hW]; exact bBkn
  have kT : blk W (w.heap.size + 1) #[.int .i64 px, .int .i64 py, .int .i64 pa] 29 := by rw [hW]; exact bBkn
  have kV : blk W (w.heap.size + 2) #[.int .i64 x, .int .i64 y] 27 := by rw [hW]; exact bBkn
  have hbW : Below w.heap.size w W := by rw [hW]; exact bBel
  have hP : Pts W A1 L := by rw [hW]; exact Pts.to hP1 bBel
  clear hW hP1 cV cX hle
  have hszW := hbW.size
  go_wp2_with fail
  go_loopw [8] (fun i wr => ∃ k : Nat, k ≤ L.length ∧ i = .int .i64 (k : Int) ∧ Below W.heap.size W wr)
    (fun i _ => (L.length - intOf i).toNat)
  case atStart => exact ⟨0, by omega, rfl, by first | exact Below.refl _ _ | exact bBel⟩
  case round =>
    obtain ⟨k, hk, rfl, hbR⟩ := hrel
    have hszR := hbR.size
    have hbWR : Below w.heap.size w wr := Below.trans hbW (hbR.mono hszW)
    have hszWR := hbWR.size
    have kA1 := blk_to kA hbR
    have kT1 := blk_to kT hbR
    have kV1 := blk_to kV hbR
    have okA1 := blk_older kA1
    have ckA1_0 : _ = some _ := blk_cell kA1 0
    have ckA1_1 : _ = some _ := blk_cell kA1 1
    have ckA1_2 : _ = some _ := blk_cell kA1 2
    have fkA1_0 := blk_free kA1 0
    have fkA1_1 := blk_free kA1 1
    have fkA1_2 := blk_free kA1 2
    have okT1 := blk_older kT1
    have ckT1_0 : _ = some _ := blk_cell kT1 0
    have ckT1_1 : _ = some _ := blk_cell kT1 1
    have ckT1_2 : _ = some _ := blk_cell kT1 2
    have fkT1_0 := blk_free kT1 0
    have fkT1_1 := blk_free kT1 1
    have fkT1_2 := blk_free kT1 2
    have hpR := Pts.to hp hbWR
    by_cases hlt : k < L.length
    · have i0 : (0 : Int) ≤ (k : Int) := by omega
      have i1 : (k : Int) < (L.length : Int) := by omega
      obtain ⟨b2, off2, hA2, hc2⟩ := pts_open0 (Pts.to hP hbR) (by omega)
      subst hA2
      obtain ⟨d0, d1⟩ := hc2 k hlt
      have ob := older_of_cell d0
      have cQ1 := cQ k hlt
      rw [hp_get hlt] at cQ1
      clear hc2
      generalize L[k].1 = u at *
      generalize L[k].2 = v at *
      go_wp2_with fail
      refine wp_region_gw (by kernel_rfl) (by kernel_rfl) ?_
      repeat (go_big_quiet_step ((go_at_call 11; exact gw_call (cQ1 _ (Pts.to hpR bBel)))))
      refine wpQuiet_nil ?_
      intro w9 hw9
      obtain ⟨q9, rfl⟩ := hw9
      go_wp2_with fail
      exact ⟨⟨k + 1, by omega, by go_num, Below.trans hbR (Below.mono bBel hszR)⟩, by (try go_num); simp [intOf]; (try omega)⟩
    · obtain rfl : k = L.length := by omega
      have i1 : ¬ (L.length : Int) < (L.length : Int) := by omega
      have okV1 := blk_older kV1
      have ckV1_0 : _ = some _ := blk_cell kV1 0
      have ckV1_1 : _ = some _ := blk_cell kV1 1
      have fkV1_0 := blk_free kV1 0
      have fkV1_1 := blk_free kV1 1
      clear cQ
      cases C
      · clear hz
        go_wp2_with (first | (go_at_call 11; refine Calls.mono (gw_at (cP1 _ (Pts.to hpR bBel))) ?_; rintro e w1 ⟨rfl, q1, rfl⟩) | (go_at_call 15; refine Calls.mono (gw_at (cC _ (Pts.to hpR bBel))) ?_; rintro e w1 ⟨rfl, q2, rfl⟩) | (go_at_call 7; refine Calls.mono (gw_at (cS _ (Pts.to hpR bBel) (Pts.to hpR bBel))) ?_; rintro e w1 ⟨rfl, q3, rfl⟩) | (go_at_call 6; refine Calls.mono (gw_at (e0 _)) ?_; rintro e w1 ⟨rfl, q4, rfl⟩))
        go_ret
        exact ⟨rfl, bBel⟩
      · obtain rfl : P = 0 := hz rfl
        clear hz hnn
        go_wp2_with (first | (go_at_call 11; refine Calls.mono (gw_at (cP1 _ (Pts.to hpR bBel))) ?_; rintro e w1 ⟨rfl, q1, rfl⟩) | (go_at_call 15; refine Calls.mono (gw_at (cC _ (Pts.to hpR bBel))) ?_; rintro e w1 ⟨rfl, q2, rfl⟩) | (go_at_call 7; refine Calls.mono (gw_at (cS _ (Pts.to hpR bBel) (Pts.to hpR bBel))) ?_; rintro e w1 ⟨rfl, q3, rfl⟩) | (go_at_call 6; refine Calls.mono (gw_at (e0 _)) ?_; rintro e w1 ⟨rfl, q4, rfl⟩))
        go_ret
        exact ⟨rfl, bBel⟩

end Go.Proofs.YtennbncbahpflaaGreat
