/- Laws of chapter 18: RaycastFromInside, RaycastZeroLength. -/
import Derived.Test.YtpdhfhcfjdnlpaaRx
set_option linter.unusedVariables false
namespace Go.Proofs.Ytpdhfhcfjdnlpaa
open Go.RowKit Fx

set_option maxRecDepth 100000 in
set_option maxHeartbeats 16000000 in
theorem walk_RaycastFromInside (K R : Int) (A : Option Addr) (cap : Nat) (ps : List (Int × Int)) (px py pa fx fy gx gy : Int) (w : World) (hp : Pts w A ps) (hl : ps.length ≤ cap) (hc : cap ≤ maxLen) : Calls Try.prog 5 #[.agg #[.int .i64 K, .int .i64 R, .slice A ps.length cap], .agg #[.int .i64 px, .int .i64 py, .int .i64 pa], .agg #[.int .i64 fx, .int .i64 fy, .int .i64 gx, .int .i64 gy]] w fun e w' => e = .returned (.bool true) ∧ Below w.heap.size w w' := by
  have e0 := example18_b
  by_cases n0 : 20 < (ps.length : Int)
  focus
    go_enter Try.func5, Try.ntmps5
    go_wp2_with (go_at_call 9; refine Calls.mono (gw_at (e0 _)) ?_; rintro e w1 ⟨rfl, q, rfl⟩)
    go_ret
    exact ⟨rfl, bBel⟩
  obtain ⟨H, hH⟩ : ∃ H, castS K R ps px py pa fx fy gx gy = H := ⟨_, rfl⟩
  have hok := castS_ok K R ps px py pa fx fy gx gy
  have hin := @castS_in K R ps px py pa fx fy gx gy
  have hval := @castS_val K R ps px py pa fx fy gx gy
  rw [hH] at hok hin hval
  obtain ⟨t, x, y, b⟩ := H
  have c1 := fun w' h => ycast_b K R A cap ps px py pa fx fy gx gy t x y b (by omega) hl hH w' h
  have cC := fun w' h => ycon_b K R A cap ps px py pa fx fy (by omega) w' h hl
  have cV := fun w' h => yval_b K R A cap ps (by omega) w' h hl
  clear hH
  generalize conS K R ps px py pa fx fy = C at *
  generalize valS K R ps = V at *
  cases C
  · cases b
    · have e := hok.2 rfl
      injection e with e1 e2 e3
      subst e1; subst e2; subst e3
      clear hok hin hval
      go_enter Try.func5, Try.ntmps5
      go_wp2_with (first | (go_at_call 12; refine Calls.mono (gw_at (c1 _ (Pts.to hp bBel))) ?_; rintro e w1 ⟨rfl, q1, rfl⟩) | (go_at_call 13; refine Calls.mono (gw_at (cC _ (Pts.to hp bBel))) ?_; rintro e w1 ⟨rfl, q2, rfl⟩) | (go_at_call 9; refine Calls.mono (gw_at (e0 _)) ?_; rintro e w1 ⟨rfl, q, rfl⟩))
      go_ret
      exact ⟨rfl, bBel⟩
    · obtain ⟨h0, h1⟩ := hok.1 rfl
      obtain rfl : V = 0 := hval rfl
      dsimp only at h0 h1
      clear hok hin hval
      go_enter Try.func5, Try.ntmps5
      go_wp2_with (first | (go_at_call 12; refine Calls.mono (gw_at (c1 _ (Pts.to hp bBel))) ?_; rintro e w1 ⟨rfl, q1, rfl⟩) | (go_at_call 13; refine Calls.mono (gw_at (cC _ (Pts.to hp bBel))) ?_; rintro e w1 ⟨rfl, q2, rfl⟩) | (go_at_call 14; refine Calls.mono (gw_at (cV _ (Pts.to hp bBel))) ?_; rintro e w1 ⟨rfl, q3, rfl⟩) | (go_at_call 9; refine Calls.mono (gw_at (e0 _)) ?_; rintro e w1 ⟨rfl, q, rfl⟩))
      go_ret
      exact ⟨rfl, bBel⟩
  · have e := hin rfl
    injection e with e1 e2 e3 e4
    subst e1; subst e2; subst e3; subst e4
    clear hok hin hval
    go_enter Try.func5, Try.ntmps5
    go_wp2_with (first | (go_at_call 12; refine Calls.mono (gw_at (c1 _ (Pts.to hp bBel))) ?_; rintro e w1 ⟨rfl, q1, rfl⟩) | (go_at_call 13; refine Calls.mono (gw_at (cC _ (Pts.to hp bBel))) ?_; rintro e w1 ⟨rfl, q2, rfl⟩) | (go_at_call 9; refine Calls.mono (gw_at (e0 _)) ?_; rintro e w1 ⟨rfl, q, rfl⟩))
    go_ret
    exact ⟨rfl, bBel⟩

set_option maxRecDepth 100000 in
set_option maxHeartbeats 16000000 in
theorem walk_RaycastZeroLength (K R : Int) (A : Option Addr) (cap : Nat) (ps : List (Int × Int)) (px py pa x y : Int) (w : World) (hp : Pts w A ps) (hl : ps.length ≤ cap) (hc : cap ≤ maxLen) : Calls Try.prog 6 #[.agg #[.int .i64 K, .int .i64 R, .slice A ps.length cap], .agg #[.int .i64 px, .int .i64 py, .int .i64 pa], .agg #[.int .i64 x, .int .i64 y]] w fun e w' => e = .returned (.bool true) ∧ Below w.heap.size w w' := by
  have e0 := example18_b
  by_cases n0 : 20 < (ps.length : Int)
  focus
    go_enter Try.func6, Try.ntmps6
    go_wp2_with (go_at_call 9; refine Calls.mono (gw_at (e0 _)) ?_; rintro e w1 ⟨rfl, q, rfl⟩)
    go_ret
    exact ⟨rfl, bBel⟩
  have c1 := fun w' h => ycast_b K R A cap ps px py pa x y x y 0 0 0 (conS K R ps px py pa x y) (by omega) hl (castS_pt K R ps px py pa x y) w' h
  have cC := fun w' h => ycon_b K R A cap ps px py pa x y (by omega) w' h hl
  generalize conS K R ps px py pa x y = C at *
  cases C
  · have e1 := e0
    go_enter Try.func6, Try.ntmps6
    go_wp2_with (first | (go_at_call 12; refine Calls.mono (gw_at (c1 _ (Pts.to hp bBel))) ?_; rintro e w1 ⟨rfl, q1, rfl⟩) | (go_at_call 13; refine Calls.mono (gw_at (cC _ (Pts.to hp bBel))) ?_; rintro e w1 ⟨rfl, q2, rfl⟩) | (go_at_call 9; refine Calls.mono (gw_at (e0 _)) ?_; rintro e w1 ⟨rfl, q, rfl⟩))
    go_ret
    exact ⟨rfl, bBel⟩
  · have e1 := e0
    go_enter Try.func6, Try.ntmps6
    go_wp2_with (first | (go_at_call 12; refine Calls.mono (gw_at (c1 _ (Pts.to hp bBel))) ?_; rintro e w1 ⟨rfl, q1, rfl⟩) | (go_at_call 13; refine Calls.mono (gw_at (cC _ (Pts.to hp bBel))) ?_; rintro e w1 ⟨rfl, q2, rfl⟩) | (go_at_call 9; refine Calls.mono (gw_at (e0 _)) ?_; rintro e w1 ⟨rfl, q, rfl⟩))
    go_ret
    exact ⟨rfl, bBel⟩

end Go.Proofs.Ytpdhfhcfjdnlpaa
