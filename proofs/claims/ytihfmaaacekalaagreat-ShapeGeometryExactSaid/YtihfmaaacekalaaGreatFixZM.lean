/- Laws of chapter 12: ShapeGeometryExact, ShapeBounds, ShapeSupportInBounds. -/
import Derived.Test.YtihfmaaacekalaaGreatFixZL
import Derived.Test.YtihfmaaacekalaaGreatCo4
set_option linter.unusedVariables false
namespace Go.Proofs.YtihfmaaacekalaaGreat
open Go.RowKit Fx

set_option maxHeartbeats 8000000 in
theorem walk_ShapeGeometryExact (K R : Int) (A : Option Addr) (cap : Nat) (ps : List (Int × Int)) (px py a dx dy : Int) (w : World) (hp : Pts w A ps) (hl : ps.length ≤ cap) (hc : cap ≤ maxLen) : Calls Tryz.prog 3 #[.agg #[.int .i64 K, .int .i64 R, .slice A ps.length cap], .agg #[.int .i64 px, .int .i64 py, .int .i64 a], .agg #[.int .i64 dx, .int .i64 dy]] w fun e w' => e = .returned (.bool true) ∧ Below w.heap.size w w' := by
  have e0 := example12_b
  have cF := fun (w' : World) => rfew_b K R A ps.length cap w'
  by_cases n1 : (ps.length : Int) ≤ 20
  rotate_left
  · rw [decide_eq_false n1] at cF
    clear n1
    go_enter Tryz.func3, Tryz.ntmps3
    go_wp2_with (first | (go_at_call 5; refine Calls.mono (gw_at (cF _)) ?_; rintro e w1 ⟨rfl, q, rfl⟩) | (go_at_call 6; refine Calls.mono (gw_at (e0 _)) ?_; rintro e w1 ⟨rfl, q, rfl⟩))
    go_ret
    exact ⟨rfl, (by repeat (first | with_reducible exact Below.refl _ _ | with_reducible assumption | refine bgw ?_ (by first | (simp; done) | (simp; omega) | omega) _ | refine Below.setCell ?_ (by first | exact Nat.le_of_not_lt (by assumption) | (simp; done) | (simp; omega) | omega) _ | refine Below.alloc ?_ (by first | (simp; done) | (simp; omega) | omega) _ | refine Below.drew ?_))⟩
  rw [decide_eq_true n1] at cF
  have cV := fun w' h => yvert_b K R A cap ps px py a (by omega) w' h
  have cW := fun w' h => rvert_b K R A cap ps px py a (by omega) w' h
  have cB := fun w' h => ybnd_b K R A cap ps px py a (by omega) w' h
  have cC := fun w' h => rbnd_b K R A cap ps px py a (by omega) w' h
  have cS := fun w' h => ysup_b K R A cap ps px py a dx dy (by omega) w' h
  have cT := fun w' h => rsupS_b K R A cap ps px py a dx dy (by omega) w' h
  have cR := fun w' h => ybr_b K R A cap ps (by omega) w' h
  have cU := fun w' h => rbr_b K R A cap ps (by omega) w' h
  have hL : (core K R ps px py a).length ≤ 4611686018427387904 := by unfold core; split <;> simp; omega
  have cE : ∀ A1 c1 A2 c2 w', Pts w' A1 (core K R ps px py a) → Pts w' A2 (core K R ps px py a) → Calls Tryz.prog 7 #[.slice A1 (core K R ps px py a).length c1, .slice A2 (core K R ps px py a).length c2] w' fun e w'' => e = .returned (.bool true) ∧ Below w'.heap.size w' w'' := fun A1 c1 A2 c2 w' h1 h2 => by
    have := reqv_b A1 A2 c1 c2 _ _ hL hL w' h1 h2; rw [decide_eq_true rfl] at this; exact this
  clear n1 hL
  generalize core K R ps px py a = L at *
  generalize (bndS K R ps px py a).x0 = x0 at *
  generalize (bndS K R ps px py a).y0 = y0 at *
  generalize (bndS K R ps px py a).x1 = x1 at *
  generalize (bndS K R ps px py a).y1 = y1 at *
  generalize (supS K R ps px py a dx dy).1 = sx at *
  generalize (supS K R ps px py a dx dy).2 = sy at *
  generalize bradS K R ps = F at *
  go_enter Tryz.func3, Tryz.ntmps3
  go_upto_region 3 with (go_at_call 5; refine Calls.mono (gw_at (cF _)) ?_; rintro e w1 ⟨rfl, q, rfl⟩)
  refine wp_mix 38 [0, 0, 3, 0, 0, 31, 63, 127, 255, 255, 1023, 255, 255, 8191, 16383, 32767, 65535, 131071, 131071, 131071, 1048575, 131071, 131071, 131071, 16777215, 33554431, 67108863, 134217727, 268435455, 536870911, 268435455, 2147483647, 4294967295, 8589934591, 17179869183, 34359738367, 68719476735, 137438953471] [8, 9, 17, 18, 19, 28] [0, 1, 2, 3, 4, 5, 6, 7, 8, 9, 10, 11, 12, 13, 14, 15, 16, 17, 18, 19, 20, 21, 22, 23, 24, 25, 26, 27, 28, 29, 30, 31, 32, 33, 34, 35, 36, 37] (by kernel_rfl) (by kernel_rfl) ?_
  repeat (first | (refine mix_skip (by rfl) (by rfl) (by rfl) (by rfl) ?_) | (refine mix_early (by rfl) (by rfl) (by rfl) ?_; go_big_quiet_step (fail); with_reducible refine wpQuiet_nil ?_) | (refine mix_late (by rfl) (by rfl) (by rfl) ?_; go_big_quiet_step (fail); with_reducible refine wpQuiet_nil ?_) | (refine mix_call (by rfl) (by rfl) (by rfl) ?_; intro pM Qs hQs; go_wp2_with (first | (go_at_call 8; refine Calls.mono (cV _ (Pts.to hp (by repeat (first | with_reducible exact Below.refl _ _ | with_reducible assumption | refine bgw ?_ (by first | (simp; done) | (simp; omega) | omega) _ | refine Below.setCell ?_ (by first | exact Nat.le_of_not_lt (by assumption) | (simp; done) | (simp; omega) | omega) _ | refine Below.alloc ?_ (by first | (simp; done) | (simp; omega) | omega) _ | refine Below.drew ?_)))) ?_; rintro e w1 ⟨⟨A1, cap1, rfl, h11, h12, h13⟩, hb1⟩; obtain ⟨q1, rfl⟩ := gw_of_below hb1; clear hb1) | (go_at_call 9; refine Calls.mono (cW _ (Pts.to hp (by repeat (first | with_reducible exact Below.refl _ _ | with_reducible assumption | refine bgw ?_ (by first | (simp; done) | (simp; omega) | omega) _ | refine Below.setCell ?_ (by first | exact Nat.le_of_not_lt (by assumption) | (simp; done) | (simp; omega) | omega) _ | refine Below.alloc ?_ (by first | (simp; done) | (simp; omega) | omega) _ | refine Below.drew ?_)))) ?_; rintro e w1 ⟨⟨A2, cap2, rfl, h21, h22, h23⟩, hb2⟩; obtain ⟨q2, rfl⟩ := gw_of_below hb2; clear hb2) | (go_at_call 7; refine Calls.mono (gw_at (cE _ _ _ _ _ (Pts.to h13 (by repeat (first | with_reducible exact Below.refl _ _ | with_reducible assumption | refine bgw ?_ (by first | (simp; done) | (simp; omega) | omega) _ | refine Below.setCell ?_ (by first | exact Nat.le_of_not_lt (by assumption) | (simp; done) | (simp; omega) | omega) _ | refine Below.alloc ?_ (by first | (simp; done) | (simp; omega) | omega) _ | refine Below.drew ?_))) (Pts.to h23 (by repeat (first | with_reducible exact Below.refl _ _ | with_reducible assumption | refine bgw ?_ (by first | (simp; done) | (simp; omega) | omega) _ | refine Below.setCell ?_ (by first | exact Nat.le_of_not_lt (by assumption) | (simp; done) | (simp; omega) | omega) _ | refine Below.alloc ?_ (by first | (simp; done) | (simp; omega) | omega) _ | refine Below.drew ?_))))) ?_; rintro e w1 ⟨rfl, q3, rfl⟩) | (go_at_call 10; refine Calls.mono (gw_at (cB _ (Pts.to hp (by repeat (first | with_reducible exact Below.refl _ _ | with_reducible assumption | refine bgw ?_ (by first | (simp; done) | (simp; omega) | omega) _ | refine Below.setCell ?_ (by first | exact Nat.le_of_not_lt (by assumption) | (simp; done) | (simp; omega) | omega) _ | refine Below.alloc ?_ (by first | (simp; done) | (simp; omega) | omega) _ | refine Below.drew ?_))))) ?_; rintro e w1 ⟨rfl, q4, rfl⟩) | (go_at_call 11; refine Calls.mono (gw_at (cC _ (Pts.to hp (by repeat (first | with_reducible exact Below.refl _ _ | with_reducible assumption | refine bgw ?_ (by first | (simp; done) | (simp; omega) | omega) _ | refine Below.setCell ?_ (by first | exact Nat.le_of_not_lt (by assumption) | (simp; done) | (simp; omega) | omega) _ | refine Below.alloc ?_ (by first | (simp; done) | (simp; omega) | omega) _ | refine Below.drew ?_))))) ?_; rintro e w1 ⟨rfl, q5, rfl⟩) | (go_at_call 12; refine Calls.mono (gw_at (cS _ (Pts.to hp (by repeat (first | with_reducible exact Below.refl _ _ | with_reducible assumption | refine bgw ?_ (by first | (simp; done) | (simp; omega) | omega) _ | refine Below.setCell ?_ (by first | exact Nat.le_of_not_lt (by assumption) | (simp; done) | (simp; omega) | omega) _ | refine Below.alloc ?_ (by first | (simp; done) | (simp; omega) | omega) _ | refine Below.drew ?_))))) ?_; rintro e w1 ⟨rfl, q6, rfl⟩) | (go_at_call 13; refine Calls.mono (gw_at (cT _ (Pts.to hp (by repeat (first | with_reducible exact Below.refl _ _ | with_reducible assumption | refine bgw ?_ (by first | (simp; done) | (simp; omega) | omega) _ | refine Below.setCell ?_ (by first | exact Nat.le_of_not_lt (by assumption) | (simp; done) | (simp; omega) | omega) _ | refine Below.alloc ?_ (by first | (simp; done) | (simp; omega) | omega) _ | refine Below.drew ?_))))) ?_; rintro e w1 ⟨rfl, q7, rfl⟩) | (go_at_call 14; refine Calls.mono (gw_at (cR _ (Pts.to hp (by repeat (first | with_reducible exact Below.refl _ _ | with_reducible assumption | refine bgw ?_ (by first | (simp; done) | (simp; omega) | omega) _ | refine Below.setCell ?_ (by first | exact Nat.le_of_not_lt (by assumption) | (simp; done) | (simp; omega) | omega) _ | refine Below.alloc ?_ (by first | (simp; done) | (simp; omega) | omega) _ | refine Below.drew ?_))))) ?_; rintro e w1 ⟨rfl, q8, rfl⟩) | (go_at_call 15; refine Calls.mono (gw_at (cU _ (Pts.to hp (by repeat (first | with_reducible exact Below.refl _ _ | with_reducible assumption | refine bgw ?_ (by first | (simp; done) | (simp; omega) | omega) _ | refine Below.setCell ?_ (by first | exact Nat.le_of_not_lt (by assumption) | (simp; done) | (simp; omega) | omega) _ | refine Below.alloc ?_ (by first | (simp; done) | (simp; omega) | omega) _ | refine Below.drew ?_))))) ?_; rintro e w1 ⟨rfl, q9, rfl⟩) | (go_at_call 6; refine Calls.mono (gw_at (e0 _)) ?_; rintro e w1 ⟨rfl, q10, rfl⟩)); refine hQs _ _ (by repeat (first | with_reducible exact Below.refl _ _ | with_reducible assumption | refine bgw ?_ (by first | (simp; done) | (simp; omega) | omega) _ | refine Below.setCell ?_ (by first | exact Nat.le_of_not_lt (by assumption) | (simp; done) | (simp; omega) | omega) _ | refine Below.alloc ?_ (by first | (simp; done) | (simp; omega) | omega) _ | refine Below.drew ?_)) ?_))
  refine mix_end ?_
  intro pE
  simp only [List.drop_succ_cons, List.drop_zero]
  go_wp2_with fail
  go_ret
  exact ⟨rfl, (by repeat (first | with_reducible exact Below.refl _ _ | with_reducible assumption | refine bgw ?_ (by first | (simp; done) | (simp; omega) | omega) _ | refine Below.setCell ?_ (by first | exact Nat.le_of_not_lt (by assumption) | (simp; done) | (simp; omega) | omega) _ | refine Below.alloc ?_ (by first | (simp; done) | (simp; omega) | omega) _ | refine Below.drew ?_))⟩

theorem has_ok {b : Bx} (h : b.val = true) : ∃ x0 y0 x1 y1, b = ⟨x0, y0, x1, y1⟩ ∧ val4 x0 y0 x1 y1 = true := ⟨b.x0, b.y0, b.x1, b.y1, rfl, h⟩

end Go.Proofs.YtihfmaaacekalaaGreat
