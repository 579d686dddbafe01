/- Laws of chapter 12: ShapeGeometryExact, ShapeBounds, ShapeSupportInBounds. -/
import Derived.Test.YtihfmaaacekalaaFixZL
import Derived.Test.YtihfmaaacekalaaCo4
set_option linter.unusedVariables false
namespace Go.Proofs.Ytihfmaaacekalaa
open Go.RowKit Fx

theorem has_ok {b : Bx} (h : b.val = true) : ∃ x0 y0 x1 y1, b = ⟨x0, y0, x1, y1⟩ ∧ val4 x0 y0 x1 y1 = true := ⟨b.x0, b.y0, b.x1, b.y1, rfl, h⟩

set_option maxHeartbeats 8000000 in
theorem walk_ShapeBounds (K R : Int) (A : Option Addr) (cap : Nat) (ps : List (Int × Int)) (px py a x y : Int) (w : World) (hp : Pts w A ps) (hl : ps.length ≤ cap) (hc : cap ≤ maxLen) : Calls Try.prog 4 #[.agg #[.int .i64 K, .int .i64 R, .slice A ps.length cap], .agg #[.int .i64 px, .int .i64 py, .int .i64 a], .agg #[.int .i64 x, .int .i64 y]] w fun e w' => e = .returned (.bool true) ∧ Below w.heap.size w w' := by
  have e0 := example12_b
  have cF := fun (w' : World) => rfew_b K R A ps.length cap w'
  have cT := fun (w' : World) => rtval_b px py a w'
  by_cases n1 : (ps.length : Int) ≤ 20
  rotate_left
  · rw [decide_eq_false n1] at cF
    clear n1
    go_enter Try.func4, Try.ntmps4
    go_wp2_with (first | (go_at_call 6; refine Calls.mono (gw_at (cF _)) ?_; rintro e w1 ⟨rfl, q, rfl⟩) | (go_at_call 7; refine Calls.mono (gw_at (e0 _)) ?_; rintro e w1 ⟨rfl, q, rfl⟩))
    go_ret
    exact ⟨rfl, (by repeat (first | with_reducible exact Below.refl _ _ | with_reducible assumption | refine bgw ?_ (by first | (simp; done) | (simp; omega) | omega) _ | refine Below.setCell ?_ (by first | exact Nat.le_of_not_lt (by assumption) | (simp; done) | (simp; omega) | omega) _ | refine Below.alloc ?_ (by first | (simp; done) | (simp; omega) | omega) _ | refine Below.drew ?_))⟩
  rw [decide_eq_true n1] at cF
  cases hv : tval px py a
  · rw [hv] at cT
    clear n1 hv
    go_enter Try.func4, Try.ntmps4
    go_wp2_with (first | (go_at_call 6; refine Calls.mono (gw_at (cF _)) ?_; rintro e w1 ⟨rfl, q, rfl⟩) | (go_at_call 13; refine Calls.mono (gw_at (cT _)) ?_; rintro e w1 ⟨rfl, q, rfl⟩) | (go_at_call 7; refine Calls.mono (gw_at (e0 _)) ?_; rintro e w1 ⟨rfl, q, rfl⟩))
    go_ret
    exact ⟨rfl, (by repeat (first | with_reducible exact Below.refl _ _ | with_reducible assumption | refine bgw ?_ (by first | (simp; done) | (simp; omega) | omega) _ | refine Below.setCell ?_ (by first | exact Nat.le_of_not_lt (by assumption) | (simp; done) | (simp; omega) | omega) _ | refine Below.alloc ?_ (by first | (simp; done) | (simp; omega) | omega) _ | refine Below.drew ?_))⟩
  rw [hv] at cT
  have cV := fun w' h => yval_b K R A cap ps (by omega) w' h
  have cC := fun w' h => ycon_b K R A cap ps px py a x y (by omega) w' h
  have cB := fun w' h => ybnd_b K R A cap ps px py a (by omega) w' h
  have cL := fun w' h => yvert_b K R A cap ps px py a (by omega) w' h
  by_cases hz : valS K R ps = 0
  rotate_left
  · have b1 : (valS K R ps != 0) = true := by rw [bne_iff_ne]; exact hz
    rw [show conS K R ps px py a x y = false from by unfold conS; rw [decide_eq_false hz]; rfl] at cC
    rw [show bndS K R ps px py a = Bx.zero from if_neg hz] at cB
    rw [core_no _ _ _ hz] at cL
    clear hz n1 hv
    generalize valS K R ps = V at *
    go_enter Try.func4, Try.ntmps4
    go_wp2_with (first | (go_at_call 6; refine Calls.mono (gw_at (cF _)) ?_; rintro e w1 ⟨rfl, q, rfl⟩) | (go_at_call 13; refine Calls.mono (gw_at (cT _)) ?_; rintro e w1 ⟨rfl, q, rfl⟩) | (go_at_call 9; refine Calls.mono (gw_at (cV _ (Pts.to hp (by repeat (first | with_reducible exact Below.refl _ _ | with_reducible assumption | refine bgw ?_ (by first | (simp; done) | (simp; omega) | omega) _ | refine Below.setCell ?_ (by first | exact Nat.le_of_not_lt (by assumption) | (simp; done) | (simp; omega) | omega) _ | refine Below.alloc ?_ (by first | (simp; done) | (simp; omega) | omega) _ | refine Below.drew ?_))))) ?_; rintro e w1 ⟨rfl, q, rfl⟩) | (go_at_call 14; refine Calls.mono (gw_at (cC _ (Pts.to hp (by repeat (first | with_reducible exact Below.refl _ _ | with_reducible assumption | refine bgw ?_ (by first | (simp; done) | (simp; omega) | omega) _ | refine Below.setCell ?_ (by first | exact Nat.le_of_not_lt (by assumption) | (simp; done) | (simp; omega) | omega) _ | refine Below.alloc ?_ (by first | (simp; done) | (simp; omega) | omega) _ | refine Below.drew ?_))))) ?_; rintro e w1 ⟨rfl, q, rfl⟩) | (go_at_call 15; refine Calls.mono (gw_at (cB _ (Pts.to hp (by repeat (first | with_reducible exact Below.refl _ _ | with_reducible assumption | refine bgw ?_ (by first | (simp; done) | (simp; omega) | omega) _ | refine Below.setCell ?_ (by first | exact Nat.le_of_not_lt (by assumption) | (simp; done) | (simp; omega) | omega) _ | refine Below.alloc ?_ (by first | (simp; done) | (simp; omega) | omega) _ | refine Below.drew ?_))))) ?_; rintro e w1 ⟨rfl, q, rfl⟩) | (go_at_call 16; refine Calls.mono (cL _ (Pts.to hp (by repeat (first | with_reducible exact Below.refl _ _ | with_reducible assumption | refine bgw ?_ (by first | (simp; done) | (simp; omega) | omega) _ | refine Below.setCell ?_ (by first | exact Nat.le_of_not_lt (by assumption) | (simp; done) | (simp; omega) | omega) _ | refine Below.alloc ?_ (by first | (simp; done) | (simp; omega) | omega) _ | refine Below.drew ?_)))) ?_; rintro e w1 ⟨⟨A1, cap1, rfl, h11, h12, h13⟩, hb1⟩; obtain ⟨q1, rfl⟩ := gw_of_below hb1; clear hb1) | (go_at_call 7; refine Calls.mono (gw_at (e0 _)) ?_; rintro e w1 ⟨rfl, q, rfl⟩))
    go_ret
    exact ⟨rfl, (by repeat (first | with_reducible exact Below.refl _ _ | with_reducible assumption | refine bgw ?_ (by first | (simp; done) | (simp; omega) | omega) _ | refine Below.setCell ?_ (by first | exact Nat.le_of_not_lt (by assumption) | (simp; done) | (simp; omega) | omega) _ | refine Below.alloc ?_ (by first | (simp; done) | (simp; omega) | omega) _ | refine Below.drew ?_))⟩
  have hbv := bnd_val hv hz
  have hin := con_in (K := K) (R := R) (ps := ps) (x := x) (y := y) hv
  rw [hz] at cV
  generalize bndS K R ps px py a = b at *
  obtain ⟨x0, y0, x1, y1⟩ := b
  have cA := fun w' => xval_b x0 y0 x1 y1 w'
  have cX := fun w' => xexp_b x0 y0 x1 y1 2 w'
  rw [show val4 x0 y0 x1 y1 = true from hbv] at cA
  dsimp only at cB
  generalize Bx.exp ⟨x0, y0, x1, y1⟩ 2 = d at *
  obtain ⟨u0, v0, u1, v1⟩ := d
  dsimp only at cX
  have cH := fun w' => xhas_b u0 v0 u1 v1 x y w'
  clear n1 hv hz hbv cL
  cases hC : conS K R ps px py a x y
  · rw [hC] at cC
    clear hC hin
    go_enter Try.func4, Try.ntmps4
    go_upto_region 6 with (first | (go_at_call 6; refine Calls.mono (gw_at (cF _)) ?_; rintro e w1 ⟨rfl, q, rfl⟩) | (go_at_call 13; refine Calls.mono (gw_at (cT _)) ?_; rintro e w1 ⟨rfl, q, rfl⟩) | (go_at_call 9; refine Calls.mono (gw_at (cV _ (Pts.to hp (by repeat (first | with_reducible exact Below.refl _ _ | with_reducible assumption | refine bgw ?_ (by first | (simp; done) | (simp; omega) | omega) _ | refine Below.setCell ?_ (by first | exact Nat.le_of_not_lt (by assumption) | (simp; done) | (simp; omega) | omega) _ | refine Below.alloc ?_ (by first | (simp; done) | (simp; omega) | omega) _ | refine Below.drew ?_))))) ?_; rintro e w1 ⟨rfl, q, rfl⟩) | (go_at_call 15; refine Calls.mono (gw_at (cB _ (Pts.to hp (by repeat (first | with_reducible exact Below.refl _ _ | with_reducible assumption | refine bgw ?_ (by first | (simp; done) | (simp; omega) | omega) _ | refine Below.setCell ?_ (by first | exact Nat.le_of_not_lt (by assumption) | (simp; done) | (simp; omega) | omega) _ | refine Below.alloc ?_ (by first | (simp; done) | (simp; omega) | omega) _ | refine Below.drew ?_))))) ?_; rintro e w1 ⟨rfl, q, rfl⟩))
    refine wp_region_gw (by kernel_rfl) (by kernel_rfl) ?_
    repeat (go_big_quiet_step (first | (go_at_call 17; exact gw_call (cA _)) | (go_at_call 14; exact gw_call (cC _ (Pts.to hp (by repeat (first | with_reducible exact Below.refl _ _ | with_reducible assumption | refine bgw ?_ (by first | (simp; done) | (simp; omega) | omega) _ | refine Below.setCell ?_ (by first | exact Nat.le_of_not_lt (by assumption) | (simp; done) | (simp; omega) | omega) _ | refine Below.alloc ?_ (by first | (simp; done) | (simp; omega) | omega) _ | refine Below.drew ?_))))) | (go_at_call 19; exact gw_call (cX _)) | (go_at_call 18; exact gw_call (cH _)) | (go_at_call 7; exact gw_call (e0 _))))
    refine wpQuiet_nil ?_
    intro w1 hw1
    obtain ⟨q, rfl⟩ := hw1
    go_wp2_with fail
    go_ret
    exact ⟨rfl, (by repeat (first | with_reducible exact Below.refl _ _ | with_reducible assumption | refine bgw ?_ (by first | (simp; done) | (simp; omega) | omega) _ | refine Below.setCell ?_ (by first | exact Nat.le_of_not_lt (by assumption) | (simp; done) | (simp; omega) | omega) _ | refine Below.alloc ?_ (by first | (simp; done) | (simp; omega) | omega) _ | refine Below.drew ?_))⟩
  · rw [hC] at cC
    rw [show has6 u0 v0 u1 v1 x y = true from hin hC] at cH
    clear hC hin
    go_enter Try.func4, Try.ntmps4
    go_upto_region 6 with (first | (go_at_call 6; refine Calls.mono (gw_at (cF _)) ?_; rintro e w1 ⟨rfl, q, rfl⟩) | (go_at_call 13; refine Calls.mono (gw_at (cT _)) ?_; rintro e w1 ⟨rfl, q, rfl⟩) | (go_at_call 9; refine Calls.mono (gw_at (cV _ (Pts.to hp (by repeat (first | with_reducible exact Below.refl _ _ | with_reducible assumption | refine bgw ?_ (by first | (simp; done) | (simp; omega) | omega) _ | refine Below.setCell ?_ (by first | exact Nat.le_of_not_lt (by assumption) | (simp; done) | (simp; omega) | omega) _ | refine Below.alloc ?_ (by first | (simp; done) | (simp; omega) | omega) _ | refine Below.drew ?_))))) ?_; rintro e w1 ⟨rfl, q, rfl⟩) | (go_at_call 15; refine Calls.mono (gw_at (cB _ (Pts.to hp (by repeat (first | with_reducible exact Below.refl _ _ | with_reducible assumption | refine bgw ?_ (by first | (simp; done) | (simp; omega) | omega) _ | refine Below.setCell ?_ (by first | exact Nat.le_of_not_lt (by assumption) | (simp; done) | (simp; omega) | omega) _ | refine Below.alloc ?_ (by first | (simp; done) | (simp; omega) | omega) _ | refine Below.drew ?_))))) ?_; rintro e w1 ⟨rfl, q, rfl⟩))
    refine wp_region_gw (by kernel_rfl) (by kernel_rfl) ?_
    repeat (go_big_quiet_step (first | (go_at_call 17; exact gw_call (cA _)) | (go_at_call 14; exact gw_call (cC _ (Pts.to hp (by repeat (first | with_reducible exact Below.refl _ _ | with_reducible assumption | refine bgw ?_ (by first | (simp; done) | (simp; omega) | omega) _ | refine Below.setCell ?_ (by first | exact Nat.le_of_not_lt (by assumption) | (simp; done) | (simp; omega) | omega) _ | refine Below.alloc ?_ (by first | (simp; done) | (simp; omega) | omega) _ | refine Below.drew ?_))))) | (go_at_call 19; exact gw_call (cX _)) | (go_at_call 18; exact gw_call (cH _)) | (go_at_call 7; exact gw_call (e0 _))))
    refine wpQuiet_nil ?_
    intro w1 hw1
    obtain ⟨q, rfl⟩ := hw1
    go_wp2_with fail
    go_ret
    exact ⟨rfl, (by repeat (first | with_reducible exact Below.refl _ _ | with_reducible assumption | refine bgw ?_ (by first | (simp; done) | (simp; omega) | omega) _ | refine Below.setCell ?_ (by first | exact Nat.le_of_not_lt (by assumption) | (simp; done) | (simp; omega) | omega) _ | refine Below.alloc ?_ (by first | (simp; done) | (simp; omega) | omega) _ | refine Below.drew ?_))⟩

end Go.Proofs.Ytihfmaaacekalaa
