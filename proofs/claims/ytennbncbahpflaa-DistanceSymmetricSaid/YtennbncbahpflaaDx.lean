/- Laws of chapter 17: DistanceSymmetric. -/
import Derived.Test.YtennbncbahpflaaDl
set_option linter.unusedVariables false
namespace Go.Proofs.Ytennbncbahpflaa
open Go.RowKit Fx

set_option maxRecDepth 100000 in
set_option maxHeartbeats 16000000 in
theorem walk_DistanceSymmetric (K R : Int) (A : Option Addr) (cap : Nat) (ps : List (Int × Int)) (px py pa : Int) (K2 R2 : Int) (B_ : Option Addr) (cap2 : Nat) (qs : List (Int × Int)) (qx qy qa : Int) (w : World) (hp : Pts w A ps) (hl : ps.length ≤ cap) (hc : cap ≤ maxLen) (hq : Pts w B_ qs) (hm : qs.length ≤ cap2) (hc2 : cap2 ≤ maxLen) : Calls Try.prog 3 #[.agg #[.int .i64 K, .int .i64 R, .slice A ps.length cap], .agg #[.int .i64 px, .int .i64 py, .int .i64 pa], .agg #[.int .i64 K2, .int .i64 R2, .slice B_ qs.length cap2], .agg #[.int .i64 qx, .int .i64 qy, .int .i64 qa]] w fun e w' => e = .returned (.bool true) ∧ Below w.heap.size w w' := by
  have e0 := example17_b
  have cW := fun w' => small17_b K R K2 R2 A B_ cap cap2 ps qs w'
  by_cases hf : ps.length ≤ 20 ∧ qs.length ≤ 20
  rotate_left
  focus
    rw [decide_eq_false hf] at cW
    go_enter Try.func3, Try.ntmps3
    go_wp2_with (first | (go_at_call 6; refine Calls.mono (gw_at (cW _)) ?_; rintro e w1 ⟨rfl, q, rfl⟩) | (go_at_call 7; refine Calls.mono (gw_at (e0 _)) ?_; rintro e w1 ⟨rfl, q, rfl⟩))
    go_ret
    exact ⟨rfl, bBel⟩
  rw [decide_eq_true hf] at cW
  have cS := fun w' h h' => ysep17_b K R K2 R2 A B_ cap cap2 ps qs px py pa qx qy qa (by omega) (by omega) hl hm w' h h'
  have cT := fun w' h h' => ysep17_b K2 R2 K R B_ A cap2 cap qs ps qx qy qa px py pa (by omega) (by omega) hm hl w' h h'
  have cO := fun w' h h' => yovl17_b K R K2 R2 A B_ cap cap2 ps qs px py pa qx qy qa (by omega) (by omega) hl hm w' h h'
  have cQ := fun w' h h' => yovl17_b K2 R2 K R B_ A cap2 cap qs ps qx qy qa px py pa (by omega) (by omega) hm hl w' h h'
  have cV := fun w' h => rval_b K R A cap ps (by omega) w' h
  have cU := fun w' h => rval_b K2 R2 B_ cap2 qs (by omega) w' h
  rw [sepS_comm] at cT cQ
  have hnn := sepS_nn K R ps px py pa K2 R2 qs qx qy qa
  have hval := @sepS_val K R ps px py pa K2 R2 qs qx qy qa
  generalize sepS K R ps px py pa K2 R2 qs qx qy qa = S at *
  obtain ⟨D, hD, hD2⟩ : ∃ D, decide (S = 0) = D ∧ (S == 0) = D := ⟨_, rfl, rfl⟩
  rw [hD] at cO cQ
  have hcs : ∃ b1 b2 : Bool, (valS K R ps == 0) = b1 ∧ (valS K2 R2 qs == 0) = b2 ∧ ((b1 && b2) = true ∨ S = 536870911 ∧ (b1 && b2) = false) := by
    refine ⟨_, _, rfl, rfl, ?_⟩
    by_cases h : valS K R ps = 0 ∧ valS K2 R2 qs = 0
    · exact .inl (by rw [h.1, h.2]; rfl)
    · refine .inr ⟨hval h, ?_⟩
      rw [Bool.eq_false_iff]; intro e
      rw [Bool.and_eq_true, beq_iff_eq, beq_iff_eq] at e
      exact h e
  clear hD hval hf
  generalize valS K R ps = V at *
  generalize valS K2 R2 qs = U at *
  obtain ⟨b1, b2, h1, h2, hcs⟩ := hcs
  have fin : ∀ b1 b2 : Bool, (b1 && b2) = true ∨ S = 536870911 ∧ (b1 && b2) = false → (b1 = true ∧ b2 = true) ∨ (S = 536870911 ∧ b1 = false) ∨ (S = 536870911 ∧ b1 = true ∧ b2 = false) := fun b1 b2 h => by
    cases b1 <;> cases b2 <;> simp at h ⊢ <;> exact h
  rcases fin b1 b2 hcs with ⟨rfl, rfl⟩ | ⟨hS, rfl⟩ | ⟨hS, rfl, rfl⟩
  · clear hcs fin
    cases D
    all_goals
      go_enter Try.func3, Try.ntmps3
      go_upto_region 5 with (first | (go_at_call 6; refine Calls.mono (gw_at (cW _)) ?_; rintro e w1 ⟨rfl, q, rfl⟩) | (go_at_call 8; refine Calls.mono (gw_at (cS _ (Pts.to hp bBel) (Pts.to hq bBel))) ?_; rintro e w1 ⟨rfl, q1, rfl⟩) | (go_at_call 9; (with_reducible show Calls _ _ #[.agg #[.int .i64 K, .int .i64 R, .slice A _ _]] _ _); refine Calls.mono (gw_at (cV _ (Pts.to hp bBel))) ?_; rintro e w1 ⟨rfl, q2, rfl⟩) | (go_at_call 9; (with_reducible show Calls _ _ #[.agg #[.int .i64 K2, .int .i64 R2, .slice B_ _ _]] _ _); refine Calls.mono (gw_at (cU _ (Pts.to hq bBel))) ?_; rintro e w1 ⟨rfl, q3, rfl⟩))
      refine wp_region_gw (by kernel_rfl) (by kernel_rfl) ?_
      repeat (go_big_quiet_step (first | (go_at_call 8; exact gw_call (cT _ (Pts.to hq bBel) (Pts.to hp bBel))) | (go_at_call 10; (with_reducible show Calls _ _ #[.agg #[.int .i64 K, .int .i64 R, .slice A _ _], _, _, _] _ _); exact gw_call (cO _ (Pts.to hp bBel) (Pts.to hq bBel))) | (go_at_call 10; (with_reducible show Calls _ _ #[.agg #[.int .i64 K2, .int .i64 R2, .slice B_ _ _], _, _, _] _ _); exact gw_call (cQ _ (Pts.to hq bBel) (Pts.to hp bBel))) | (go_at_call 7; exact gw_call (e0 _))))
      refine wpQuiet_nil ?_
      intro w1 hw1
      obtain ⟨q9, rfl⟩ := hw1
      go_wp2_with fail
      go_ret
      exact ⟨rfl, bBel⟩
  · subst hS
    obtain rfl : D = false := by rw [← hD2]; rfl
    clear hcs fin hD2 hnn
    go_enter Try.func3, Try.ntmps3
    go_upto_region 5 with (first | (go_at_call 6; refine Calls.mono (gw_at (cW _)) ?_; rintro e w1 ⟨rfl, q, rfl⟩) | (go_at_call 8; refine Calls.mono (gw_at (cS _ (Pts.to hp bBel) (Pts.to hq bBel))) ?_; rintro e w1 ⟨rfl, q1, rfl⟩) | (go_at_call 9; (with_reducible show Calls _ _ #[.agg #[.int .i64 K, .int .i64 R, .slice A _ _]] _ _); refine Calls.mono (gw_at (cV _ (Pts.to hp bBel))) ?_; rintro e w1 ⟨rfl, q2, rfl⟩))
    refine wp_region_gw (by kernel_rfl) (by kernel_rfl) ?_
    repeat (go_big_quiet_step (first | (go_at_call 8; exact gw_call (cT _ (Pts.to hq bBel) (Pts.to hp bBel))) | (go_at_call 10; (with_reducible show Calls _ _ #[.agg #[.int .i64 K, .int .i64 R, .slice A _ _], _, _, _] _ _); exact gw_call (cO _ (Pts.to hp bBel) (Pts.to hq bBel))) | (go_at_call 10; (with_reducible show Calls _ _ #[.agg #[.int .i64 K2, .int .i64 R2, .slice B_ _ _], _, _, _] _ _); exact gw_call (cQ _ (Pts.to hq bBel) (Pts.to hp bBel))) | (go_at_call 7; exact gw_call (e0 _))))
    refine wpQuiet_nil ?_
    intro w1 hw1
    obtain ⟨q9, rfl⟩ := hw1
    go_wp2_with fail
    go_ret
    exact ⟨rfl, bBel⟩
  · subst hS
    obtain rfl : D = false := by rw [← hD2]; rfl
    clear hcs fin hD2 hnn
    go_enter Try.func3, Try.ntmps3
    go_upto_region 5 with (first | (go_at_call 6; refine Calls.mono (gw_at (cW _)) ?_; rintro e w1 ⟨rfl, q, rfl⟩) | (go_at_call 8; refine Calls.mono (gw_at (cS _ (Pts.to hp bBel) (Pts.to hq bBel))) ?_; rintro e w1 ⟨rfl, q1, rfl⟩) | (go_at_call 9; (with_reducible show Calls _ _ #[.agg #[.int .i64 K, .int .i64 R, .slice A _ _]] _ _); refine Calls.mono (gw_at (cV _ (Pts.to hp bBel))) ?_; rintro e w1 ⟨rfl, q2, rfl⟩) | (go_at_call 9; (with_reducible show Calls _ _ #[.agg #[.int .i64 K2, .int .i64 R2, .slice B_ _ _]] _ _); refine Calls.mono (gw_at (cU _ (Pts.to hq bBel))) ?_; rintro e w1 ⟨rfl, q3, rfl⟩))
    refine wp_region_gw (by kernel_rfl) (by kernel_rfl) ?_
    repeat (go_big_quiet_step (first | (go_at_call 8; exact gw_call (cT _ (Pts.to hq bBel) (Pts.to hp bBel))) | (go_at_call 10; (with_reducible show Calls _ _ #[.agg #[.int .i64 K, .int .i64 R, .slice A _ _], _, _, _] _ _); exact gw_call (cO _ (Pts.to hp bBel) (Pts.to hq bBel))) | (go_at_call 10; (with_reducible show Calls _ _ #[.agg #[.int .i64 K2, .int .i64 R2, .slice B_ _ _], _, _, _] _ _); exact gw_call (cQ _ (Pts.to hq bBel) (Pts.to hp bBel))) | (go_at_call 7; exact gw_call (e0 _))))
    refine wpQuiet_nil ?_
    intro w1 hw1
    obtain ⟨q9, rfl⟩ := hw1
    go_wp2_with fail
    go_ret
    exact ⟨rfl, bBel⟩

end Go.Proofs.Ytennbncbahpflaa
