/- Laws of chapter 16: ManifoldCirclePolygon, ManifoldFlip. -/
import Derived.Test.YtiecpebckmihgaaMnL
set_option linter.unusedVariables false
namespace Go.Proofs.Ytiecpebckmihgaa
open Go.RowKit Fx

theorem col_turn (Ra Rb : Int) (ps qs : List Pt) (px py pa qx qy qa : Int) : col 1 Ra ps px py pa 3 Rb qs qx qy qa = (col 3 Rb qs qx qy qa 1 Ra ps px py pa).flip := by
  unfold col
  by_cases h : valS 1 Ra ps = 0 ∧ valS 3 Rb qs = 0
  · rw [if_pos h, if_pos h.symm, ← nz_flip]
    unfold colC
    rw [if_neg (by decide), if_neg (by decide), if_pos rfl, if_neg (by decide), if_pos rfl]
  · rw [if_neg h, if_neg (fun g => h g.symm), flip_mz]

set_option maxRecDepth 100000 in
set_option maxHeartbeats 16000000 in
theorem walk_ManifoldCirclePolygon (K R : Int) (A : Option Addr) (cap : Nat) (ps : List (Int × Int)) (px py pa : Int) (K2 R2 : Int) (B_ : Option Addr) (cap2 : Nat) (qs : List (Int × Int)) (qx qy qa : Int) (w : World) (hp : Pts w A ps) (hl : ps.length ≤ cap) (hc : cap ≤ maxLen) (hq : Pts w B_ qs) (hm : qs.length ≤ cap2) (hc2 : cap2 ≤ maxLen) : Calls Try.prog 4 #[.agg #[.int .i64 K, .int .i64 R, .slice A ps.length cap], .agg #[.int .i64 px, .int .i64 py, .int .i64 pa], .agg #[.int .i64 K2, .int .i64 R2, .slice B_ qs.length cap2], .agg #[.int .i64 qx, .int .i64 qy, .int .i64 qa]] w fun e w' => e = .returned (.bool true) ∧ Below w.heap.size w w' := by
  have e0 := example16_b
  have cW := fun w' => few_b K R K2 R2 A B_ cap cap2 ps qs w'
  by_cases hf : ps.length ≤ 20 ∧ qs.length ≤ 20
  rotate_left
  focus
    rw [decide_eq_false hf] at cW
    go_enter Try.func4, Try.ntmps4
    go_wp2_with (first | (go_at_call 13; refine Calls.mono (gw_at (cW _)) ?_; rintro e w1 ⟨rfl, q, rfl⟩) | (go_at_call 6; refine Calls.mono (gw_at (e0 _)) ?_; rintro e w1 ⟨rfl, q, rfl⟩))
    go_ret
    exact ⟨rfl, (by repeat (first | with_reducible exact Below.refl _ _ | with_reducible assumption | refine bgw ?_ (by first | (simp; done) | (simp; omega) | omega) _ | refine Below.setCell ?_ (by first | exact Nat.le_of_not_lt (by assumption) | (simp; done) | (simp; omega) | omega) _ | refine Below.alloc ?_ (by first | (simp; done) | (simp; omega) | omega) _ | refine Below.drew ?_))⟩
  rw [decide_eq_true hf] at cW
  by_cases hK : K = 1
  rotate_left
  focus
    have b1 : (K != 1) = true := by rw [bne_iff_ne]; exact hK
    clear hK hf
    go_enter Try.func4, Try.ntmps4
    go_wp2_with (first | (go_at_call 13; refine Calls.mono (gw_at (cW _)) ?_; rintro e w1 ⟨rfl, q, rfl⟩) | (go_at_call 6; refine Calls.mono (gw_at (e0 _)) ?_; rintro e w1 ⟨rfl, q, rfl⟩))
    go_ret
    exact ⟨rfl, (by repeat (first | with_reducible exact Below.refl _ _ | with_reducible assumption | refine bgw ?_ (by first | (simp; done) | (simp; omega) | omega) _ | refine Below.setCell ?_ (by first | exact Nat.le_of_not_lt (by assumption) | (simp; done) | (simp; omega) | omega) _ | refine Below.alloc ?_ (by first | (simp; done) | (simp; omega) | omega) _ | refine Below.drew ?_))⟩
  by_cases hK2 : K2 = 3
  rotate_left
  focus
    subst hK
    have b1 : (K2 != 3) = true := by rw [bne_iff_ne]; exact hK2
    clear hK2 hf
    go_enter Try.func4, Try.ntmps4
    go_wp2_with (first | (go_at_call 13; refine Calls.mono (gw_at (cW _)) ?_; rintro e w1 ⟨rfl, q, rfl⟩) | (go_at_call 6; refine Calls.mono (gw_at (e0 _)) ?_; rintro e w1 ⟨rfl, q, rfl⟩))
    go_ret
    exact ⟨rfl, (by repeat (first | with_reducible exact Below.refl _ _ | with_reducible assumption | refine bgw ?_ (by first | (simp; done) | (simp; omega) | omega) _ | refine Below.setCell ?_ (by first | exact Nat.le_of_not_lt (by assumption) | (simp; done) | (simp; omega) | omega) _ | refine Below.alloc ?_ (by first | (simp; done) | (simp; omega) | omega) _ | refine Below.drew ?_))⟩
  subst hK hK2
  have cX := fun w' h1 h2 => mnt_ex (mcol_b 1 R 3 R2 A B_ cap cap2 ps qs px py pa qx qy qa (by omega) (by omega) hl hm (fun _ _ _ _ h => absurd rfl h) w' h1 h2)
  have cY := fun w' h2 h1 => mnt_ex (mcol_b 3 R2 1 R B_ A cap2 cap qs ps qx qy qa px py pa (by omega) (by omega) hm hl (fun _ _ _ h _ => absurd rfl h) w' h2 h1)
  rw [col_turn] at cX
  have hok := ok_col 3 R2 qs qx qy qa 1 R ps px py pa
  generalize col 3 R2 qs qx qy qa 1 R ps px py pa = N at *
  obtain ⟨nx, ny, l⟩ := N
  have hlen : l.length ≤ 2 := by
    rcases hok.2 with h | ⟨c, h⟩ | ⟨c, d, h, _⟩ <;> (dsimp only at h; rw [h]; simp)
  clear hok
  have cX2 : ∀ w', Pts w' A ps → Pts w' B_ qs → Calls Try.prog 14 #[.agg #[.int .i64 1, .int .i64 R, .slice A ps.length cap], .agg #[.int .i64 px, .int .i64 py, .int .i64 pa], .agg #[.int .i64 3, .int .i64 R2, .slice B_ qs.length cap2], .agg #[.int .i64 qx, .int .i64 qy, .int .i64 qa]] w' fun e w'' => (∃ A' cap', e = .returned (.tuple #[.agg #[.int .i64 (ng nx), .int .i64 (ng ny), .slice A' l.length cap'], .bool (decide (l ≠ []))]) ∧ l.length ≤ cap' ∧ cap' ≤ maxLen ∧ (A' = none → cap' = 0) ∧ Cnts w'' A' l) ∧ ∃ q, w'' = gw w' q := cX
  have cY2 : ∀ w', Pts w' B_ qs → Pts w' A ps → Calls Try.prog 14 #[.agg #[.int .i64 3, .int .i64 R2, .slice B_ qs.length cap2], .agg #[.int .i64 qx, .int .i64 qy, .int .i64 qa], .agg #[.int .i64 1, .int .i64 R, .slice A ps.length cap], .agg #[.int .i64 px, .int .i64 py, .int .i64 pa]] w' fun e w'' => (∃ A' cap', e = .returned (.tuple #[.agg #[.int .i64 nx, .int .i64 ny, .slice A' l.length cap'], .bool (decide (l ≠ []))]) ∧ l.length ≤ cap' ∧ cap' ≤ maxLen ∧ (A' = none → cap' = 0) ∧ Cnts w'' A' l) ∧ ∃ q, w'' = gw w' q := cY
  clear cX cY hf
  obtain ⟨D, hD⟩ : ∃ D, decide (l ≠ []) = D := ⟨_, rfl⟩
  rw [hD] at cX2 cY2
  have cF := fun A' c' h1 h2 w' h => mnf_ex (mflip_b nx ny A' c' l (by omega) h1 h2 w' h)
  have cE := fun A1 c1 A2 c2 w' h1 h2 => re16_b (ng nx) (ng ny) A1 c1 l (ng nx) (ng ny) A2 c2 l (by omega) (by omega) w' h1 h2
  rw [show eqM (ng nx) (ng ny) l (ng nx) (ng ny) l = true from by unfold eqM; simp] at cE
  clear hD
  go_enter Try.func4, Try.ntmps4
  go_upto_region 5 with (first | (go_at_call 13; refine Calls.mono (gw_at (cW _)) ?_; rintro e w1 ⟨rfl, q, rfl⟩) | (go_at_call 14; (with_reducible show Calls _ _ #[.agg #[.int .i64 1, .int .i64 R, .slice A _ _], _, _, _] _ _); refine Calls.mono (cX2 _ (Pts.to hp (by repeat (first | with_reducible exact Below.refl _ _ | with_reducible assumption | refine bgw ?_ (by first | (simp; done) | (simp; omega) | omega) _ | refine Below.setCell ?_ (by first | exact Nat.le_of_not_lt (by assumption) | (simp; done) | (simp; omega) | omega) _ | refine Below.alloc ?_ (by first | (simp; done) | (simp; omega) | omega) _ | refine Below.drew ?_))) (Pts.to hq (by repeat (first | with_reducible exact Below.refl _ _ | with_reducible assumption | refine bgw ?_ (by first | (simp; done) | (simp; omega) | omega) _ | refine Below.setCell ?_ (by first | exact Nat.le_of_not_lt (by assumption) | (simp; done) | (simp; omega) | omega) _ | refine Below.alloc ?_ (by first | (simp; done) | (simp; omega) | omega) _ | refine Below.drew ?_)))) ?_; rintro e w1 ⟨⟨A5, c5, rfl, hle5, hmx5, hnil5, hP5⟩, q5, rfl⟩) | (go_at_call 14; (with_reducible show Calls _ _ #[.agg #[.int .i64 3, .int .i64 R2, .slice B_ _ _], _, _, _] _ _); refine Calls.mono (cY2 _ (Pts.to hq (by repeat (first | with_reducible exact Below.refl _ _ | with_reducible assumption | refine bgw ?_ (by first | (simp; done) | (simp; omega) | omega) _ | refine Below.setCell ?_ (by first | exact Nat.le_of_not_lt (by assumption) | (simp; done) | (simp; omega) | omega) _ | refine Below.alloc ?_ (by first | (simp; done) | (simp; omega) | omega) _ | refine Below.drew ?_))) (Pts.to hp (by repeat (first | with_reducible exact Below.refl _ _ | with_reducible assumption | refine bgw ?_ (by first | (simp; done) | (simp; omega) | omega) _ | refine Below.setCell ?_ (by first | exact Nat.le_of_not_lt (by assumption) | (simp; done) | (simp; omega) | omega) _ | refine Below.alloc ?_ (by first | (simp; done) | (simp; omega) | omega) _ | refine Below.drew ?_)))) ?_; rintro e w1 ⟨⟨A6, c6, rfl, hle6, hmx6, hnil6, hP6⟩, q6, rfl⟩))
  refine wp_named ?_
  intro W hW
  have kM : blk W (w.heap.size + 1 + 1 + 1 + 1 + q.os.size + q5.os.size) #[.int .i64 (ng nx), .int .i64 (ng ny), .slice A5 l.length c5] 26 := by rw [hW]; exact (by repeat (first | with_reducible exact blk_new _ _ _ | ((with_reducible refine blk_at ?_); (simp; done)) | with_reducible apply blk_alloc | with_reducible apply blk_gw | with_reducible apply blk_drew))
  have kN : blk W (w.heap.size + 1 + 1 + 1 + 1 + q.os.size + q5.os.size + 1 + q6.os.size) #[.int .i64 nx, .int .i64 ny, .slice A6 l.length c6] 26 := by rw [hW]; exact (by repeat (first | with_reducible exact blk_new _ _ _ | ((with_reducible refine blk_at ?_); (simp; done)) | with_reducible apply blk_alloc | with_reducible apply blk_gw | with_reducible apply blk_drew))
  have hbW : Below w.heap.size w W := by rw [hW]; exact (by repeat (first | with_reducible exact Below.refl _ _ | with_reducible assumption | refine bgw ?_ (by first | (simp; done) | (simp; omega) | omega) _ | refine Below.setCell ?_ (by first | exact Nat.le_of_not_lt (by assumption) | (simp; done) | (simp; omega) | omega) _ | refine Below.alloc ?_ (by first | (simp; done) | (simp; omega) | omega) _ | refine Below.drew ?_))
  have hP5W : Cnts W A5 l := by rw [hW]; exact Cnts.to hP5 (by repeat (first | with_reducible exact Below.refl _ _ | with_reducible assumption | refine bgw ?_ (by first | (simp; done) | (simp; omega) | omega) _ | refine Below.setCell ?_ (by first | exact Nat.le_of_not_lt (by assumption) | (simp; done) | (simp; omega) | omega) _ | refine Below.alloc ?_ (by first | (simp; done) | (simp; omega) | omega) _ | refine Below.drew ?_))
  have hP6W : Cnts W A6 l := by rw [hW]; exact Cnts.to hP6 (by repeat (first | with_reducible exact Below.refl _ _ | with_reducible assumption | refine bgw ?_ (by first | (simp; done) | (simp; omega) | omega) _ | refine Below.setCell ?_ (by first | exact Nat.le_of_not_lt (by assumption) | (simp; done) | (simp; omega) | omega) _ | refine Below.alloc ?_ (by first | (simp; done) | (simp; omega) | omega) _ | refine Below.drew ?_))
  clear hW hP5 hP6 cX2 cY2 cW
  generalize w.heap.size + 1 + 1 + 1 + 1 + q.os.size + q5.os.size = M1 at *
  generalize M1 + 1 + q6.os.size = M2 at *
  have hszW := hbW.size
  have okM := blk_older kM
  have ckM_0 : _ = some _ := blk_cell kM 0
  have ckM_1 : _ = some _ := blk_cell kM 1
  have ckM_2 : _ = some _ := blk_cell kM 2
  have fkM_0 := blk_free kM 0
  have fkM_1 := blk_free kM 1
  have fkM_2 := blk_free kM 2
  have okN := blk_older kN
  have ckN_0 : _ = some _ := blk_cell kN 0
  have ckN_1 : _ = some _ := blk_cell kN 1
  have ckN_2 : _ = some _ := blk_cell kN 2
  have fkN_0 := blk_free kN 0
  have fkN_1 := blk_free kN 1
  have fkN_2 := blk_free kN 2
  cases D
  all_goals
    refine wp_mix 17 [0, 0, 3, 7, 15, 31, 63, 127, 127, 383, 1023, 2047, 4095, 8191, 16383, 32767, 65535] [] [0, 1, 2, 3, 4, 5, 6, 7, 8, 9, 10, 11, 12, 13, 14, 15, 16] (by kernel_rfl) (by kernel_rfl) ?_
    repeat (first | (refine mix_skip (by rfl) (by rfl) (by rfl) (by rfl) ?_) | (refine mix_early (by rfl) (by rfl) (by rfl) ?_; go_big_quiet_step (fail); with_reducible refine wpQuiet_nil ?_) | (refine mix_late (by rfl) (by rfl) (by rfl) ?_; go_big_quiet_step (fail); with_reducible refine wpQuiet_nil ?_) | (refine mix_call (by rfl) (by rfl) (by rfl) ?_; intro pM Qs hQs; go_wp2_with (first | (go_at_call 7; refine Calls.mono (cF _ _ hle6 hnil6 _ (Cnts.to hP6W (by repeat (first | with_reducible exact Below.refl _ _ | with_reducible assumption | refine bgw ?_ (by first | (simp; done) | (simp; omega) | omega) _ | refine Below.setCell ?_ (by first | exact Nat.le_of_not_lt (by assumption) | (simp; done) | (simp; omega) | omega) _ | refine Below.alloc ?_ (by first | (simp; done) | (simp; omega) | omega) _ | refine Below.drew ?_)))) ?_; rintro e w1 ⟨⟨A7, c7, rfl, hle7, hmx7, hnil7, hP7, hfr7⟩, q7, rfl⟩) | (go_at_call 9; refine Calls.mono (gw_at (cE _ _ _ _ _ (Cnts.to hP5W (by repeat (first | with_reducible exact Below.refl _ _ | with_reducible assumption | refine bgw ?_ (by first | (simp; done) | (simp; omega) | omega) _ | refine Below.setCell ?_ (by first | exact Nat.le_of_not_lt (by assumption) | (simp; done) | (simp; omega) | omega) _ | refine Below.alloc ?_ (by first | (simp; done) | (simp; omega) | omega) _ | refine Below.drew ?_))) (Cnts.to hP7 (by repeat (first | with_reducible exact Below.refl _ _ | with_reducible assumption | refine bgw ?_ (by first | (simp; done) | (simp; omega) | omega) _ | refine Below.setCell ?_ (by first | exact Nat.le_of_not_lt (by assumption) | (simp; done) | (simp; omega) | omega) _ | refine Below.alloc ?_ (by first | (simp; done) | (simp; omega) | omega) _ | refine Below.drew ?_))))) ?_; rintro e w1 ⟨rfl, q8, rfl⟩) | (go_at_call 6; refine Calls.mono (gw_at (e0 _)) ?_; rintro e w1 ⟨rfl, q9, rfl⟩)); refine hQs _ _ (by repeat (first | with_reducible exact Below.refl _ _ | with_reducible assumption | refine bgw ?_ (by first | (simp; done) | (simp; omega) | omega) _ | refine Below.setCell ?_ (by first | exact Nat.le_of_not_lt (by assumption) | (simp; done) | (simp; omega) | omega) _ | refine Below.alloc ?_ (by first | (simp; done) | (simp; omega) | omega) _ | refine Below.drew ?_)) ?_))
    refine mix_end ?_
    intro pE
    simp only [List.drop_succ_cons, List.drop_zero]
    go_wp2_with fail
    go_ret
    exact ⟨rfl, (by repeat (first | with_reducible exact Below.refl _ _ | with_reducible assumption | refine bgw ?_ (by first | (simp; done) | (simp; omega) | omega) _ | refine Below.setCell ?_ (by first | exact Nat.le_of_not_lt (by assumption) | (simp; done) | (simp; omega) | omega) _ | refine Below.alloc ?_ (by first | (simp; done) | (simp; omega) | omega) _ | refine Below.drew ?_))⟩

end Go.Proofs.Ytiecpebckmihgaa
