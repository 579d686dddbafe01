/- Laws of chapter 16: the example, ManifoldCircles, ManifoldCirclePolygon. -/
import Derived.Test.YtiecpebckmihgaaGreatMnY
set_option linter.unusedVariables false
namespace Go.Proofs.YtiecpebckmihgaaGreat
open Go.RowKit Fx

theorem cnts_al1 {V : World} {t t' : TypeId} {c' : Array Value} {q : Gw} {A : Option Addr} {l : List Cnt} (h : Cnts (gw (V.alloc (.cells #[.int .i64 0, .int .i64 0, .slice none 0 0] t)) q) A l) : Cnts (gw (V.alloc (.cells c' t')) q) A l :=
  cnts_keep (blk_gw (blk_new _ _ _)) h fun b hb => sm_gw (sm_alloc hb)
theorem cnts_al2 {V : World} {t t' : TypeId} {c' : Array Value} {q q' : Gw} {A : Option Addr} {l : List Cnt} (h : Cnts (gw (gw (V.alloc (.cells #[.int .i64 0, .int .i64 0, .slice none 0 0] t)) q) q') A l) : Cnts (gw (gw (V.alloc (.cells c' t')) q) q') A l :=
  cnts_keep (blk_gw (blk_gw (blk_new _ _ _))) h fun b hb => sm_gw (sm_gw (sm_alloc hb))
theorem cnts_al3 {V : World} {t t' : TypeId} {c' : Array Value} {q q' q2 : Gw} {A : Option Addr} {l : List Cnt} (h : Cnts (gw (gw (gw (V.alloc (.cells #[.int .i64 0, .int .i64 0, .slice none 0 0] t)) q) q') q2) A l) : Cnts (gw (gw (gw (V.alloc (.cells c' t')) q) q') q2) A l :=
  cnts_keep (blk_gw (blk_gw (blk_gw (blk_new _ _ _)))) h fun b hb => sm_gw (sm_gw (sm_gw (sm_alloc hb)))

theorem ccol_b (r s px py qx qy : Int) (M : Mn) (hM : col 1 r [(0, 0)] px py 0 1 s [(0, 0)] qx qy 0 = M) (A1 A2 : Option Addr) (w : World) (h1 : Pts w A1 [(0, 0)]) (h2 : Pts w A2 [(0, 0)]) : Calls Tryz.prog 8 #[.agg #[.int .i64 1, .int .i64 r, .slice A1 1 1], .agg #[.int .i64 px, .int .i64 py, .int .i64 0], .agg #[.int .i64 1, .int .i64 s, .slice A2 1 1], .agg #[.int .i64 qx, .int .i64 qy, .int .i64 0]] w (MnT w M (decide (M.l ≠ []))) := by
  subst hM
  exact mcol_b 1 r 1 s A1 A2 1 1 [(0, 0)] [(0, 0)] px py 0 qx qy 0 (by decide) (by decide) (by decide) (by decide) (fun _ _ h _ _ => absurd h (by decide)) w h1 h2

set_option maxHeartbeats 8000000 in
theorem example16_b (w : World) : Calls Tryz.prog 7 #[] w fun e w' => e = .returned (.bool true) ∧ Below w.heap.size w w' := by
  have cC := circ_b 65536
  have cA : ∀ A1 A2 w', Pts w' A1 [(0, 0)] → Pts w' A2 [(0, 0)] → Calls Tryz.prog 8 #[.agg #[.int .i64 1, .int .i64 65536, .slice A1 1 1], .agg #[.int .i64 0, .int .i64 0, .int .i64 0], .agg #[.int .i64 1, .int .i64 65536, .slice A2 1 1], .agg #[.int .i64 65536, .int .i64 0, .int .i64 0]] w' fun e w'' => (∃ A' cap', e = .returned (.tuple #[.agg #[.int .i64 65536, .int .i64 0, .slice A' 1 cap'], .bool true]) ∧ Cnts w'' A' [⟨32768, 0, -65536, 0, 0, 0⟩]) ∧ ∃ q, w'' = gw w' q := fun A1 A2 w' h1 h2 => (mnt_ex (ccol_b 65536 65536 0 0 65536 0 _ ex16_a A1 A2 w' h1 h2)).mono fun e w'' ⟨⟨A', cap', h1, _, _, _, h2⟩, h3⟩ => ⟨⟨A', cap', h1, h2⟩, h3⟩
  have cB : ∀ A1 A2 w', Pts w' A1 [(0, 0)] → Pts w' A2 [(0, 0)] → Calls Tryz.prog 8 #[.agg #[.int .i64 1, .int .i64 65536, .slice A1 1 1], .agg #[.int .i64 0, .int .i64 0, .int .i64 0], .agg #[.int .i64 1, .int .i64 65536, .slice A2 1 1], .agg #[.int .i64 196608, .int .i64 0, .int .i64 0]] w' fun e w'' => (∃ A' cap', e = .returned (.tuple #[.agg #[.int .i64 0, .int .i64 0, .slice A' 0 cap'], .bool false])) ∧ ∃ q, w'' = gw w' q := fun A1 A2 w' h1 h2 => (mnt_ex (ccol_b 65536 65536 0 0 196608 0 _ ex16_b A1 A2 w' h1 h2)).mono fun e w'' ⟨⟨A', cap', h1, _⟩, h3⟩ => ⟨⟨A', cap', h1⟩, h3⟩
  have cE : ∀ A1 c1 A2 w', Cnts w' A1 [⟨32768, 0, -65536, 0, 0, 0⟩] → Cnts w' A2 [⟨32768, 0, -65536, 0, 0, 0⟩] → Calls Tryz.prog 11 #[.agg #[.int .i64 65536, .int .i64 0, .slice A1 1 c1], .agg #[.int .i64 65536, .int .i64 0, .slice A2 1 1]] w' fun e w'' => e = .returned (.bool true) ∧ Below w'.heap.size w' w'' := fun A1 c1 A2 w' h1 h2 => re16_b 65536 0 A1 c1 [⟨32768, 0, -65536, 0, 0, 0⟩] 65536 0 A2 1 [⟨32768, 0, -65536, 0, 0, 0⟩] (by decide) (by decide) w' h1 h2
  go_enter Tryz.func7, Tryz.ntmps7
  go_upto_region 2 with (first | (go_at_call 13; refine Calls.mono (cC _) ?_; rintro e w1 ⟨⟨b1, rfl, hP1⟩, q1, rfl⟩) | (go_at_call 8; refine Calls.mono (cA _ _ _ (Pts.to (by assumption) bBel) (Pts.to (by assumption) bBel)) ?_; rintro e w1 ⟨⟨A5, c5, rfl, hP5⟩, q5, rfl⟩))
  refine wp_named ?_
  intro W hW
  have kM := blk_top hW
  simp at kM
  have hbW : Below w.heap.size w W := by rw [hW]; exact bBel
  have hPW : Cnts W A5 [⟨32768, 0, -65536, 0, 0, 0⟩] := by rw [hW]; exact Cnts.to hP5 bBel
  have hszW := hbW.size
  clear hW hP5 cA
  have okM := blk_older kM
  have ckM_0 : _ = some _ := blk_cell kM 0
  have ckM_1 : _ = some _ := blk_cell kM 1
  have ckM_2 : _ = some _ := blk_cell kM 2
  have fkM_0 := blk_free kM 0
  have fkM_1 := blk_free kM 1
  have fkM_2 := blk_free kM 2
  go_wp2_with (first | (go_at_call 13; refine Calls.mono (cC _) ?_; rintro e w1 ⟨⟨b2, rfl, hP2⟩, q2, rfl⟩) | (go_at_call 8; refine Calls.mono (cB _ _ _ (Pts.to (by assumption) bBel) (Pts.to (by assumption) bBel)) ?_; rintro e w1 ⟨⟨A6, c6, rfl⟩, q6, rfl⟩) | (go_at_call 11; refine Calls.mono (gw_at (cE _ _ _ _ (Cnts.to hPW bBel) (cnts_one (t := 39) (by show blk _ _ #[.int .i64 32768, .int .i64 0, .int .i64 (-65536), .int .i64 0, .int .i64 0, .int .i64 0] _; exact bBkn)))) ?_; rintro e w1 ⟨rfl, q7, rfl⟩))
  go_ret
  exact ⟨rfl, bBel⟩

set_option maxHeartbeats 4000000 in
theorem few_b (Ka Ra Kb Rb : Int) (A B_ : Option Addr) (ca cb : Nat) (ps qs : List (Int × Int)) (w : World) : Calls Tryz.prog 6 #[.agg #[.int .i64 Ka, .int .i64 Ra, .slice A ps.length ca], .agg #[.int .i64 Kb, .int .i64 Rb, .slice B_ qs.length cb]] w fun e w' => e = .returned (.bool (decide (ps.length ≤ 20 ∧ qs.length ≤ 20))) ∧ Below w.heap.size w w' := by
  by_cases c1 : (ps.length : Int) ≤ 20
  · by_cases c2 : (qs.length : Int) ≤ 20
    · rw [show decide (ps.length ≤ 20 ∧ qs.length ≤ 20) = true from decide_eq_true ⟨by omega, by omega⟩]
      go_enter Tryz.func6, Tryz.ntmps6
      go_wp2_with fail
      all_goals (go_ret; refine ⟨?_, bBel⟩; first | rfl | (simp; done) | (simp; omega) | (simp; rw [Bool.eq_iff_iff]; first | (simp; done) | (simp; omega)))
    · rw [show decide (ps.length ≤ 20 ∧ qs.length ≤ 20) = false from decide_eq_false (by omega)]
      go_enter Tryz.func6, Tryz.ntmps6
      go_wp2_with fail
      all_goals (go_ret; refine ⟨?_, bBel⟩; first | rfl | (simp; done) | (simp; omega) | (simp; rw [Bool.eq_iff_iff]; first | (simp; done) | (simp; omega)))
  · rw [show decide (ps.length ≤ 20 ∧ qs.length ≤ 20) = false from decide_eq_false (by omega)]
    go_enter Tryz.func6, Tryz.ntmps6
    go_wp2_with fail
    all_goals (go_ret; refine ⟨?_, bBel⟩; first | rfl | (simp; done) | (simp; omega) | (simp; rw [Bool.eq_iff_iff]; first | (simp; done) | (simp; omega)))

end Go.Proofs.YtiecpebckmihgaaGreat
